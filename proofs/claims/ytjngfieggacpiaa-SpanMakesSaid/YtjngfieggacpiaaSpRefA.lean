/-
  THE WALKS over the reference of layer 2: checks, the next and the previous address, the last address and the span of a prefix.
-/
import Derived.Test.YtjngfieggacpiaaSpRefM
import Derived.Test.YtjngfieggacpiaaSpanG
namespace Go.Proofs.Ytjngfieggacpiaa
open Go.RowKit Adr Spn
set_option linter.unusedVariables false
set_option linter.unusedSimpArgs false
theorem rcmpN_any (A B : Nat) (w : World) :
    Calls Try.prog 29 #[.agg #[.int .u64 (aH A), .int .u64 (aL A)], .agg #[.int .u64 (aH B), .int .u64 (aL B)]] w fun e w' => e = .returned (.int .i64 (cmpN A B)) ∧ Below w.heap.size w w' := by
  have h := rcmp_any (aH A) (aL A) (aH B) (aL B) w
  rw [cmp_num] at h
  exact h
theorem risA_any (f : Int) (N : Nat) (w : World) :
    Calls Try.prog 23 #[.int .u8 f, .agg #[.int .u64 (aH N), .int .u64 (aL N)]] w fun e w' => e = .returned (.bool (isA f N)) ∧ Below w.heap.size w w' := by
  have h := rca_any f (aH N) (aL N) w (aL_u N).1
  rw [ca_num] at h
  exact h
theorem wid_isA (f : Int) : (wid f == 0) = !isA f 0 := by
  unfold wid isA
  by_cases h4 : f = 4
  · subst h4; rfl
  · rw [if_neg h4, if_neg h4]
    by_cases h6 : f = 6
    · subst h6; rfl
    · rw [if_neg h6]
      simp [h6]
set_option maxRecDepth 100000 in
set_option maxHeartbeats 2000000 in
theorem rschk_core (f a b c d wd : Int) (w : World) (c1 c2 : Bool) (k : Int)
    (h0 : ∀ w, Calls Try.prog 28 #[.int .u8 f] w fun e w' => e = .returned (.int .i64 wd) ∧ w = w')
    (h1 : ∀ w, Calls Try.prog 23 #[.int .u8 f, .agg #[.int .u64 a, .int .u64 b]] w fun e w' => e = .returned (.bool c1) ∧ Below w.heap.size w w')
    (h2 : ∀ w, Calls Try.prog 23 #[.int .u8 f, .agg #[.int .u64 c, .int .u64 d]] w fun e w' => e = .returned (.bool c2) ∧ Below w.heap.size w w')
    (h3 : ∀ w, Calls Try.prog 29 #[.agg #[.int .u64 a, .int .u64 b], .agg #[.int .u64 c, .int .u64 d]] w fun e w' => e = .returned (.int .i64 k) ∧ Below w.heap.size w w') :
    Calls Try.prog 14 #[.int .u8 f, .agg #[.int .u64 a, .int .u64 b, .int .u64 c, .int .u64 d]] w fun e w' => e = .returned (.int .i64 (if (wd == 0) = false then (if (c1 && c2 && decide (k ≤ 0)) = true then 0 else 8) else 2)) ∧ Below w.heap.size w w' := by
  have H0 := Lib.hid h0
  have H1 := Lib.hid h1
  have H2 := Lib.hid h2
  have H3 := Lib.hid h3
  clear h0 h1 h2 h3
  obtain ⟨R, hR⟩ : ∃ R : Int, (if (wd == 0) = false then (if (c1 && c2 && decide (k ≤ 0)) = true then 0 else 8) else 2) = R := ⟨_, rfl⟩
  have HR := Lib.hid hR
  rw [hR]
  clear hR
  obtain ⟨c0, hc0⟩ : ∃ c0, (wd == 0) = c0 := ⟨_, rfl⟩
  go_enter Try.func14, Try.ntmps14
  go_wp2_with fail
  generalize hv : World.alloc _ _ = v
  have TS : RowKit.Hid (Sp4 w.heap.size v a b c d) := Lib.hid (by rw [← hv]; exact Sp4.new w a b c d _)
  have HB := Lib.hid (show Below w.heap.size w v by rw [← hv]; exact below_new _ _)
  clear hv
  refine (H0.out v).mono ?_
  rintro e w1 ⟨rfl, rfl⟩
  cases c0
  rotate_left
  · obtain rfl : 2 = R := by have := HR.out; rw [hc0] at this; simpa using this
    go_wp2_with fail
    go_ret
    exact ⟨rfl, HB.out⟩
  · obtain ⟨s0, s1, s2, s3, _⟩ := TS.out
    have HC0 := Lib.hid hc0
    go_wp2_with fail
    refine (H1.out v).mono ?_
    rintro e w2 ⟨rfl, hb2⟩
    have TS2 := Lib.hid (TS.out.on hb2)
    have HB2 := Lib.hid (HB.out.trans (hb2.mono HB.out.size))
    clear hb2 TS HB s0 s1 s2 s3
    obtain ⟨s0, s1, s2, s3, _⟩ := TS2.out
    cases c1
    · obtain rfl : 8 = R := by have := HR.out; rw [HC0.out] at this; simpa using this
      go_wp2_with fail
      go_ret
      exact ⟨rfl, HB2.out⟩
    · go_wp2_with fail
      refine (H2.out w2).mono ?_
      rintro e w3 ⟨rfl, hb3⟩
      have TS3 := Lib.hid (TS2.out.on hb3)
      have HB3 := Lib.hid (HB2.out.trans (hb3.mono HB2.out.size))
      clear hb3 TS2 HB2 s0 s1 s2 s3
      obtain ⟨s0, s1, s2, s3, _⟩ := TS3.out
      cases c2
      · obtain rfl : 8 = R := by have := HR.out; rw [HC0.out] at this; simpa using this
        go_wp2_with fail
        go_ret
        exact ⟨rfl, HB3.out⟩
      · go_wp2_with fail
        refine (H3.out w3).mono ?_
        rintro e w4 ⟨rfl, hb4⟩
        have HB4 := Lib.hid (HB3.out.trans (hb4.mono HB3.out.size))
        clear hb4 TS3 HB3 s0 s1 s2 s3
        by_cases hk : k ≤ 0
        · obtain rfl : 0 = R := by have := HR.out; rw [HC0.out] at this; simpa [hk] using this
          go_wp2_with fail
          go_ret
          exact ⟨rfl, HB4.out⟩
        · obtain rfl : 8 = R := by have := HR.out; rw [HC0.out] at this; simpa [hk] using this
          have hk' : 0 < k := by omega
          go_wp2_with fail
          go_ret
          exact ⟨rfl, HB4.out⟩
theorem cmpN_le (A B : Nat) : decide (cmpN A B ≤ 0) = decide (A ≤ B) := by
  rw [decide_eq_decide]
  unfold cmpN
  split
  · omega
  · split <;> omega
theorem rschk_any (f : Int) (A B : Nat) (w : World) :
    Calls Try.prog 14 #[.int .u8 f, .agg #[.int .u64 (aH A), .int .u64 (aL A), .int .u64 (aH B), .int .u64 (aL B)]] w fun e w' => e = .returned (.int .i64 (schk f A B)) ∧ Below w.heap.size w w' := by
  have h := rschk_core f (aH A) (aL A) (aH B) (aL B) (wid f) w (isA f A) (isA f B) (cmpN A B) (fun w => rwidth_any f w) (fun w => risA_any f A w) (fun w => risA_any f B w) (fun w => rcmpN_any A B w)
  rw [cmpN_le, wid_isA] at h
  have e : ((!isA f 0) = false) = (isA f 0 = true) := by simp
  rw [show (if (!isA f 0) = false then (if (isA f A && isA f B && decide (A ≤ B)) = true then (0 : Int) else 8) else 2) = schk f A B by unfold schk; cases isA f 0 <;> rfl] at h
  exact h
/-- is an address in a span? -/
theorem rin_core (a b c d x y : Int) (k1 k2 : Int) (w : World)
    (h1 : ∀ w, Calls Try.prog 29 #[.agg #[.int .u64 a, .int .u64 b], .agg #[.int .u64 x, .int .u64 y]] w fun e w' => e = .returned (.int .i64 k1) ∧ Below w.heap.size w w')
    (h2 : ∀ w, Calls Try.prog 29 #[.agg #[.int .u64 x, .int .u64 y], .agg #[.int .u64 c, .int .u64 d]] w fun e w' => e = .returned (.int .i64 k2) ∧ Below w.heap.size w w') :
    Calls Try.prog 36 #[.agg #[.int .u64 a, .int .u64 b, .int .u64 c, .int .u64 d], .agg #[.int .u64 x, .int .u64 y]] w fun e w' => e = .returned (.bool (decide (k1 ≤ 0) && decide (k2 ≤ 0))) ∧ Below w.heap.size w w' := by
  have H1 := Lib.hid h1
  have H2 := Lib.hid h2
  clear h1 h2
  obtain ⟨R, hR⟩ : ∃ R : Bool, (decide (k1 ≤ 0) && decide (k2 ≤ 0)) = R := ⟨_, rfl⟩
  have HR := Lib.hid hR
  rw [hR]
  clear hR
  go_enter Try.func36, Try.ntmps36
  go_wp2_with fail
  generalize hv : World.alloc (World.alloc _ _) _ = v
  have TS : RowKit.Hid (Sp4 w.heap.size v a b c d) := Lib.hid (by rw [← hv]; exact (Sp4.new w a b c d _).on (below_new _ _))
  have TA : RowKit.Hid (Ad2 (w.heap.size + 1) v x y) := Lib.hid (by
    rw [← hv]
    have := Ad2.new (w.alloc (.cells #[.int .u64 a, .int .u64 b, .int .u64 c, .int .u64 d] 26)) x y 24
    simpa using this)
  have HB := Lib.hid (show Below w.heap.size w v by rw [← hv]; exact ((Below.refl _ _).alloc (Nat.le_refl _) _).alloc (by simp) _)
  clear hv
  obtain ⟨s0, s1, s2, s3, _⟩ := TS.out
  obtain ⟨a0, a1, _, _⟩ := TA.out
  go_wp2_with fail
  refine (H1.out v).mono ?_
  rintro e w2 ⟨rfl, hb2⟩
  have TS2 := Lib.hid (TS.out.on hb2)
  have TA2 := Lib.hid (TA.out.on hb2)
  have HB2 := Lib.hid (HB.out.trans (hb2.mono HB.out.size))
  clear hb2 TS HB TA s0 s1 s2 s3 a0 a1
  obtain ⟨s0, s1, s2, s3, _⟩ := TS2.out
  obtain ⟨a0, a1, _, _⟩ := TA2.out
  by_cases hk1 : k1 ≤ 0
  · go_wp2_with fail
    refine (H2.out w2).mono ?_
    rintro e w3 ⟨rfl, hb3⟩
    have HB3 := Lib.hid (HB2.out.trans (hb3.mono HB2.out.size))
    clear hb3 TS2 HB2 TA2 s0 s1 s2 s3 a0 a1
    by_cases hk2 : k2 ≤ 0
    · obtain rfl : true = R := by have := HR.out; simpa [hk1, hk2] using this
      go_wp2_with fail
      go_ret
      exact ⟨rfl, HB3.out⟩
    · obtain rfl : false = R := by have := HR.out; simpa [hk1, hk2] using this
      have hk2' : 0 < k2 := by omega
      have d2 : decide (k2 ≤ 0) = false := by simpa using hk2
      go_wp2_with fail
      go_ret
      exact ⟨rfl, HB3.out⟩
  · obtain rfl : false = R := by have := HR.out; simpa [hk1] using this
    have hk1' : 0 < k1 := by omega
    have d1 : decide (k1 ≤ 0) = false := by simpa using hk1
    go_wp2_with fail
    go_ret
    exact ⟨rfl, HB2.out⟩
theorem rin_any (A M X : Nat) (w : World) :
    Calls Try.prog 36 #[.agg #[.int .u64 (aH A), .int .u64 (aL A), .int .u64 (aH M), .int .u64 (aL M)], .agg #[.int .u64 (aH X), .int .u64 (aL X)]] w fun e w' => e = .returned (.bool (decide (A ≤ X) && decide (X ≤ M))) ∧ Below w.heap.size w w' := by
  have h := rin_core (aH A) (aL A) (aH M) (aL M) (aH X) (aL X) (cmpN A X) (cmpN X M) w (fun w => rcmpN_any A X w) (fun w => rcmpN_any X M w)
  rw [cmpN_le, cmpN_le] at h
  exact h
/-- the bits of an address of a family -/
theorem rbits_call {f : Int} {W : Nat} (hf : Fam f W) (N : Nat) (hN : N < 2 ^ 128) (w : World) :
    Calls Try.prog 24 #[.int .u8 f, .agg #[.int .u64 (aH N), .int .u64 (aL N)]] w fun e w' => ∃ g cap : Nat, e = .returned (.slice (some ⟨g, 0, none⟩) W cap) ∧ w.heap.size < g ∧ BitsAt g W N w' ∧ W ≤ cap ∧ cap ≤ maxLen ∧ Below w.heap.size w w' := by
  obtain ⟨w1, w2, w3, w4⟩ := hf.wid
  refine (bits_call f (aH N) (aL N) w (aH_u hN) (aL_u N) W w1 (by omega)).mono ?_
  rintro e w' ⟨g, cap, rfl, hg1, hg2, hc1, hc2, hcell, hfr, hb⟩
  refine ⟨g, cap, rfl, by omega, ⟨hg2, fun j hj => ?_, hfr⟩, hc1, hc2, hb⟩
  rw [hcell j hj]
  have h64 : N % 18446744073709551616 < 2 ^ 64 := Nat.mod_lt _ (by decide)
  have := bt_at (N / 18446744073709551616) (N % 18446744073709551616) W j h64 hj
  rw [show aH N = ((N / 18446744073709551616 : Nat) : Int) from rfl, show aL N = ((N % 18446744073709551616 : Nat) : Int) from rfl, this]
  have e : num (N / 18446744073709551616) (N % 18446744073709551616) = N := by
    unfold num
    omega
  rw [e]
  rfl
/-- the address with the bits -/
theorem raddr_call (g cap W N : Nat) (hW : W ≤ 128) (hN : N < 2 ^ W) (w : World) (hb : BitsAt g W N w) :
    Calls Try.prog 25 #[.slice (some ⟨g, 0, none⟩) W cap] w fun e w' => e = .returned (.agg #[.int .u64 (aH N), .int .u64 (aL N)]) ∧ Below w.heap.size w w' := by
  have h := raddr_any g cap W N w hb.lt hW (Nat.lt_of_lt_of_le hN (Nat.pow_le_pow_right (by omega) hW)) hN hb.cell
  rw [hi_aH, lo_aL] at h
  exact h
end Go.Proofs.Ytjngfieggacpiaa
