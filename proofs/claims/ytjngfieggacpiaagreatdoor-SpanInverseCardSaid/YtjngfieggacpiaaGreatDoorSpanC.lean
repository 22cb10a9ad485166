/-
  THE WALKS over package span: checks, spans of prefixes.
-/
import Derived.Test.YtjngfieggacpiaaGreatDoorSpanB
namespace Go.Proofs.YtjngfieggacpiaaGreatDoor
open Go.RowKit Adr
set_option linter.unusedVariables false
set_option linter.unusedSimpArgs false
def cmpN (A B : Nat) : Int := if A = B then 0 else if A < B then -1 else 1
theorem cmp_num (A B : Nat) : cmp (aH A) (aL A) (aH B) (aL B) = cmpN A B := by
  unfold cmp cmpN
  by_cases h : A = B
  · subst h; rw [if_pos ⟨rfl, rfl⟩, if_pos rfl]
  · rw [if_neg (fun e => h (a_inj e.1 e.2)), if_neg h]
    by_cases h2 : A < B
    · rw [if_pos h2, if_pos (by unfold aH aL; omega)]
    · rw [if_neg h2, if_neg (by unfold aH aL; omega)]
theorem cmpN_any (A B : Nat) (w : World) :
    Calls Tryz.prog 56 #[.agg #[.int .u64 (aH A), .int .u64 (aL A)], .agg #[.int .u64 (aH B), .int .u64 (aL B)]] w fun e w' => e = .returned (.int .i64 (cmpN A B)) ∧ Below w.heap.size w w' := by
  have h := cmp_any (aH A) (aL A) (aH B) (aL B) w
  rw [cmp_num] at h
  exact h
def schk (f : Int) (A B : Nat) : Int := if isA f 0 = true then (if (isA f A && isA f B && decide (A ≤ B)) = true then 0 else 8) else 2
theorem isA_zero (f : Int) (w : World) :
    Calls Tryz.prog 27 #[.int .u8 f, .agg #[.int .u64 0, .int .u64 0]] w fun e w' => e = .returned (.bool (isA f 0)) ∧ Below w.heap.size w w' := isA_any f 0 w
set_option maxRecDepth 100000 in
set_option maxHeartbeats 2000000 in
theorem schk_core (f a b c d : Int) (w : World) (c0 c1 c2 : Bool) (k : Int)
    (h0 : ∀ w, Calls Tryz.prog 27 #[.int .u8 f, .agg #[.int .u64 0, .int .u64 0]] w fun e w' => e = .returned (.bool c0) ∧ Below w.heap.size w w')
    (h1 : ∀ w, Calls Tryz.prog 27 #[.int .u8 f, .agg #[.int .u64 a, .int .u64 b]] w fun e w' => e = .returned (.bool c1) ∧ Below w.heap.size w w')
    (h2 : ∀ w, Calls Tryz.prog 27 #[.int .u8 f, .agg #[.int .u64 c, .int .u64 d]] w fun e w' => e = .returned (.bool c2) ∧ Below w.heap.size w w')
    (h3 : ∀ w, Calls Tryz.prog 56 #[.agg #[.int .u64 a, .int .u64 b], .agg #[.int .u64 c, .int .u64 d]] w fun e w' => e = .returned (.int .i64 k) ∧ Below w.heap.size w w') :
    Calls Tryz.prog 23 #[.int .u8 f, .agg #[.int .u64 a, .int .u64 b, .int .u64 c, .int .u64 d]] w fun e w' => e = .returned (.int .i64 (if c0 = true then (if (c1 && c2 && decide (k ≤ 0)) = true then 0 else 8) else 2)) ∧ Below w.heap.size w w' := by
  have H0 := Lib.hid h0
  have H1 := Lib.hid h1
  have H2 := Lib.hid h2
  have H3 := Lib.hid h3
  clear h0 h1 h2 h3
  obtain ⟨R, hR⟩ : ∃ R : Int, (if c0 = true then (if (c1 && c2 && decide (k ≤ 0)) = true then 0 else 8) else 2) = R := ⟨_, rfl⟩
  have HR := Lib.hid hR
  rw [hR]
  clear hR
  go_enter Tryz.func23, Tryz.ntmps23
  go_wp2_with fail
  generalize hv : World.alloc _ _ = v
  have TS : RowKit.Hid (Sp4 w.heap.size v a b c d) := Lib.hid (by rw [← hv]; exact Sp4.new w a b c d _)
  have HB := Lib.hid (show Below w.heap.size w v by rw [← hv]; exact below_new _ _)
  clear hv
  refine (H0.out v).mono ?_
  rintro e w1 ⟨rfl, hb1⟩
  have TS1 := Lib.hid (TS.out.on hb1)
  have HB1 := Lib.hid (HB.out.trans (hb1.mono HB.out.size))
  clear hb1 TS HB
  cases c0
  · obtain rfl : 2 = R := by have := HR.out; simpa using this
    go_wp2_with fail
    go_ret
    exact ⟨rfl, HB1.out⟩
  · obtain ⟨s0, s1, s2, s3, _⟩ := TS1.out
    go_wp2_with fail
    refine (H1.out w1).mono ?_
    rintro e w2 ⟨rfl, hb2⟩
    have TS2 := Lib.hid (TS1.out.on hb2)
    have HB2 := Lib.hid (HB1.out.trans (hb2.mono HB1.out.size))
    clear hb2 TS1 HB1 s0 s1 s2 s3
    obtain ⟨s0, s1, s2, s3, _⟩ := TS2.out
    cases c1
    · obtain rfl : 8 = R := by have := HR.out; simpa using this
      go_wp2_with fail
      go_ret
      exact ⟨rfl, HB2.out⟩
    · go_wp2_with fail
      refine (H2.out w2).mono ?_
      rintro e w3 ⟨rfl, hb3⟩
      have TS3 := Lib.hid (TS2.out.on hb3)
      have HB3 := Lib.hid (HB2.out.trans (hb3.mono HB2.out.size))
      clear hb3 TS2 HB2 s0 s1 s2 s3
      obtain ⟨s0, s1, s2, s3, _⟩ := TS3.out
      cases c2
      · obtain rfl : 8 = R := by have := HR.out; simpa using this
        go_wp2_with fail
        go_ret
        exact ⟨rfl, HB3.out⟩
      · go_wp2_with fail
        refine (H3.out w3).mono ?_
        rintro e w4 ⟨rfl, hb4⟩
        have HB4 := Lib.hid (HB3.out.trans (hb4.mono HB3.out.size))
        clear hb4 TS3 HB3 s0 s1 s2 s3
        by_cases hk : k ≤ 0
        · obtain rfl : 0 = R := by have := HR.out; simpa [hk] using this
          go_wp2_with fail
          go_ret
          exact ⟨rfl, HB4.out⟩
        · obtain rfl : 8 = R := by have := HR.out; simpa [hk] using this
          have hk' : 0 < k := by omega
          go_wp2_with fail
          go_ret
          exact ⟨rfl, HB4.out⟩
theorem schk_any (f : Int) (A B : Nat) (w : World) :
    Calls Tryz.prog 23 #[.int .u8 f, .agg #[.int .u64 (aH A), .int .u64 (aL A), .int .u64 (aH B), .int .u64 (aL B)]] w fun e w' => e = .returned (.int .i64 (schk f A B)) ∧ Below w.heap.size w w' := by
  have h := schk_core f (aH A) (aL A) (aH B) (aL B) w (isA f 0) (isA f A) (isA f B) (cmpN A B) (fun w => isA_zero f w) (fun w => isA_any f A w) (fun w => isA_any f B w) (fun w => cmpN_any A B w)
  have e : decide (cmpN A B ≤ 0) = decide (A ≤ B) := by
    rw [decide_eq_decide]
    unfold cmpN
    split
    · omega
    · split <;> omega
  rw [e] at h
  exact h
end Go.Proofs.YtjngfieggacpiaaGreatDoor
