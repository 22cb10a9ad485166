/-
  THE WALKS over package span: the span of a prefix; what is no span has no list.
-/
import Derived.Test.YtjngfieggacpiaaGreatDoorSpanF
namespace Go.Proofs.YtjngfieggacpiaaGreatDoor
open Go.RowKit Adr Spn
set_option linter.unusedVariables false
set_option linter.unusedSimpArgs false
/-- a valid prefix, in numbers -/
theorem chk_num {f n : Int} {N : Nat} (hN : N < 2 ^ 128) (h : chk f (aH N) (aL N) n = 0) : ∃ W i : Nat, Fam f W ∧ n = (i : Int) ∧ i ≤ W ∧ N < 2 ^ W ∧ N < 2 ^ 128 ∧ N % 2 ^ (W - i) = 0 := by
  have hok : ok f (aH N) (aL N) n = true := by
    unfold chk at h
    by_cases hh : ok f (aH N) (aL N) n = true
    · exact hh
    · rw [if_neg hh] at h
      split at h <;> omega
  unfold ok cutOk at hok
  simp only [Bool.and_eq_true, decide_eq_true_eq, beq_iff_eq] at hok
  obtain ⟨⟨⟨h1, h2⟩, h3⟩, h4, h5⟩ := hok
  rw [ca_num] at h1
  have h32 : (2 : Nat) ^ 32 = 4294967296 := by decide
  have h128 : (2 : Nat) ^ 128 = 340282366920938463463374607431768211456 := by decide
  have key : ∀ W : Nat, Fam f W → N < 2 ^ W → ∃ W i : Nat, Fam f W ∧ n = (i : Int) ∧ i ≤ W ∧ N < 2 ^ W ∧ N < 2 ^ 128 ∧ N % 2 ^ (W - i) = 0 := fun W hf hN => by
    obtain ⟨w1, w2, w3, w4⟩ := hf.wid
    rw [w1] at h3 h4 h5
    obtain ⟨i, rfl⟩ : ∃ i : Nat, n = (i : Int) := ⟨n.toNat, by omega⟩
    refine ⟨W, i, hf, rfl, by omega, hN, hf.lt hN, ?_⟩
    rw [show ((W : Int) - i) = ((W - i : Nat) : Int) by omega] at h4 h5
    rw [(clr_a N (W - i)).1] at h4
    rw [(clr_a N (W - i)).2] at h5
    exact (cut_same_iff N (W - i)).1 (a_inj h4 h5)
  unfold isA at h1
  by_cases h4' : f = 4
  · rw [if_pos h4'] at h1
    exact key 32 (Or.inl ⟨h4', rfl⟩) (by simpa [h32] using h1)
  · rw [if_neg h4'] at h1
    have h6 : f = 6 := by simpa using h1
    exact key 128 (Or.inr ⟨h6, rfl⟩) hN
theorem chk_of_num {f : Int} {W i N : Nat} (hf : Fam f W) (hi : i ≤ W) (hN : N < 2 ^ W) (ha : N % 2 ^ (W - i) = 0) : chk f (aH N) (aL N) i = 0 := by
  obtain ⟨w1, w2, w3, w4⟩ := hf.wid
  have hok : ok f (aH N) (aL N) i = true := by
    unfold ok cutOk
    rw [ca_num, hf.isA N hN, w1, show ((W : Int) - i) = ((W - i : Nat) : Int) by omega, (clr_a N (W - i)).1, (clr_a N (W - i)).2, (cut_same_iff N (W - i)).2 ha]
    simp
    omega
  unfold chk
  rw [if_pos hok]
theorem sp_set {B : Nat} {w : World} {a b c d a' b' c' d' : Int} (h : Sp4 B w a b c d) : Sp4 B ((((w.setCell ⟨B, 0, none⟩ (.int .u64 a')).setCell ⟨B, 1, none⟩ (.int .u64 b')).setCell ⟨B, 2, none⟩ (.int .u64 c')).setCell ⟨B, 3, none⟩ (.int .u64 d')) a' b' c' d' := by
  obtain ⟨a0, a1, a2, a3, fz⟩ := h
  refine ⟨?_, ?_, ?_, ?_, fun j => by simpa using fz j⟩
  · exact cset_far (cset_far (cset_far (cset_same a0) (by simp)) (by simp)) (by simp)
  · exact cset_far (cset_far (cset_same (cset_far a1 (by simp))) (by simp)) (by simp)
  · exact cset_far (cset_same (cset_far (cset_far a2 (by simp)) (by simp))) (by simp)
  · exact cset_same (cset_far (cset_far (cset_far a3 (by simp)) (by simp)) (by simp))
set_option maxHeartbeats 1000000 in
theorem of_no (f h l n c : Int) (w : World) (uh : U64 h) (ul : U64 l) (hc : chk f h l n = c) (hc0 : (c != 0) = true) :
    Calls Tryz.prog 24 #[.agg #[.int .u8 f, .int .u64 h, .int .u64 l, .int .i64 n]] w fun e w' => e = .returned (.tuple #[.agg #[.int .u64 0, .int .u64 0, .int .u64 0, .int .u64 0], .int .i64 c]) ∧ Below w.heap.size w w' := by
  have HC := Lib.hid (fun w => chk_call f h l n w uh ul c hc)
  clear uh ul hc
  go_enter Tryz.func24, Tryz.ntmps24
  go_wp2_with fail
  generalize hv : World.alloc (World.alloc _ _) _ = v
  have TS : RowKit.Hid (Sp4 (w.heap.size + 1) v 0 0 0 0) := Lib.hid (by
    rw [← hv]
    have := Sp4.new (w.alloc (.cells #[.int .u8 f, .int .u64 h, .int .u64 l, .int .i64 n] 26)) 0 0 0 0 50
    simpa using this)
  have HB := Lib.hid (show Below w.heap.size w v by rw [← hv]; exact ((Below.refl _ _).alloc (Nat.le_refl _) _).alloc (by simp) _)
  clear hv
  refine (HC.out v).mono ?_
  rintro e w1 ⟨rfl, hb1⟩
  have TS1 := Lib.hid (TS.out.on hb1)
  have HB1 := Lib.hid (HB.out.trans (hb1.mono HB.out.size))
  clear hb1 TS HB
  obtain ⟨s0, s1, s2, s3, fz⟩ := TS1.out
  have g0 := fz 0
  have g1 := fz 1
  have g2 := fz 2
  have g3 := fz 3
  clear fz
  go_wp2_with fail
  have A := sp_set (a' := 0) (b' := 0) (c' := 0) (d' := 0) TS1.out
  refine bodyPost_ret (v := .tuple #[.agg #[.int .u64 0, .int .u64 0, .int .u64 0, .int .u64 0], .int .i64 c]) (by simp [results, Tryz.results24, go_sem, A.a0, A.a1, A.a2, A.a3]) rfl ⟨rfl, pf_below HB1.out (by omega)⟩
set_option maxRecDepth 100000 in
set_option maxHeartbeats 2000000 in
theorem of_yes {f : Int} {W : Nat} (hf : Fam f W) (N i : Nat) (hi : i ≤ W) (hN : N < 2 ^ W) (ha : N % 2 ^ (W - i) = 0) (w : World) :
    Calls Tryz.prog 24 #[.agg #[.int .u8 f, .int .u64 (aH N), .int .u64 (aL N), .int .i64 i]] w fun e w' => e = .returned (.tuple #[.agg #[.int .u64 (aH N), .int .u64 (aL N), .int .u64 (aH (N + 2 ^ (W - i) - 1)), .int .u64 (aL (N + 2 ^ (W - i) - 1))], .int .i64 0]) ∧ Below w.heap.size w w' := by
  have HC := Lib.hid (fun w => chk_call f (aH N) (aL N) i w (aH_u (hf.lt hN)) (aL_u N) 0 (chk_of_num hf hi hN ha))
  have HL := Lib.hid (fun w => lastN_any hf N i hN hi ha w)
  obtain ⟨E, hE⟩ : ∃ E, N + 2 ^ (W - i) - 1 = E := ⟨_, rfl⟩
  rw [hE] at HL ⊢
  clear hE hi hN ha hf
  go_enter Tryz.func24, Tryz.ntmps24
  go_wp2_with fail
  generalize hv : World.alloc (World.alloc _ _) _ = v
  have TP : RowKit.Hid (Pf4 w.heap.size v f (aH N) (aL N) i) := Lib.hid (by rw [← hv]; exact (Pf4.new w _ _ _ _ _).on (below_new _ _))
  have TS : RowKit.Hid (Sp4 (w.heap.size + 1) v 0 0 0 0) := Lib.hid (by
    rw [← hv]
    have := Sp4.new (w.alloc (.cells #[.int .u8 f, .int .u64 (aH N), .int .u64 (aL N), .int .i64 i] 26)) 0 0 0 0 50
    simpa using this)
  have HB := Lib.hid (show Below w.heap.size w v by rw [← hv]; exact ((Below.refl _ _).alloc (Nat.le_refl _) _).alloc (by simp) _)
  clear hv
  refine (HC.out v).mono ?_
  rintro e w1 ⟨rfl, hb1⟩
  have TS1 := Lib.hid (TS.out.on hb1)
  have TP1 := Lib.hid (TP.out.on hb1)
  have HB1 := Lib.hid (HB.out.trans (hb1.mono HB.out.size))
  clear hb1 TS TP HB
  obtain ⟨p0, p1, p2, p3, _, _, _, _⟩ := TP1.out
  obtain ⟨s0, s1, s2, s3, fz⟩ := TS1.out
  have g0 := fz 0
  have g1 := fz 1
  have g2 := fz 2
  have g3 := fz 3
  have zp := TP1.out.lt
  have zs := TS1.out.lt
  clear fz
  go_wp2_with fail
  go_region_with (go_at_call 49; refine (HL.out _).mono ?_; rintro e w3 ⟨rfl, hb3⟩; obtain ⟨hc3, hf3⟩ := bcellD hb3; have zp3 : w.heap.size < w3.heap.size := (by (have := hb3.size; (try simp at this); omega)); have zs3 : w.heap.size + 1 < w3.heap.size := (by (have := hb3.size; (try simp at this); omega)))
  all_goals
    have HB3 := Lib.hid ((((Below.refl w1.heap.size w1).drew).trans hb3))
    have TS3 := Lib.hid (TS1.out.on HB3.out)
    clear hb3 hc3 hf3
    go_wp2_with fail
    have A := sp_set (a' := aH N) (b' := aL N) (c' := aH E) (d' := aL E) TS3.out
    have HB4 := HB1.out.trans (HB3.out.mono HB1.out.size)
    refine bodyPost_ret (v := .tuple #[.agg #[.int .u64 (aH N), .int .u64 (aL N), .int .u64 (aH E), .int .u64 (aL E)], .int .i64 0]) (by simp [results, Tryz.results24, go_sem, A.a0, A.a1, A.a2, A.a3]) rfl ⟨rfl, ?_⟩
    first
      | exact pf_below HB4 (by omega)
      | exact (pf_below HB4 (by omega)).drew
theorem pfx_no (f : Int) (A M : Nat) (c : Int) (hc : schk f A M = c) (hc0 : (c != 0) = true) (w : World) :
    Calls Tryz.prog 25 #[.int .u8 f, .agg #[.int .u64 (aH A), .int .u64 (aL A), .int .u64 (aH M), .int .u64 (aL M)]] w fun e w' => e = .returned (.tuple #[.slice none 0 0, .int .i64 c]) ∧ Below w.heap.size w w' := by
  have HC := Lib.hid (fun w => schk_any f A M w)
  rw [hc] at HC
  clear hc
  go_enter Tryz.func25, Tryz.ntmps25
  go_wp2_with fail
  refine (HC.out _).mono ?_
  rintro e w1 ⟨rfl, hb1⟩
  have HB1 := Lib.hid (((Below.refl w.heap.size w).alloc (Nat.le_refl _) (.cells #[.int .u64 (aH A), .int .u64 (aL A), .int .u64 (aH M), .int .u64 (aL M)] 50)).trans (hb1.mono (by simp)))
  clear hb1
  go_wp2_with fail
  go_ret2
  exact ⟨rfl, HB1.out⟩
end Go.Proofs.YtjngfieggacpiaaGreatDoor
