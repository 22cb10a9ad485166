/-
  SpanMakes is true at every input: the contracts of the program and of the reference side by side.
-/
import Derived.Test.YtjngfieggacpiaaMakesWalk
namespace Go.Proofs.Ytjngfieggacpiaa
open Go.RowKit Adr Spn
set_option linter.unusedVariables false
set_option linter.unusedSimpArgs false
theorem fam_of {f : Int} {N : Nat} (hN : N < 2 ^ 128) (h : isA f N = true) : ∃ W : Nat, Fam f W ∧ N < 2 ^ W := by
  unfold isA at h
  by_cases h4 : f = 4
  · rw [if_pos h4] at h
    exact ⟨32, Or.inl ⟨h4, rfl⟩, by simpa using h⟩
  · rw [if_neg h4] at h
    exact ⟨128, Or.inr ⟨by simpa using h, rfl⟩, hN⟩
theorem fam_schk {f : Int} {A M : Nat} (hM : M < 2 ^ 128) (h : schk f A M = 0) : ∃ W : Nat, Fam f W ∧ A ≤ M ∧ M < 2 ^ W := by
  unfold schk at h
  split at h
  · split at h
    · rename_i h1 h2
      simp only [Bool.and_eq_true, decide_eq_true_eq] at h2
      obtain ⟨W, hf, hW⟩ := fam_of hM h2.1.2
      exact ⟨W, hf, h2.2, hW⟩
    · omega
  · omega
theorem isA_big {f : Int} {W N : Nat} (hf : Fam f W) (hN : ¬ N < 2 ^ W) (hN2 : N < 2 ^ 128) : isA f N = false := by
  rcases hf with ⟨rfl, rfl⟩ | ⟨rfl, rfl⟩
  · unfold isA
    rw [if_pos rfl]
    simpa using hN
  · exact absurd hN2 hN
theorem nextOk_iff {f : Int} {W N : Nat} (hf : Fam f W) (hN : N < 2 ^ W) : nextOk f N = true ↔ N + 1 < 2 ^ W := by
  unfold nextOk
  rw [hf.isA N hN]
  constructor
  · intro h
    simp only [Bool.and_eq_true, decide_eq_true_eq, Bool.true_and] at h
    rcases Nat.lt_or_ge (N + 1) (2 ^ W) with h1 | h1
    · exact h1
    · rw [isA_big hf (by omega) h.1] at h
      exact absurd h.2 (by simp)
  · intro h
    rw [hf.isA (N + 1) h]
    have := hf.lt h
    simp [this]
theorem rnext_bad (f : Int) (N : Nat) (h : isA f N = false) (w : World) :
    Calls Try.prog 10 #[.int .u8 f, .agg #[.int .u64 (aH N), .int .u64 (aL N)]] w fun e w' => e = .returned (.tuple #[.agg #[.int .u64 0, .int .u64 0], .bool false]) ∧ Below w.heap.size w w' := by
  have HA := Lib.hid (fun w => risA_any f N w)
  rw [h] at HA
  clear h
  go_enter Try.func10, Try.ntmps10
  go_wp2_with fail
  generalize hv : World.alloc (World.alloc _ _) _ = v
  have TA : RowKit.Hid (Ad2 (w.heap.size + 1) v 0 0) := Lib.hid (by
    rw [← hv]
    have := Ad2.new (w.alloc (.cells #[.int .u64 (aH N), .int .u64 (aL N)] 24)) 0 0 24
    simpa using this)
  have HB := Lib.hid (show Below w.heap.size w v by rw [← hv]; exact ((Below.refl _ _).alloc (Nat.le_refl _) _).alloc (by simp) _)
  clear hv
  refine (HA.out v).mono ?_
  rintro e w1 ⟨rfl, hb1⟩
  have TA1 := Lib.hid (TA.out.on hb1)
  have HB1 := Lib.hid (HB.out.trans (hb1.mono HB.out.size))
  clear hb1 TA HB
  obtain ⟨a0, a1, f0, f1⟩ := TA1.out
  go_wp2_with fail
  have A := TA1.out.set (a' := 0) (b' := 0)
  refine bodyPost_ret (v := .tuple #[.agg #[.int .u64 0, .int .u64 0], .bool false]) (by simp [results, Try.results10, go_sem, A.a0, A.a1]) rfl ⟨rfl, ad_below HB1.out (by omega)⟩
theorem rnext_yes (f : Int) (N : Nat) (hN : N < 2 ^ 128) (h : nextOk f N = true) (w : World) :
    Calls Try.prog 10 #[.int .u8 f, .agg #[.int .u64 (aH N), .int .u64 (aL N)]] w fun e w' => e = .returned (.tuple #[adr (N + 1), .bool true]) ∧ Below w.heap.size w w' := by
  have hi : isA f N = true := by
    unfold nextOk at h
    simp only [Bool.and_eq_true] at h
    exact h.1.1
  obtain ⟨W, hf, hW⟩ := fam_of hN hi
  exact rnext_core hf N hW w _ _ _ (fun _ => ⟨rfl, rfl, rfl⟩) (fun hn => absurd ((nextOk_iff hf hW).1 h) hn)
theorem rnext_no (f : Int) (N : Nat) (hN : N < 2 ^ 128) (h : nextOk f N = false) (w : World) :
    Calls Try.prog 10 #[.int .u8 f, .agg #[.int .u64 (aH N), .int .u64 (aL N)]] w fun e w' => e = .returned (.tuple #[.agg #[.int .u64 0, .int .u64 0], .bool false]) ∧ Below w.heap.size w w' := by
  cases hi : isA f N
  · exact rnext_bad f N hi w
  · obtain ⟨W, hf, hW⟩ := fam_of hN hi
    exact rnext_core hf N hW w _ _ _ (fun hn => by rw [(nextOk_iff hf hW).2 hn] at h; cases h) (fun _ => ⟨rfl, rfl, rfl⟩)
set_option maxRecDepth 100000 in
theorem prev_zero (w : World) : Calls Try.prog 11 #[.agg #[.int .u64 0, .int .u64 0]] w fun e w' => e = .returned (.tuple #[.agg #[.int .u64 0, .int .u64 0], .bool false]) ∧ Below w.heap.size w w' := by
  go_enter Try.func11, Try.ntmps11
  go_wp2_with fail
  refine bodyPost_ret (v := .tuple #[.agg #[.int .u64 0, .int .u64 0], .bool false]) (by simp [results, Try.results11, go_sem]) rfl ⟨rfl, ?_⟩
  first
    | exact ((Below.refl _ _).alloc (Nat.le_refl _) _).alloc (by simp) _
    | exact ad_below (((Below.refl _ _).alloc (Nat.le_refl _) _).alloc (by simp) _) (by simp)
theorem makes_true (f a b c d x y pf ph pl pn : Int) (w : World) (ua : U64 a) (ub : U64 b) (uc : U64 c) (ud : U64 d) (ux : U64 x) (uy : U64 y) (uph : U64 ph) (upl : U64 pl) :
    Calls Try.prog 3 #[.int .u8 f, .agg #[.int .u64 a, .int .u64 b, .int .u64 c, .int .u64 d], .agg #[.int .u64 x, .int .u64 y], .agg #[.int .u8 pf, .int .u64 ph, .int .u64 pl, .int .i64 pn]] w fun e w' => e = .returned (.bool true) ∧ Below w.heap.size w w' := by
  obtain ⟨A, hA, rfl, rfl⟩ := a_of ua ub
  obtain ⟨M, hM, rfl, rfl⟩ := a_of uc ud
  obtain ⟨X, hX, rfl, rfl⟩ := a_of ux uy
  obtain ⟨Q, hQ, rfl, rfl⟩ := a_of uph upl
  obtain ⟨za, zb, zc, zd, oe, h1, h2⟩ : ∃ za zb zc zd oe : Int,
      (∀ w, Calls Try.prog 4 #[.agg #[.int .u8 pf, .int .u64 (aH Q), .int .u64 (aL Q), .int .i64 pn]] w fun e w' => e = .returned (.tuple #[.agg #[.int .u64 za, .int .u64 zb, .int .u64 zc, .int .u64 zd], .int .i64 oe]) ∧ Below w.heap.size w w') ∧
      (∀ w, Calls Try.prog 5 #[.agg #[.int .u8 pf, .int .u64 (aH Q), .int .u64 (aL Q), .int .i64 pn]] w fun e w' => e = .returned (.tuple #[.agg #[.int .u64 za, .int .u64 zb, .int .u64 zc, .int .u64 zd], .int .i64 oe]) ∧ Below w.heap.size w w') := by
    by_cases hc : chk pf (aH Q) (aL Q) pn = 0
    · obtain ⟨W, i, hf, rfl, hiW, hQW, _, ha⟩ := chk_num hQ hc
      exact ⟨_, _, _, _, _, fun w => of_yes hf Q i hiW hQW ha w, fun w => rof_yes hf Q i hiW hQW ha w⟩
    · exact ⟨_, _, _, _, _, fun w => of_no pf _ _ pn _ w uph upl rfl (by rw [bne_iff_ne]; exact hc), fun w => rof_no pf _ _ pn _ w uph upl rfl (by rw [bne_iff_ne]; exact hc)⟩
  obtain ⟨W, xs, ge, hl, h3, h4⟩ : ∃ (W : Nat) (xs : List (Nat × Nat)) (ge : Int), xs.length ≤ 254 ∧
      (∀ w, Calls Try.prog 6 #[.int .u8 f, .agg #[.int .u64 (aH A), .int .u64 (aL A), .int .u64 (aH M), .int .u64 (aL M)]] w fun e w' => ∃ v, e = .returned (.tuple #[v, .int .i64 ge]) ∧ Lst f W xs w' v ∧ Below w.heap.size w w') ∧
      (∀ w, Calls Try.prog 7 #[.int .u8 f, .agg #[.int .u64 (aH A), .int .u64 (aL A), .int .u64 (aH M), .int .u64 (aL M)]] w fun e w' => ∃ v, e = .returned (.tuple #[v, .int .i64 ge]) ∧ Lst f W xs w' v ∧ Below w.heap.size w w') := by
    by_cases hs : schk f A M = 0
    · obtain ⟨W, hf, hAM, hMW⟩ := fam_schk hM hs
      have ht := win_top (W := W) hAM hMW
      have h0 : win A M W 0 ≠ [] := by
        intro e
        rw [e] at ht
        have := ht.inv (by omega)
        obtain ⟨t, h, _⟩ := this
        cases h
      refine ⟨W, win A M W 0, 0, win_len hAM hMW hf.wid.2.2.1 hf.wid.2.2.2 (Nat.le_refl _) (Nat.zero_mod _) (Or.inl rfl), fun w => ?_, fun w => ?_⟩
      · refine (pfx_yes hf A M hAM hMW _ ht w).mono ?_
        rintro e w' ⟨v, rfl, hown, hb⟩
        exact ⟨v, rfl, Lst.of hown h0, hb⟩
      · refine (rpfx_yes hf A M hAM hMW hs w).mono ?_
        rintro e w' ⟨v, rfl, hown, hb⟩
        exact ⟨v, rfl, Lst.of hown h0, hb⟩
    · refine ⟨0, [], schk f A M, by simp, fun w => ?_, fun w => ?_⟩
      · refine (pfx_no f A M _ rfl (by rw [bne_iff_ne]; exact hs) w).mono ?_
        rintro e w' ⟨rfl, hb⟩
        exact ⟨_, rfl, .inl ⟨rfl, rfl⟩, hb⟩
      · refine (rpfx_no f A M _ rfl (by rw [bne_iff_ne]; exact hs) w).mono ?_
        rintro e w' ⟨rfl, hb⟩
        exact ⟨_, rfl, .inl ⟨rfl, rfl⟩, hb⟩
  obtain ⟨na, nb, nt, h5, h6⟩ : ∃ (na nb : Int) (nt : Bool),
      (∀ w, Calls Try.prog 9 #[.int .u8 f, .agg #[.int .u64 (aH X), .int .u64 (aL X)]] w fun e w' => e = .returned (.tuple #[.agg #[.int .u64 na, .int .u64 nb], .bool nt]) ∧ Below w.heap.size w w') ∧
      (∀ w, Calls Try.prog 10 #[.int .u8 f, .agg #[.int .u64 (aH X), .int .u64 (aL X)]] w fun e w' => e = .returned (.tuple #[.agg #[.int .u64 na, .int .u64 nb], .bool nt]) ∧ Below w.heap.size w w') := by
    cases hn : nextOk f X
    · exact ⟨_, _, _, fun w => next_no f X w hX hn, fun w => rnext_no f X hX hn w⟩
    · exact ⟨_, _, _, fun w => next_yes f X w hn, fun w => rnext_yes f X hX hn w⟩
  obtain ⟨va, vb, vt, h7, h8⟩ : ∃ (va vb : Int) (vt : Bool),
      (∀ w, Calls Try.prog 11 #[.agg #[.int .u64 (aH X), .int .u64 (aL X)]] w fun e w' => e = .returned (.tuple #[.agg #[.int .u64 va, .int .u64 vb], .bool vt]) ∧ Below w.heap.size w w') ∧
      (∀ w, Calls Try.prog 12 #[.agg #[.int .u64 (aH X), .int .u64 (aL X)]] w fun e w' => e = .returned (.tuple #[.agg #[.int .u64 va, .int .u64 vb], .bool vt]) ∧ Below w.heap.size w w') := by
    by_cases h0 : X = 0
    · subst h0
      exact ⟨0, 0, false, fun w => prev_zero w, fun w => rprev_core 0 hX w _ _ _ (fun h => absurd h (by omega)) (fun _ => ⟨rfl, rfl, rfl⟩)⟩
    · exact ⟨_, _, _, fun w => prev_yes X w (by omega) hX, fun w => rprev_core X hX w _ _ _ (fun _ => ⟨rfl, rfl, rfl⟩) (fun h => absurd h h0)⟩
  exact makes_core f _ _ _ _ _ _ pf _ _ pn w za zb zc zd oe h1 h2 W xs hl ge h3 h4 na nb nt h5 h6 va vb vt h7 h8 (schk f A M) (fun w => schk_any f A M w) (fun w => rschk_any f A M w)
end Go.Proofs.Ytjngfieggacpiaa
