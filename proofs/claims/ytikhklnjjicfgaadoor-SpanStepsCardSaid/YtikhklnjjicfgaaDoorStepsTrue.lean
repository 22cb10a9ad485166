/-
  SpanSteps is true at every input.
-/
import Derived.Test.YtikhklnjjicfgaaDoorStepsWalk
namespace Go.Proofs.YtikhklnjjicfgaaDoor
open Go.RowKit Adr Spn
set_option linter.unusedVariables false
set_option linter.unusedSimpArgs false
variable {fl : Bool}
theorem half_cut (P j : Nat) (h : P % 2 ^ (j + 1) = 0) : P / 2 ^ j * 2 ^ j = P ∧ (P + 2 ^ (j + 1) - 1) / 2 ^ j * 2 ^ j = P + 2 ^ j := by
  obtain ⟨q, rfl⟩ := Nat.dvd_of_mod_eq_zero h
  have hp : 0 < 2 ^ j := Nat.two_pow_pos j
  rw [Nat.pow_succ]
  have e1 : 2 ^ j * 2 * q = 2 ^ j * (2 * q) := Nat.mul_assoc _ _ _
  rw [e1]
  refine ⟨by rw [Nat.mul_div_cancel_left _ hp, Nat.mul_comm], ?_⟩
  have e2 : 2 ^ j * (2 * q) + 2 ^ j * 2 - 1 = 2 ^ j * (2 * q + 1) + (2 ^ j - 1) := by
    rw [Nat.mul_add, Nat.mul_one]; omega
  rw [e2, Nat.mul_add_div hp, Nat.div_eq_of_lt (by omega), Nat.add_zero, Nat.mul_comm, Nat.mul_add, Nat.mul_one]
theorem half_room (W P i : Nat) (hi : i ≤ W) (hN : P < 2 ^ W) (ha : P % 2 ^ (W - i) = 0) : P + 2 ^ (W - i) ≤ 2 ^ W := by
  obtain ⟨q, hq⟩ := Nat.dvd_of_mod_eq_zero ha
  have e : 2 ^ W = 2 ^ (W - i) * 2 ^ i := by rw [← Nat.pow_add]; congr 1; omega
  rw [e] at hN ⊢
  subst hq
  have hlt : q < 2 ^ i := Nat.lt_of_mul_lt_mul_left hN
  calc 2 ^ (W - i) * q + 2 ^ (W - i) = 2 ^ (W - i) * (q + 1) := by rw [Nat.mul_add, Nat.mul_one]
    _ ≤ 2 ^ (W - i) * 2 ^ i := Nat.mul_le_mul_left _ hlt
theorem steps_true (f H L pf ph pl pn : Int) (w : World) (env : Env fl w) (uH : U64 H) (uL : U64 L) (uph : U64 ph) (upl : U64 pl) :
    Calls Tryd.prog 8 #[.int .u8 f, .agg #[.int .u64 H, .int .u64 L], .agg #[.int .u8 pf, .int .u64 ph, .int .u64 pl, .int .i64 pn]] w fun e w' => e = .returned (.bool true) ∧ Below w.heap.size w w' := by
  obtain ⟨N, hN, rfl, rfl⟩ := a_of uH uL
  obtain ⟨P, hP, rfl, rfl⟩ := a_of uph upl
  -- the first half
  have first : ∃ (is : Bool) (bH bL : Int), (∀ w, Calls Tryd.prog 24 #[.int .u8 f, .agg #[.int .u64 (aH N), .int .u64 (aL N)]] w fun e w' => e = .returned (.tuple #[.agg #[.int .u64 bH, .int .u64 bL], .bool is]) ∧ Below w.heap.size w w') ∧
      ((is = true ∧ (∀ w, Calls Tryd.prog 25 #[.agg #[.int .u64 bH, .int .u64 bL]] w fun e w' => e = .returned (.tuple #[.agg #[.int .u64 (aH N), .int .u64 (aL N)], .bool true]) ∧ Below w.heap.size w w') ∧ (∀ w, Calls Tryd.prog 30 #[.agg #[.int .u64 (aH N), .int .u64 (aL N)], .agg #[.int .u64 bH, .int .u64 bL]] w fun e w' => e = .returned (.int .i64 (-1)) ∧ Below w.heap.size w w') ∧ (∀ w, Calls Tryd.prog 19 #[.int .u8 f, .agg #[.int .u64 bH, .int .u64 bL]] w fun e w' => e = .returned (.bool true) ∧ Below w.heap.size w w')) ∨ (is = false ∧ bH = 0 ∧ bL = 0)) := by
    cases hn : nextOk f N
    · exact ⟨false, 0, 0, fun w => next_no f N w hN hn, Or.inr ⟨rfl, rfl, rfl⟩⟩
    · have hn2 := hn
      unfold nextOk at hn2
      simp only [Bool.and_eq_true, decide_eq_true_eq] at hn2
      refine ⟨true, aH (N + 1), aL (N + 1), fun w => next_yes f N w hn, Or.inl ⟨rfl, fun w => ?_, fun w => ?_, fun w => ?_⟩⟩
      · have h := prev_yes (N + 1) w (by omega) hn2.1.2
        rw [Nat.add_sub_cancel] at h
        exact h
      · have h := cmpN_any N (N + 1) w
        rw [show cmpN N (N + 1) = -1 by unfold cmpN; rw [if_neg (by omega), if_pos (by omega)]] at h
        exact h
      · have h := isA_any f (N + 1) w
        rw [hn2.2] at h
        exact h
  obtain ⟨is, bH, bL, f1, f2⟩ := first
  by_cases hc : chk pf (aH P) (aL P) pn = 0
  · obtain ⟨W, i, hf, rfl, hi, hPW, _, ha⟩ := chk_num hP hc
    obtain ⟨w1, w2, w3, w4⟩ := hf.wid
    have hroom := half_room W P i hi hPW ha
    have e1 : IntKind.i64.wrap ((i : Int) + 1) = (i : Int) + 1 := IntWalk.i64_in _ (by omega)
    have hof := fun w => of_yes hf P i hi hPW ha w
    by_cases hiW : i = W
    · subst hiW
      rw [Nat.sub_self, Nat.pow_zero, Nat.add_sub_cancel] at hof
      have hno : ∀ w, Calls Tryd.prog 14 #[.int .u8 pf, .agg #[.int .u64 (aH P), .int .u64 (aL P)], .int .i64 ((i : Int) + 1)] w fun e w' => e = .returned (.tuple #[.agg #[.int .u8 0, .int .u64 0, .int .u64 0, .int .i64 0], .int .i64 2]) ∧ Below w.heap.size w w' := fun w => cut_no pf (aH P) (aL P) ((i : Int) + 1) w (aL_u P) (by unfold cutOk; rw [w1]; simp; omega)
      exact steps_core f (aH N) (aL N) pf (aH P) (aL P) i w env (Or.inr trivial) is bH bL f1 f2 (aH P) (aL P) (aH P) (aL P) 0 hof 0 0 0 0 2 0 0 0 0 2 0 0 0 0 (Or.inr ⟨rfl, e1, hno, hno, Or.inl ⟨rfl, rfl, rfl, rfl⟩⟩)
    · obtain ⟨j, hj⟩ : ∃ j, W - i = j + 1 := ⟨W - i - 1, by omega⟩
      have hj2 : W - (i + 1) = j := by omega
      rw [hj] at hof ha hroom
      have hp := Nat.two_pow_pos j
      have hps : 2 ^ (j + 1) = 2 ^ j * 2 := Nat.pow_succ 2 j
      obtain ⟨c1, c2⟩ := half_cut P j ha
      have haj : P % 2 ^ j = 0 := dvd_of_le ha (by omega)
      have hcast : ((i + 1 : Nat) : Int) = (i : Int) + 1 := by omega
      have one := fun w => cutN_any hf P (i + 1) hPW (by omega) w
      rw [hj2, c1, hcast] at one
      have two := fun w => cutN_any hf (P + 2 ^ (j + 1) - 1) (i + 1) (by omega) (by omega) w
      rw [hj2, c2, hcast] at two
      have ofo := fun w => of_yes hf P (i + 1) (by omega) hPW (by rw [hj2]; exact haj) w
      rw [hj2, hcast] at ofo
      have oft := fun w => of_yes hf (P + 2 ^ j) (i + 1) (by omega) (by omega) (by rw [hj2]; exact add_dvd haj (Nat.le_refl _)) w
      rw [hj2, hcast, show P + 2 ^ j + 2 ^ j - 1 = P + 2 ^ (j + 1) - 1 by omega] at oft
      have nx := fun w => next_yes pf (P + 2 ^ j - 1) w (by
        unfold nextOk
        rw [show P + 2 ^ j - 1 + 1 = P + 2 ^ j by omega, hf.isA _ (by omega), hf.isA _ (by omega)]
        have := hf.lt (show P + 2 ^ j < 2 ^ W by omega)
        simp [this])
      rw [show P + 2 ^ j - 1 + 1 = P + 2 ^ j by omega] at nx
      exact steps_core f (aH N) (aL N) pf (aH P) (aL P) i w env (Or.inr trivial) is bH bL f1 f2 _ _ _ _ 0 hof _ _ _ _ 0 _ _ _ _ 0 _ _ _ _ (Or.inr ⟨rfl, e1, one, two, Or.inr ⟨rfl, rfl, ofo, oft, nx⟩⟩)
  · exact steps_core f (aH N) (aL N) pf (aH P) (aL P) pn w env (Or.inr trivial) is bH bL f1 f2 0 0 0 0 _ (fun w => of_no pf (aH P) (aL P) pn _ w uph upl rfl (by rw [bne_iff_ne]; exact hc)) 0 0 0 0 0 0 0 0 0 0 0 0 0 0 (Or.inl ⟨by rw [bne_iff_ne]; exact hc, fun w => chk_call _ _ _ _ w uph upl _ rfl⟩)
end Go.Proofs.YtikhklnjjicfgaaDoor
