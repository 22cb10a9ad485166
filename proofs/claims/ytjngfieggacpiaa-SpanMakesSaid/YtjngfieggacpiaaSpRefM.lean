/-
  PLAIN MATHEMATICS of the reference of layer 2: bits that are set; halves of prefixes.
-/
import Derived.Test.YtjngfieggacpiaaSpanB
import Derived.Test.YtjngfieggacpiaaNumRefD
namespace Go.Proofs.Ytjngfieggacpiaa
open Go.RowKit Adr Spn
set_option linter.unusedVariables false
theorem bit_up {M k : Nat} (h : M / 2 ^ k % 2 = 0) (m : Nat) : (M + 2 ^ k) / 2 ^ m % 2 = if m = k then 1 else M / 2 ^ m % 2 := by
  have hk := Nat.two_pow_pos k
  have hm := Nat.two_pow_pos m
  by_cases e : m = k
  · subst e
    rw [if_pos rfl, Nat.add_div_right _ hm]
    omega
  · rw [if_neg e]
    by_cases hlt : m < k
    · obtain ⟨d, rfl⟩ : ∃ d, k = m + (d + 1) := ⟨k - m - 1, by omega⟩
      rw [Nat.pow_add, Nat.add_mul_div_left _ _ hm, Nat.pow_succ]
      omega
    · obtain ⟨d, rfl⟩ : ∃ d, m = k + (1 + d) := ⟨m - k - 1, by omega⟩
      rw [Nat.pow_add, ← Nat.div_div_eq_div_mul, ← Nat.div_div_eq_div_mul, Nat.add_div_right _ hk, Nat.pow_add, ← Nat.div_div_eq_div_mul, ← Nat.div_div_eq_div_mul]
      have : (M / 2 ^ k).succ / 2 ^ 1 = M / 2 ^ k / 2 ^ 1 := by omega
      rw [this]
theorem bit_dn {M k : Nat} (h : M / 2 ^ k % 2 = 1) (m : Nat) : (M - 2 ^ k) / 2 ^ m % 2 = if m = k then 0 else M / 2 ^ m % 2 := by
  have hk := Nat.two_pow_pos k
  have hle : 2 ^ k ≤ M := by
    rcases Nat.lt_or_ge M (2 ^ k) with h2 | h2
    · rw [Nat.div_eq_of_lt h2] at h; omega
    · exact h2
  obtain ⟨Q, rfl⟩ : ∃ Q, M = Q + 2 ^ k := ⟨M - 2 ^ k, by omega⟩
  rw [Nat.add_div_right _ hk] at h
  have h0 : Q / 2 ^ k % 2 = 0 := by omega
  rw [Nat.add_sub_cancel]
  have := bit_up h0 m
  by_cases e : m = k
  · subst e; rw [if_pos rfl]; exact h0
  · rw [if_neg e] at this ⊢
    exact this.symm
theorem mod_succ (N k : Nat) : N % 2 ^ (k + 1) = N % 2 ^ k + 2 ^ k * (N / 2 ^ k % 2) := Nat.mod_pow_succ
theorem low_div {N k : Nat} : (N - N % 2 ^ k) / 2 ^ k = N / 2 ^ k := by
  have hk := Nat.two_pow_pos k
  have := Nat.div_add_mod N (2 ^ k)
  rw [show N - N % 2 ^ k = 2 ^ k * (N / 2 ^ k) by omega, Nat.mul_div_cancel_left _ hk]
theorem low_add {N k : Nat} (h : N % 2 ^ k = 0) : (N + (2 ^ k - 1)) / 2 ^ k = N / 2 ^ k := by
  have hk := Nat.two_pow_pos k
  obtain ⟨q, rfl⟩ := Nat.dvd_of_mod_eq_zero h
  rw [Nat.mul_div_cancel_left _ hk, Nat.mul_add_div hk, Nat.div_eq_of_lt (by omega)]
  rfl
theorem dvd_bit {M k : Nat} (h : M % 2 ^ (k + 1) = 0) : M / 2 ^ k % 2 = 0 := by
  obtain ⟨q, rfl⟩ := Nat.dvd_of_mod_eq_zero h
  rw [Nat.pow_succ, Nat.mul_assoc, Nat.mul_div_cancel_left _ (Nat.two_pow_pos k)]
  omega
theorem dvd_last {N c k : Nat} (h : N % 2 ^ c = 0) (hk : k + 1 ≤ c) : (N + (2 ^ c - 2 ^ (k + 1))) % 2 ^ (k + 1) = 0 := by
  have h1 := dvd_of_le h hk
  obtain ⟨q, rfl⟩ := Nat.dvd_of_mod_eq_zero h1
  obtain ⟨d, rfl⟩ : ∃ d, c = k + 1 + d := ⟨c - (k + 1), by omega⟩
  rw [Nat.pow_add 2 (k + 1) d]
  have : 2 ^ (k + 1) * 2 ^ d - 2 ^ (k + 1) = 2 ^ (k + 1) * (2 ^ d - 1) := by rw [Nat.mul_sub, Nat.mul_one]
  rw [this, ← Nat.mul_add, Nat.mul_mod_right]
theorem biP_up {M k : Nat} (h : biP M k = 0) (m : Nat) : biP (M + 2 ^ k) m = if m = k then 1 else biP M m := by
  unfold biP at h ⊢
  have h0 : M / 2 ^ k % 2 = 0 := by omega
  rw [bit_up h0 m]
  split <;> rfl
theorem biP_dn {M k : Nat} (h : biP M k = 1) (m : Nat) : biP (M - 2 ^ k) m = if m = k then 0 else biP M m := by
  unfold biP at h ⊢
  have h0 : M / 2 ^ k % 2 = 1 := by omega
  rw [bit_dn h0 m]
  split <;> rfl
theorem biP_01 (M k : Nat) : biP M k = 0 ∨ biP M k = 1 := by
  unfold biP
  have := Nat.mod_two_eq_zero_or_one (M / 2 ^ k)
  omega
theorem hi_aH (N : Nat) : hiP N 0 = aH N := by
  unfold hiP aH
  rw [Nat.pow_zero, Nat.div_one]
theorem lo_aL (N : Nat) : loP N 0 = aL N := by
  unfold loP aL
  rw [Nat.pow_zero, Nat.div_one]
/-- the bits of a number, in a block -/
structure BitsAt (g W M : Nat) (w : World) : Prop where
  lt : g < w.heap.size
  cell : ∀ j, j < W → w.cell? ⟨g, j, none⟩ = some (.int .i64 (biP M (W - 1 - j)))
  free : ∀ j, j < W → w.frozen? ⟨g, j, none⟩ = false
theorem BitsAt.on {g W M : Nat} {w w' : World} (h : BitsAt g W M w) (hb : Below w.heap.size w w') : BitsAt g W M w' :=
  ⟨Nat.lt_of_lt_of_le h.lt hb.size, fun j hj => (hb.cell (p := ⟨g, j, none⟩) h.lt).trans (h.cell j hj), fun j hj => (hb.frozen (p := ⟨g, j, none⟩) h.lt).trans (h.free j hj)⟩
theorem BitsAt.set {g W M M' k : Nat} {w : World} {b : Int} (h : BitsAt g W M w) (hk : k < W) (hM : ∀ m, biP M' m = if m = k then b else biP M m) : BitsAt g W M' (w.setCell ⟨g, W - 1 - k, none⟩ (.int .i64 b)) := by
  refine ⟨by simpa using h.lt, fun j hj => ?_, fun j hj => by simpa using h.free j hj⟩
  by_cases e : j = W - 1 - k
  · subst e
    rw [show W - 1 - (W - 1 - k) = k by omega, hM k, if_pos rfl]
    exact cell_same (h.cell _ hj)
  · rw [cell_far (h.cell j hj) (by simp <;> omega), hM, if_neg (by omega)]
/-! ## halves -/
def clampN (A M x : Nat) : Nat := max A (min x (M + 1))
/-- what lies in [A, M] of the block of 2^k addresses at P -/
def win (A M : Nat) : Nat → Nat → List (Nat × Nat)
  | k, P => if P + 2 ^ k ≤ A ∨ M < P then [] else if A ≤ P ∧ P + 2 ^ k ≤ M + 1 then [(P, k)] else
    match k with
    | 0 => []
    | k + 1 => win A M k P ++ win A M k (P + 2 ^ k)
theorem win_none {A M k P : Nat} (h : P + 2 ^ k ≤ A ∨ M < P) : win A M k P = [] := by
  unfold win; rw [if_pos h]
theorem win_one {A M k P : Nat} (h : A ≤ P ∧ P + 2 ^ k ≤ M + 1) (h2 : ¬ (P + 2 ^ k ≤ A ∨ M < P)) : win A M k P = [(P, k)] := by
  unfold win; rw [if_neg h2, if_pos h]
theorem win_two {A M k P : Nat} (h : ¬ (A ≤ P ∧ P + 2 ^ (k + 1) ≤ M + 1)) (h2 : ¬ (P + 2 ^ (k + 1) ≤ A ∨ M < P)) : win A M (k + 1) P = win A M k P ++ win A M k (P + 2 ^ k) := by
  rw [win]; rw [if_neg h2, if_neg h]
theorem win_head {W A M P k : Nat} {t : List (Nat × Nat)} (hk : k ≤ W) (ha : P % 2 ^ k = 0) (hx : k = W ∨ P % 2 ^ (k + 1) ≠ 0 ∨ ¬ (A ≤ P ∧ P + 2 ^ (k + 1) ≤ M + 1)) (h1 : A ≤ P ∧ P + 2 ^ k ≤ M + 1)
    (ht : Spn.Steps W (P + 2 ^ k) (M + 1 - (P + 2 ^ k)) t) : Spn.Steps W P (M + 1 - P) ([(P, k)] ++ t) := by
  have hp := Nat.two_pow_pos k
  have hn : 1 ≤ M + 1 - P := by omega
  have hg : gre W P (M + 1 - P) = k := by
    have g1 := gre_max W P (M + 1 - P) k hk ha (by omega)
    have g2 := gre_fits W P (M + 1 - P) hn
    have g3 := gre_le W P (M + 1 - P)
    rcases Nat.lt_or_ge k (gre W P (M + 1 - P)) with hlt | hge
    · exfalso
      have d := dvd_of_le g2.1 hlt
      have l := Nat.le_trans (Nat.pow_le_pow_right (by omega : 0 < 2) hlt) g2.2
      rcases hx with h | h | h
      · omega
      · exact h d
      · exact h ⟨h1.1, by omega⟩
    · omega
  have hs := Spn.Steps.cons P (M + 1 - P) t hn (by rw [hg, show M + 1 - P - 2 ^ k = M + 1 - (P + 2 ^ k) by omega]; exact ht)
  rw [hg] at hs
  exact hs
theorem win_steps {W A M : Nat} (hAM : A ≤ M) : ∀ (k P : Nat) (t : List (Nat × Nat)), k ≤ W → P % 2 ^ k = 0 → (k = W ∨ P % 2 ^ (k + 1) ≠ 0 ∨ ¬ (A ≤ P ∧ P + 2 ^ (k + 1) ≤ M + 1)) →
    Spn.Steps W (clampN A M (P + 2 ^ k)) (M + 1 - clampN A M (P + 2 ^ k)) t → Spn.Steps W (clampN A M P) (M + 1 - clampN A M P) (win A M k P ++ t) := by
  intro k
  induction k with
  | zero =>
    intro P t hk ha hx ht
    by_cases h2 : P + 2 ^ 0 ≤ A ∨ M < P
    · rw [win_none h2, List.nil_append]
      have : clampN A M (P + 2 ^ 0) = clampN A M P := by
        unfold clampN
        have : (2 : Nat) ^ 0 = 1 := rfl
        omega
      rw [this] at ht
      exact ht
    · have e0 : (2 : Nat) ^ 0 = 1 := rfl
      have h1 : A ≤ P ∧ P + 2 ^ 0 ≤ M + 1 := by omega
      rw [win_one h1 h2]
      have c1 : clampN A M P = P := by unfold clampN; omega
      have c2 : clampN A M (P + 2 ^ 0) = P + 2 ^ 0 := by unfold clampN; omega
      rw [c1]
      rw [c2] at ht
      exact win_head hk ha hx h1 ht
  | succ k ih =>
    intro P t hk ha hx ht
    by_cases h2 : P + 2 ^ (k + 1) ≤ A ∨ M < P
    · rw [win_none h2, List.nil_append]
      have : clampN A M (P + 2 ^ (k + 1)) = clampN A M P := by
        unfold clampN
        omega
      rw [this] at ht
      exact ht
    · by_cases h1 : A ≤ P ∧ P + 2 ^ (k + 1) ≤ M + 1
      · rw [win_one h1 h2]
        have hp := Nat.two_pow_pos (k + 1)
        have c1 : clampN A M P = P := by unfold clampN; omega
        have c2 : clampN A M (P + 2 ^ (k + 1)) = P + 2 ^ (k + 1) := by unfold clampN; omega
        rw [c1]
        rw [c2] at ht
        exact win_head hk ha hx h1 ht
      · rw [win_two h1 h2, List.append_assoc]
        have hd : P % 2 ^ k = 0 := dvd_of_le ha (by omega)
        refine ih P _ (by omega) hd (Or.inr (Or.inr h1)) ?_
        refine ih (P + 2 ^ k) t (by omega) (by rw [Nat.add_mod_right]; exact hd) (Or.inr (Or.inl ?_)) ?_
        · have hp := Nat.two_pow_pos k
          have e : 2 ^ (k + 1) = 2 ^ k + 2 ^ k := by rw [Nat.pow_succ]; omega
          obtain ⟨q, rfl⟩ := Nat.dvd_of_mod_eq_zero ha
          rw [Nat.mul_add_mod, Nat.mod_eq_of_lt (by omega)]
          omega
        · rw [show P + 2 ^ k + 2 ^ k = P + 2 ^ (k + 1) by rw [Nat.pow_succ]; omega]
          exact ht
end Go.Proofs.Ytjngfieggacpiaa
