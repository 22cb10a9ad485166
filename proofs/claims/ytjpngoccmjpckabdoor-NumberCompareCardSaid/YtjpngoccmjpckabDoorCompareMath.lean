/-
  PLAIN MATHEMATICS of layer 1: the order of two addresses is that of the first bit in which they differ.
-/
import Derived.Test.YtjpngoccmjpckabDoorNumMathC
namespace Go.Proofs.YtjpngoccmjpckabDoor
namespace Adr
theorem same_heads (A B : Nat) (hA : A < 2 ^ 128) (hB : B < 2 ^ 128) : ∀ k, k ≤ 128 → (∀ j, j < k → A / 2 ^ (128 - 1 - j) % 2 = B / 2 ^ (128 - 1 - j) % 2) → A / 2 ^ (128 - k) = B / 2 ^ (128 - k)
  | 0, _, _ => by rw [Nat.div_eq_of_lt hA, Nat.div_eq_of_lt hB]
  | k + 1, hk, h => by
    have ih := same_heads A B hA hB k (by omega) (fun j hj => h j (by omega))
    have hb := h k (by omega)
    obtain ⟨m, hm⟩ : ∃ m, 128 - (k + 1) = m := ⟨_, rfl⟩
    rw [show 128 - k = m + 1 by omega, Nat.pow_succ, ← Nat.div_div_eq_div_mul, ← Nat.div_div_eq_div_mul] at ih
    rw [show 128 - 1 - k = m by omega] at hb
    rw [hm]
    omega
theorem heads_lt (A B m : Nat) (h : A / 2 ^ (m + 1) = B / 2 ^ (m + 1)) (ha : A / 2 ^ m % 2 = 0) (hb : B / 2 ^ m % 2 = 1) : A < B := by
  rw [Nat.pow_succ, ← Nat.div_div_eq_div_mul, ← Nat.div_div_eq_div_mul] at h
  have h1 : A / 2 ^ m < B / 2 ^ m := by omega
  rcases Nat.lt_or_ge A B with h2 | h2
  · exact h2
  · have := Nat.div_le_div_right (c := 2 ^ m) h2
    omega
/-- the bit in which two addresses differ first says which is less -/
theorem first_bit {h l h' l' : Int} (uh : U64 h) (ul : U64 l) (uh' : U64 h') (ul' : U64 l') (k : Nat) (hk : k < 128) (hj : ∀ j : Nat, j < k → bt h l (128 - 1 - j) = bt h' l' (128 - 1 - j)) (hne : bt h l (128 - 1 - k) ≠ bt h' l' (128 - 1 - k)) :
    bt h l (128 - 1 - k) - bt h' l' (128 - 1 - k) = cmp h l h' l' := by
  obtain ⟨H, rfl, hH⟩ := u64_nat uh
  obtain ⟨L, rfl, hL⟩ := u64_nat ul
  obtain ⟨H', rfl, hH'⟩ := u64_nat uh'
  obtain ⟨L', rfl, hL'⟩ := u64_nat ul'
  have hA : num H L < 2 ^ 128 := by unfold num; omega
  have hB : num H' L' < 2 ^ 128 := by unfold num; omega
  have e1 : ∀ j : Nat, j < 128 → bt H L (128 - 1 - j) = ((num H L / 2 ^ (128 - 1 - j) % 2 : Nat) : Int) := fun j hj => bt_at H L 128 j hL hj
  have e2 : ∀ j : Nat, j < 128 → bt H' L' (128 - 1 - j) = ((num H' L' / 2 ^ (128 - 1 - j) % 2 : Nat) : Int) := fun j hj => bt_at H' L' 128 j hL' hj
  have hs := same_heads (num H L) (num H' L') hA hB k (by omega) (fun j hjk => by
    have := hj j hjk
    rw [e1 j (by omega), e2 j (by omega)] at this
    omega)
  rw [e1 k hk, e2 k hk] at hne ⊢
  rw [show 128 - k = (128 - 1 - k) + 1 by omega] at hs
  have hA2 := Nat.mod_two_eq_zero_or_one (num H L / 2 ^ (128 - 1 - k))
  have hB2 := Nat.mod_two_eq_zero_or_one (num H' L' / 2 ^ (128 - 1 - k))
  rcases hA2 with ha | ha <;> rcases hB2 with hb | hb
  · omega
  · have hlt := heads_lt _ _ _ hs ha hb
    unfold num at hlt
    rw [ha, hb]
    unfold cmp
    rw [if_neg (by omega), if_pos (by omega)]
    rfl
  · have hlt := heads_lt _ _ _ hs.symm hb ha
    unfold num at hlt
    rw [ha, hb]
    unfold cmp
    rw [if_neg (by omega), if_neg (by omega)]
    rfl
  · omega
theorem all_bits {h l h' l' : Int} (uh : U64 h) (ul : U64 l) (uh' : U64 h') (ul' : U64 l') (hj : ∀ j : Nat, j < 128 → bt h l (128 - 1 - j) = bt h' l' (128 - 1 - j)) : h = h' ∧ l = l' := by
  obtain ⟨H, rfl, hH⟩ := u64_nat uh
  obtain ⟨L, rfl, hL⟩ := u64_nat ul
  obtain ⟨H', rfl, hH'⟩ := u64_nat uh'
  obtain ⟨L', rfl, hL'⟩ := u64_nat ul'
  have hA : num H L < 2 ^ 128 := by unfold num; omega
  have hB : num H' L' < 2 ^ 128 := by unfold num; omega
  have hs := same_heads (num H L) (num H' L') hA hB 128 (by omega) (fun j hjk => by
    have := hj j hjk
    have e1 : bt H L (128 - 1 - j) = ((num H L / 2 ^ (128 - 1 - j) % 2 : Nat) : Int) := bt_at H L 128 j hL hjk
    have e2 : bt H' L' (128 - 1 - j) = ((num H' L' / 2 ^ (128 - 1 - j) % 2 : Nat) : Int) := bt_at H' L' 128 j hL' hjk
    rw [e1, e2] at this
    omega)
  simp at hs
  obtain ⟨a, b⟩ := num_inj hL hL' hs
  exact ⟨by omega, by omega⟩
end Adr
end Go.Proofs.YtjpngoccmjpckabDoor
