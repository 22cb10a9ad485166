/-
  PLAIN MATHEMATICS of layer 1: an address as one number, and its bits.
-/
import Derived.Test.YthfgdgcdicacpaaNumMath
namespace Go.Proofs.Ythfgdgcdicacpaa
namespace Adr
/-- the number of an address -/
def num (H L : Nat) : Nat := H * 2 ^ 64 + L
theorem num_div (H L : Nat) (hL : L < 2 ^ 64) : num H L / 2 ^ 64 = H := by unfold num; omega
theorem num_mod (H L : Nat) (hL : L < 2 ^ 64) : num H L % 2 ^ 64 = L := by unfold num; omega
theorem num_lo (H L k : Nat) (hk : k ≤ 64) : num H L / 2 ^ k = H * 2 ^ (64 - k) + L / 2 ^ k := by
  have e : (2 : Nat) ^ 64 = 2 ^ (64 - k) * 2 ^ k := by rw [← Nat.pow_add]; congr 1; omega
  unfold num
  rw [e, ← Nat.mul_assoc, Nat.add_comm, Nat.add_mul_div_right _ _ (Nat.two_pow_pos k), Nat.add_comm]
theorem num_hi (H L k : Nat) (hL : L < 2 ^ 64) (hk : 64 ≤ k) : num H L / 2 ^ k = H / 2 ^ (k - 64) := by
  have e : (2 : Nat) ^ k = 2 ^ 64 * 2 ^ (k - 64) := by rw [← Nat.pow_add]; congr 1; omega
  rw [e, ← Nat.div_div_eq_div_mul, num_div H L hL]
theorem even_pow (a k : Nat) (hk : 0 < k) : a * 2 ^ k % 2 = 0 := by
  obtain ⟨j, rfl⟩ : ∃ j, k = j + 1 := ⟨k - 1, by omega⟩
  rw [Nat.pow_succ, ← Nat.mul_assoc]
  omega
theorem bt_num (H L k : Nat) (hL : L < 2 ^ 64) : bt H L k = ((num H L / 2 ^ k % 2 : Nat) : Int) := by
  unfold bt
  by_cases hk : 64 ≤ k
  · rw [if_pos (by omega), num_hi H L k hL hk]
    have e : ((k : Int) - 64).toNat = k - 64 := by omega
    rw [e]; simp
  · rw [if_neg (by omega), num_lo H L k (by omega)]
    have h1 := even_pow H (64 - k) (by omega)
    have e : (k : Int).toNat = k := by omega
    rw [e, Nat.add_mod, h1]
    simp
theorem clr_num (H L m : Nat) (hL : L < 2 ^ 64) : ∃ H' L' : Nat, clrH H m = (H' : Int) ∧ clrL L m = (L' : Int) ∧ L' < 2 ^ 64 ∧ num H' L' = num H L / 2 ^ m * 2 ^ m := by
  by_cases hm : 64 ≤ m
  · refine ⟨H / 2 ^ (m - 64) * 2 ^ (m - 64), 0, ?_, ?_, by omega, ?_⟩
    · have e : ((m : Int) - 64).toNat = m - 64 := by omega
      unfold clrH
      rw [if_pos (by omega), e]; simp
    · unfold clrL
      rw [if_pos (by omega)]; simp
    · rw [num_hi H L m hL hm]
      have e : (2 : Nat) ^ m = 2 ^ (m - 64) * 2 ^ 64 := by rw [← Nat.pow_add]; congr 1; omega
      unfold num
      rw [e, ← Nat.mul_assoc, Nat.add_zero]
  · refine ⟨H, L / 2 ^ m * 2 ^ m, ?_, ?_, Nat.lt_of_le_of_lt (Nat.div_mul_le_self _ _) hL, ?_⟩
    · unfold clrH
      rw [if_neg (by omega)]
    · have e : (m : Int).toNat = m := by omega
      unfold clrL
      rw [if_neg (by omega), e]; simp
    · rw [num_lo H L m (by omega)]
      have e : (2 : Nat) ^ 64 = 2 ^ (64 - m) * 2 ^ m := by rw [← Nat.pow_add]; congr 1; omega
      unfold num
      rw [e, Nat.add_mul, Nat.mul_assoc]
theorem num_inj {H L H' L' : Nat} (hL : L < 2 ^ 64) (hL' : L' < 2 ^ 64) (h : num H L = num H' L') : H = H' ∧ L = L' := by
  unfold num at h
  omega
/-- which bits are left by clearing -/
theorem clear_bit (N m k : Nat) : N / 2 ^ m * 2 ^ m / 2 ^ k % 2 = if k < m then 0 else N / 2 ^ k % 2 := by
  by_cases h : k < m
  · rw [if_pos h]
    have e : (2 : Nat) ^ m = 2 ^ (m - k) * 2 ^ k := by rw [← Nat.pow_add]; congr 1; omega
    rw [show N / 2 ^ m * 2 ^ m = N / 2 ^ m * 2 ^ (m - k) * 2 ^ k by rw [Nat.mul_assoc, ← e], Nat.mul_div_cancel _ (Nat.two_pow_pos k)]
    exact even_pow _ _ (by omega)
  · rw [if_neg h]
    have e : (2 : Nat) ^ k = 2 ^ m * 2 ^ (k - m) := by rw [← Nat.pow_add]; congr 1; omega
    rw [e, ← Nat.div_div_eq_div_mul, ← Nat.div_div_eq_div_mul, Nat.mul_div_cancel _ (Nat.two_pow_pos m)]
theorem zero_bits (N m : Nat) : (∀ k, k < m → N / 2 ^ k % 2 = 0) ↔ N / 2 ^ m * 2 ^ m = N := by
  constructor
  · intro h
    induction m with
    | zero => simp
    | succ m ih =>
      have h1 := ih (fun k hk => h k (by omega))
      have h2 := h m (by omega)
      have e : N / 2 ^ (m + 1) = N / 2 ^ m / 2 := by rw [Nat.pow_succ, Nat.div_div_eq_div_mul]
      rw [e, Nat.pow_succ, Nat.mul_comm (2 ^ m) 2, ← Nat.mul_assoc]
      have e2 : N / 2 ^ m / 2 * 2 = N / 2 ^ m := by omega
      rw [e2, h1]
  · intro h k hk
    rw [← h, clear_bit, if_pos hk]
theorem bits_ext (a b : Nat) (h : ∀ k, a / 2 ^ k % 2 = b / 2 ^ k % 2) : a = b := by
  apply Nat.eq_of_testBit_eq
  intro i
  rw [Nat.testBit_eq_decide_div_mod_eq, Nat.testBit_eq_decide_div_mod_eq, h i]
theorem same_bits (P Q n W : Nat) (hP : P < 2 ^ W) (hQ : Q < 2 ^ W) (hz : P / 2 ^ n * 2 ^ n = P) :
    (∀ k, n ≤ k → k < W → P / 2 ^ k % 2 = Q / 2 ^ k % 2) ↔ Q / 2 ^ n * 2 ^ n = P := by
  constructor
  · intro h
    apply bits_ext
    intro k
    rw [clear_bit]
    by_cases hk : k < n
    · rw [if_pos hk]
      exact ((zero_bits P n).2 hz k hk).symm
    · rw [if_neg hk]
      by_cases hw : k < W
      · exact (h k (by omega) hw).symm
      · have e : (2 : Nat) ^ W ≤ 2 ^ k := Nat.pow_le_pow_right (by omega) (by omega)
        rw [Nat.div_eq_of_lt (by omega), Nat.div_eq_of_lt (by omega)]
  · intro h k h1 _
    rw [← h, clear_bit, if_neg (by omega)]
end Adr
end Go.Proofs.Ythfgdgcdicacpaa
