/-
  THE WALKS over bytes as digits of some bits each.
-/
import Derived.Test.YthfgdgcdicacpaaDigI
namespace Go.Proofs.Ythfgdgcdicacpaa
open Go.RowKit Sha
set_option linter.unusedVariables false
set_option linter.unusedSimpArgs false
/-- the digits of K bits, W bits each, the first ones first; what is less than W bits is left -/
def dgs (W : Nat) : Nat → Nat → Nat → List Nat
  | 0, _, _ => []
  | f + 1, H, K => if W ≤ K then (H / 2 ^ (K - W)) % 2 ^ W :: dgs W f H (K - W) else []
/-- the digits of bytes, K bits with the value P being ahead -/
def dgB (W : Nat) : Nat → Nat → List UInt8 → List Nat
  | P, K, [] => if 0 < K then [(P * 2 ^ (W - K)) % 2 ^ W] else []
  | P, K, c :: r => dgs W 4 (P * 256 + c.toNat) (K + 8) ++ dgB W ((P * 256 + c.toNat) % 2 ^ ((K + 8) % W)) ((K + 8) % W) r
theorem mod_part (X H m a W : Nat) (h : X % 2 ^ m = H) (ha : a + W ≤ m) : X / 2 ^ a % 2 ^ W = H / 2 ^ a % 2 ^ W := by
  rw [← Nat.mod_mul_right_div_self, ← Nat.mod_mul_right_div_self, ← Nat.pow_add, ← h, Nat.mod_mod_of_dvd _ (Nat.pow_dvd_pow 2 ha)]
theorem mod_less (X H m a : Nat) (h : X % 2 ^ m = H) (ha : a ≤ m) : X % 2 ^ a = H % 2 ^ a := by
  rw [← h, Nat.mod_mod_of_dvd _ (Nat.pow_dvd_pow 2 ha)]
theorem takeIn_nat (h : UInt32) (c : UInt8) : (takeIn h c).toNat = (h.toNat * 256) % 4294967296 + c.toNat := by
  have h1 := c.toNat_lt
  have h2 := h.toNat_lt
  unfold takeIn
  rw [UInt32.toNat_or, UInt32.toNat_shiftLeft, UInt32.toNat_ofNat', Nat.mod_eq_of_lt (show c.toNat < 2 ^ 32 by omega)]
  rw [show (8 : UInt32).toNat % 32 = 8 from rfl, Nat.shiftLeft_eq]
  rw [show h.toNat * 2 ^ 8 % 2 ^ 32 = (h.toNat % 2 ^ 24) * 2 ^ 8 by omega]
  rw [← Nat.shiftLeft_eq, ← Nat.shiftLeft_add_eq_or_of_lt (show c.toNat < 2 ^ 8 by omega), Nat.shiftLeft_eq]
theorem takeIn_mod (h : UInt32) (c : UInt8) (k : Nat) (hk : k < 6) : (takeIn h c).toNat % 2 ^ (k + 8) = (h.toNat % 2 ^ k) * 256 + c.toNat := by
  rw [takeIn_nat]
  have h1 := c.toNat_lt
  obtain rfl | rfl | rfl | rfl | rfl | rfl : k = 0 ∨ k = 1 ∨ k = 2 ∨ k = 3 ∨ k = 4 ∨ k = 5 := by omega
  all_goals (simp only [Nat.reduceAdd, Nat.reducePow]; omega)
theorem dgs_less (W f H K : Nat) (h : K < W) : dgs W f H K = [] := by
  cases f with
  | zero => rfl
  | succ f => rw [dgs, if_neg (by omega)]
theorem low_and (a : UInt32) (k : Nat) (hk : k = 4 ∨ k = 6) : bits .and .u32 (u a) (2 ^ k - 1) = ((a.toNat % 2 ^ k : Nat) : Int) := by
  have h1 : ∀ m : UInt32, m.toNat = 2 ^ k - 1 → bits .and .u32 (u a) (u m) = ((a.toNat % 2 ^ k : Nat) : Int) := fun m hm => by
    rw [u_and]
    unfold u
    rw [UInt32.toNat_and, hm, Nat.and_two_pow_sub_one_eq_mod]
  obtain rfl | rfl := hk
  · exact h1 15 rfl
  · exact h1 63 rfl
/-- what a width's digits are in characters -/
def ch (al : ByteArray) (d : Nat) : UInt8 := al.data.toList.getD d 0
theorem run_index_char (al : ByteArray) (d : Nat) (h : d < al.size) (w : World) : (Instr.index 9 (.string al) (.int .u32 (d : Int))).run Try.prog w = .ok (.int .u8 ((ch al d).toNat : Int)) w := by
  have h0 : (0 : Int) ≤ (d : Int) := by omega
  have h1 : al[d]? = some (ch al d) := by
    rw [getElem?_pos al d h]
    unfold ch
    rw [List.getD_eq_getElem?_getD, List.getElem?_eq_getElem (by simpa using h)]
    rfl
  simp [Instr.index, asIntOf, run_underlying Try.underlying9, h1]
theorem dgB_len (W : Nat) (hW : W = 4 ∨ W = 6) : ∀ (b : List UInt8) (P K : Nat), K < W → (dgB W P K b).length ≤ 2 * b.length + 1
  | [], P, K, _ => by unfold dgB; split <;> simp
  | c :: r, P, K, hK => by
    have h1 : (dgs W 4 (P * 256 + c.toNat) (K + 8)).length ≤ 2 := by
      obtain rfl | rfl := hW
      · simp only [dgs]
        rw [if_pos (by omega), if_pos (by omega), if_neg (by omega)]
        simp
      · simp only [dgs]
        rw [if_pos (by omega)]
        split
        · rw [if_neg (by omega)]; simp
        · simp
    have h2 := dgB_len W hW r ((P * 256 + c.toNat) % 2 ^ ((K + 8) % W)) ((K + 8) % W) (Nat.mod_lt _ (by omega))
    rw [dgB, List.length_append, List.length_cons]
    omega
end Go.Proofs.Ythfgdgcdicacpaa
