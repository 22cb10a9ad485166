/-
  PLAIN MATHEMATICS of layer 1: the laws that Check, Cut and Covers rest on, over words.
-/
import Derived.Test.YthfgdgcdicacpaaNumMathB
namespace Go.Proofs.Ythfgdgcdicacpaa
namespace Adr
theorem u64_nat {x : Int} (h : U64 x) : ∃ X : Nat, x = (X : Int) ∧ X < 2 ^ 64 := ⟨x.toNat, by have := h.1; omega, by have := h.2; have := h.1; omega⟩
theorem ca_lt {f : Int} {H L : Nat} (hH : H < 2 ^ 64) (hL : L < 2 ^ 64) (hc : ca f H L = true) : num H L < 2 ^ (wid f).toNat := by
  unfold ca at hc
  split at hc
  · rename_i h4
    subst h4
    simp at hc
    have e : (wid 4).toNat = 32 := rfl
    rw [e]
    unfold num
    omega
  · simp at hc
    subst hc
    have e : (wid 6).toNat = 128 := rfl
    have e2 : (2 : Nat) ^ 128 = 2 ^ 64 * 2 ^ 64 := by decide
    rw [e, e2]
    unfold num
    omega
theorem bt_at (H L W j : Nat) (hL : L < 2 ^ 64) (hj : j < W) : bt H L ((W : Int) - 1 - j) = ((num H L / 2 ^ (W - 1 - j) % 2 : Nat) : Int) := by
  rw [show ((W : Int) - 1 - j) = ((W - 1 - j : Nat) : Int) by omega]
  exact bt_num H L _ hL
/-- Check: all bits behind the length are 0 -/
theorem chk_iff {h l : Int} (uh : U64 h) (ul : U64 l) (W n : Nat) (hn : n ≤ W) :
    (∀ j : Nat, n ≤ j → j < W → bt h l ((W : Int) - 1 - j) = 0) ↔ (clrH h ((W : Int) - n) = h ∧ clrL l ((W : Int) - n) = l) := by
  obtain ⟨H, rfl, hH⟩ := u64_nat uh
  obtain ⟨L, rfl, hL⟩ := u64_nat ul
  obtain ⟨H', L', e1, e2, hL', e3⟩ := clr_num H L (W - n) hL
  rw [show ((W : Int) - n) = ((W - n : Nat) : Int) by omega, e1, e2]
  have h1 : (∀ j : Nat, n ≤ j → j < W → bt H L ((W : Int) - 1 - j) = 0) ↔ (∀ k, k < W - n → num H L / 2 ^ k % 2 = 0) := by
    constructor
    · intro hh k hk
      have := hh (W - 1 - k) (by omega) (by omega)
      rw [bt_at H L W _ hL (by omega), show W - 1 - (W - 1 - k) = k by omega] at this
      omega
    · intro hh j hj hw
      rw [bt_at H L W _ hL hw, hh _ (by omega)]
      rfl
  rw [h1, zero_bits, ← e3]
  constructor
  · intro hh
    obtain ⟨a, b⟩ := num_inj hL' hL hh
    exact ⟨by omega, by omega⟩
  · rintro ⟨a, b⟩
    have a' : H' = H := by omega
    have b' : L' = L := by omega
    rw [a', b']
/-- Cut: the bits of what is cut -/
theorem cut_bits {h l : Int} (uh : U64 h) (ul : U64 l) (W n j : Nat) (hn : n ≤ W) (hj : j < W) :
    bt (clrH h ((W : Int) - n)) (clrL l ((W : Int) - n)) ((W : Int) - 1 - j) = if j < n then bt h l ((W : Int) - 1 - j) else 0 := by
  obtain ⟨H, rfl, hH⟩ := u64_nat uh
  obtain ⟨L, rfl, hL⟩ := u64_nat ul
  obtain ⟨H', L', e1, e2, hL', e3⟩ := clr_num H L (W - n) hL
  rw [show ((W : Int) - n) = ((W - n : Nat) : Int) by omega, e1, e2, bt_at H' L' W j hL' hj, e3, clear_bit, bt_at H L W j hL hj]
  by_cases h1 : j < n
  · rw [if_neg (by omega), if_pos h1]
  · rw [if_pos (by omega), if_neg h1]; rfl
/-- Covers: the same bits up to the length -/
theorem cov_iff {h l h' l' : Int} (uh : U64 h) (ul : U64 l) (uh' : U64 h') (ul' : U64 l') (f : Int) (c : ca f h l = true) (c' : ca f h' l' = true) (W n : Nat) (hW : wid f = (W : Int)) (hn : n ≤ W)
    (z1 : clrH h ((W : Int) - n) = h) (z2 : clrL l ((W : Int) - n) = l) :
    (∀ j : Nat, j < n → bt h l ((W : Int) - 1 - j) = bt h' l' ((W : Int) - 1 - j)) ↔ (clrH h' ((W : Int) - n) = h ∧ clrL l' ((W : Int) - n) = l) := by
  obtain ⟨H, rfl, hH⟩ := u64_nat uh
  obtain ⟨L, rfl, hL⟩ := u64_nat ul
  obtain ⟨H', rfl, hH'⟩ := u64_nat uh'
  obtain ⟨L', rfl, hL'⟩ := u64_nat ul'
  obtain ⟨A, B, a1, a2, hB, a3⟩ := clr_num H L (W - n) hL
  obtain ⟨A', B', b1, b2, hB', b3⟩ := clr_num H' L' (W - n) hL'
  have eWn : ((W : Int) - n) = ((W - n : Nat) : Int) := by omega
  rw [eWn] at z1 z2 ⊢
  rw [a1] at z1
  rw [a2] at z2
  have z1' : A = H := by omega
  have z2' : B = L := by omega
  rw [z1', z2'] at a3
  rw [b1, b2]
  have lt1 := ca_lt hH hL c
  have lt2 := ca_lt hH' hL' c'
  have eW : (wid f).toNat = W := by omega
  rw [eW] at lt1 lt2
  have key := same_bits (num H L) (num H' L') (W - n) W lt1 lt2 a3.symm
  have h1 : (∀ j : Nat, j < n → bt H L ((W : Int) - 1 - j) = bt H' L' ((W : Int) - 1 - j)) ↔ (∀ k, W - n ≤ k → k < W → num H L / 2 ^ k % 2 = num H' L' / 2 ^ k % 2) := by
    constructor
    · intro hh k hk hw
      have := hh (W - 1 - k) (by omega)
      rw [bt_at H L W _ hL (by omega), bt_at H' L' W _ hL' (by omega), show W - 1 - (W - 1 - k) = k by omega] at this
      omega
    · intro hh j hj
      rw [bt_at H L W _ hL (by omega), bt_at H' L' W _ hL' (by omega), hh _ (by omega) (by omega)]
  rw [h1, key, ← b3]
  constructor
  · intro hh
    obtain ⟨x, y⟩ := num_inj hB' hL hh
    exact ⟨by omega, by omega⟩
  · rintro ⟨x, y⟩
    have x' : A' = H := by omega
    have y' : B' = L := by omega
    rw [x', y']
/-- one step of the reference's Addr -/
theorem addr_step (N W k : Nat) (hN : N < 2 ^ 128) (hk : k < W) :
    IntKind.u64.wrap (IntKind.u64.wrap (((N / 2 ^ (W - k) / 2 ^ 64 : Nat) : Int) + ((N / 2 ^ (W - k) / 2 ^ 64 : Nat) : Int)) + IntKind.u64.wrap (Int.tdiv ((N / 2 ^ (W - k) % 2 ^ 64 : Nat) : Int) 9223372036854775808)) = ((N / 2 ^ (W - (k + 1)) / 2 ^ 64 : Nat) : Int) ∧
    IntKind.u64.wrap (IntKind.u64.wrap (((N / 2 ^ (W - k) % 2 ^ 64 : Nat) : Int) + ((N / 2 ^ (W - k) % 2 ^ 64 : Nat) : Int)) + IntKind.u64.wrap ((N / 2 ^ (W - 1 - k) % 2 : Nat) : Int)) = ((N / 2 ^ (W - (k + 1)) % 2 ^ 64 : Nat) : Int) := by
  have e1 : N / 2 ^ (W - k) = N / 2 ^ (W - (k + 1)) / 2 := by
    rw [show W - k = (W - (k + 1)) + 1 by omega, Nat.pow_succ, Nat.div_div_eq_div_mul]
  have e2 : W - 1 - k = W - (k + 1) := by omega
  have hV : N / 2 ^ (W - (k + 1)) < 2 ^ 128 := Nat.lt_of_le_of_lt (Nat.div_le_self _ _) hN
  rw [e1, e2]
  generalize N / 2 ^ (W - (k + 1)) = V at *
  have w0 : ∀ x : Int, IntKind.u64.wrap x = x % 18446744073709551616 := fun x => by simp [IntKind.wrap, IntKind.signed, IntKind.bits]
  rw [Int.tdiv_eq_ediv_of_nonneg (by omega)]
  simp only [w0]
  have e128 : (2 : Nat) ^ 128 = 340282366920938463463374607431768211456 := by decide
  rw [e128] at hV
  constructor <;> omega
end Adr
end Go.Proofs.Ythfgdgcdicacpaa
