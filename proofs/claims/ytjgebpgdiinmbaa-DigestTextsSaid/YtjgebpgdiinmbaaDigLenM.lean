/-
  Which characters the strings have, and how many.
-/
import Derived.Test.YtjgebpgdiinmbaaDigOpen
namespace Go.Proofs.Ytjgebpgdiinmbaa
open Go.RowKit Sha
set_option linter.unusedVariables false
set_option linter.unusedSimpArgs false
theorem dgB4_cons (a : UInt8) (r : List UInt8) : dgB 4 0 0 (a :: r) = [a.toNat / 16, a.toNat % 16] ++ dgB 4 0 0 r := by
  have ha := a.toNat_lt
  simp only [dgB, dgs, Nat.reduceAdd, Nat.reduceMod, Nat.reduceLeDiff, if_true, if_false, Nat.reduceSub, Nat.reducePow, Nat.zero_mul, Nat.zero_add, List.append_assoc, List.cons_append, List.nil_append, Nat.pow_zero, Nat.mod_one, Nat.div_one, Nat.le_refl]
  refine List.cons_eq_cons.2 ⟨by omega, List.cons_eq_cons.2 ⟨by omega, rfl⟩⟩
theorem hexD_len (b : List UInt8) : (dgB 4 0 0 b).length = 2 * b.length := by
  induction b with
  | nil => rfl
  | cons a r ih => rw [dgB4_cons, List.length_append, ih]; simp; omega
theorem hexS_len (b : List UInt8) : (hexS b).length = 2 * b.length := by unfold hexS; rw [List.length_map, hexD_len]
theorem dgs_lt (W : Nat) : ∀ (f H K : Nat), ∀ d ∈ dgs W f H K, d < 2 ^ W
  | 0, _, _, d, h => by cases h
  | f + 1, H, K, d, h => by
    rw [dgs] at h
    split at h
    · rcases List.mem_cons.1 h with rfl | h
      · exact Nat.mod_lt _ (Nat.two_pow_pos W)
      · exact dgs_lt W f H (K - W) d h
    · cases h
theorem dgB_lt (W : Nat) : ∀ (b : List UInt8) (P K : Nat), ∀ d ∈ dgB W P K b, d < 2 ^ W
  | [], P, K, d, h => by
    rw [dgB] at h
    split at h
    · rw [List.mem_singleton.1 h]; exact Nat.mod_lt _ (Nat.two_pow_pos W)
    · cases h
  | c :: r, P, K, d, h => by
    rw [dgB] at h
    rcases List.mem_append.1 h with h | h
    · exact dgs_lt W _ _ _ d h
    · exact dgB_lt W r _ _ d h
def isHex (x : UInt8) : Bool := (48 ≤ x.toNat && x.toNat ≤ 57) || (97 ≤ x.toNat && x.toNat ≤ 102)
def isB64 (x : UInt8) : Bool := (65 ≤ x.toNat && x.toNat ≤ 90) || (97 ≤ x.toNat && x.toNat ≤ 122) || (48 ≤ x.toNat && x.toNat ≤ 57) || x.toNat == 43 || x.toNat == 47
theorem ch_hex : ∀ d : Fin 16, isHex (ch hexL d.val) = true := by decide +kernel
theorem ch_b64 : ∀ d : Fin 64, isB64 (ch b64L d.val) = true := by decide +kernel
theorem hexS_is (b : List UInt8) : ∀ x ∈ hexS b, isHex x = true := fun x hx => by
  obtain ⟨d, hd, rfl⟩ := List.mem_map.1 hx
  exact ch_hex ⟨d, dgB_lt 4 b 0 0 d hd⟩
theorem b64D_is (b : List UInt8) : ∀ x ∈ b64D b, isB64 x = true := fun x hx => by
  obtain ⟨d, hd, rfl⟩ := List.mem_map.1 hx
  exact ch_b64 ⟨d, dgB_lt 6 b 0 0 d hd⟩
/-- how many fill up -/
theorem b64_pads (b : List UInt8) : (4 - (b64D b).length % 4) % 4 = (3 - b.length % 3) % 3 ∧ (b64D b).length + (3 - b.length % 3) % 3 = (b.length + 2) / 3 * 4 := by
  have h := b64_mod b
  rw [← b64D_len] at h
  obtain ⟨h1, h2⟩ := h
  obtain ⟨L, hL⟩ : ∃ L, (b64D b).length = L := ⟨_, rfl⟩
  obtain ⟨n, hn⟩ : ∃ n, b.length = n := ⟨_, rfl⟩
  rw [hL, hn] at h1 h2 ⊢
  clear hL hn
  have h3 : n % 3 = 0 ∨ n % 3 = 1 ∨ n % 3 = 2 := by omega
  rcases h3 with h3 | h3 | h3
  · rw [h3] at h1 ⊢
    rw [if_pos rfl] at h1
    rw [h1]
    omega
  · rw [h3] at h1 ⊢
    rw [if_neg (by decide)] at h1
    rw [h1]
    omega
  · rw [h3] at h1 ⊢
    rw [if_neg (by decide)] at h1
    rw [h1]
    omega
theorem b64S_len (b : List UInt8) : (b64S b).length = (b.length + 2) / 3 * 4 := by
  unfold b64S
  rw [List.length_append, List.length_replicate, (b64_pads b).1, (b64_pads b).2]
theorem bs_at (l : List UInt8) (k : Nat) (h : k < (bs l).size) : (bs l)[k]'h = l.getD k 0 := by
  have h2 : k < l.length := h
  rw [List.getD_eq_getElem?_getD, List.getElem?_eq_getElem h2]
  rfl
theorem isHex_iff {x : UInt8} (h : isHex x = true) : (48 ≤ x.toNat ∧ x.toNat ≤ 57) ∨ (¬ x.toNat ≤ 57 ∧ 97 ≤ x.toNat ∧ x.toNat ≤ 102) := by
  unfold isHex at h
  simp at h
  omega
theorem isB64_iff {x : UInt8} (h : isB64 x = true) : (65 ≤ x.toNat ∧ x.toNat ≤ 90) ∨ (97 ≤ x.toNat ∧ x.toNat ≤ 122) ∨ (48 ≤ x.toNat ∧ x.toNat ≤ 57) ∨ x.toNat = 43 ∨ x.toNat = 47 := by
  unfold isB64 at h
  simp at h
  omega
end Go.Proofs.Ytjgebpgdiinmbaa
