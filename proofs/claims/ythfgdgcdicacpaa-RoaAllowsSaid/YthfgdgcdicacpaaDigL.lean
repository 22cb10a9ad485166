/-
  THE WALKS over the strings in hexadecimal and in base64.
-/
import Derived.Test.YthfgdgcdicacpaaDigK
namespace Go.Proofs.Ythfgdgcdicacpaa
open Go.RowKit Sha
set_option linter.unusedVariables false
set_option linter.unusedSimpArgs false
def hexL : ByteArray := ⟨#[48, 49, 50, 51, 52, 53, 54, 55, 56, 57, 97, 98, 99, 100, 101, 102]⟩
def b64L : ByteArray := ⟨#[65, 66, 67, 68, 69, 70, 71, 72, 73, 74, 75, 76, 77, 78, 79, 80, 81, 82, 83, 84, 85, 86, 87, 88, 89, 90, 97, 98, 99, 100, 101, 102, 103, 104, 105, 106, 107, 108, 109, 110, 111, 112, 113, 114, 115, 116, 117, 118, 119, 120, 121, 122, 48, 49, 50, 51, 52, 53, 54, 55, 56, 57, 43, 47]⟩
/-- the string in hexadecimal -/
def hexS (b : List UInt8) : List UInt8 := (dgB 4 0 0 b).map (ch hexL)
/-- the characters of base64 without those that fill up -/
def b64D (b : List UInt8) : List UInt8 := (dgB 6 0 0 b).map (ch b64L)
def b64S (b : List UInt8) : List UInt8 := b64D b ++ List.replicate ((4 - (b64D b).length % 4) % 4) 61
def bs (l : List UInt8) : ByteArray := ⟨l.toArray⟩
theorem bs_size (l : List UInt8) : (bs l).size = l.length := rfl
theorem bs_app (a b : List UInt8) : bs (a ++ b) = bs a ++ bs b := by
  apply ByteArray.ext
  simp [bs]
theorem dgB6_three (a b c : UInt8) (r : List UInt8) : dgB 6 0 0 (a :: b :: c :: r) = [(a.toNat * 65536 + b.toNat * 256 + c.toNat) / 262144, (a.toNat * 65536 + b.toNat * 256 + c.toNat) / 4096 % 64, (a.toNat * 65536 + b.toNat * 256 + c.toNat) / 64 % 64, (a.toNat * 65536 + b.toNat * 256 + c.toNat) % 64] ++ dgB 6 0 0 r := by
  have ha := a.toNat_lt
  have hb := b.toNat_lt
  have hc := c.toNat_lt
  simp only [dgB, dgs, Nat.reduceAdd, Nat.reduceMod, Nat.reduceLeDiff, if_true, if_false, Nat.reduceSub, Nat.reducePow, Nat.zero_mul, Nat.zero_add, List.append_assoc, List.cons_append, List.nil_append, Nat.pow_zero, Nat.mod_one, Nat.div_one, Nat.le_refl]
  refine List.cons_eq_cons.2 ⟨by omega, List.cons_eq_cons.2 ⟨by omega, List.cons_eq_cons.2 ⟨by omega, List.cons_eq_cons.2 ⟨by omega, rfl⟩⟩⟩⟩
theorem dgB6_one (a : UInt8) : dgB 6 0 0 [a] = [a.toNat / 4, a.toNat % 4 * 16] := by
  have ha := a.toNat_lt
  simp only [dgB, dgs, Nat.reduceAdd, Nat.reduceMod, Nat.reduceLeDiff, if_true, if_false, Nat.reduceSub, Nat.reducePow, Nat.zero_mul, Nat.zero_add, List.append_assoc, List.cons_append, List.nil_append, Nat.pow_zero, Nat.mod_one, Nat.div_one, Nat.le_refl, Nat.lt_irrefl, Nat.reduceLT]
  refine List.cons_eq_cons.2 ⟨by omega, List.cons_eq_cons.2 ⟨by omega, rfl⟩⟩
theorem dgB6_two (a b : UInt8) : dgB 6 0 0 [a, b] = [a.toNat / 4, (a.toNat * 256 + b.toNat) / 16 % 64, b.toNat % 16 * 4] := by
  have ha := a.toNat_lt
  have hb := b.toNat_lt
  simp only [dgB, dgs, Nat.reduceAdd, Nat.reduceMod, Nat.reduceLeDiff, if_true, if_false, Nat.reduceSub, Nat.reducePow, Nat.zero_mul, Nat.zero_add, List.append_assoc, List.cons_append, List.nil_append, Nat.pow_zero, Nat.mod_one, Nat.div_one, Nat.le_refl, Nat.lt_irrefl, Nat.reduceLT]
  refine List.cons_eq_cons.2 ⟨by omega, List.cons_eq_cons.2 ⟨by omega, List.cons_eq_cons.2 ⟨by omega, rfl⟩⟩⟩
theorem dgB6_nil : dgB 6 0 0 [] = [] := rfl
/-- lists three by three -/
theorem three_rec {P : List UInt8 → Prop} (h0 : P []) (h1 : ∀ a, P [a]) (h2 : ∀ a b, P [a, b]) (h3 : ∀ a b c r, P r → P (a :: b :: c :: r)) : ∀ l, P l
  | [] => h0
  | [a] => h1 a
  | [a, b] => h2 a b
  | a :: b :: c :: r => h3 a b c r (three_rec h0 h1 h2 h3 r)
theorem b64_mod (b : List UInt8) : (dgB 6 0 0 b).length % 4 = (if b.length % 3 = 0 then 0 else b.length % 3 + 1) ∧ (dgB 6 0 0 b).length / 4 = b.length / 3 := by
  refine three_rec (P := fun b => (dgB 6 0 0 b).length % 4 = (if b.length % 3 = 0 then 0 else b.length % 3 + 1) ∧ (dgB 6 0 0 b).length / 4 = b.length / 3) ?_ ?_ ?_ ?_ b
  · exact ⟨rfl, rfl⟩
  · intro a; rw [dgB6_one]; exact ⟨by simp, by simp⟩
  · intro a b; rw [dgB6_two]; exact ⟨by simp, by simp⟩
  · intro a b c r ih
    rw [dgB6_three]
    simp only [List.length_append, List.length_cons, List.length_nil]
    split at ih <;> split <;> omega
theorem b64D_len (b : List UInt8) : (b64D b).length = (dgB 6 0 0 b).length := by unfold b64D; rw [List.length_map]
end Go.Proofs.Ythfgdgcdicacpaa
