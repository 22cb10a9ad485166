/-
  PLAIN MATHEMATICS for the walk over the reference's AddrParse: the search of two colons; the strings at both sides; the filled row; the address of eight groups.
-/
import Derived.Test.YtlikgfmcialepaaGreatDoorTxRefJ
import Derived.Lib.IndexLaws
namespace Go.Proofs.YtlikgfmcialepaaGreatDoor
open Go.RowKit Adr
set_option linter.unusedVariables false
set_option linter.unusedSimpArgs false
theorem occ_two (l : List UInt8) (k : Nat) (h : k + 1 < l.length) : Lib.occAt l [58, 58] k = ((l[k]'(by omega)) == 58 && l[k + 1] == 58) := by
  unfold Lib.occAt
  rw [List.drop_eq_getElem_cons (by omega : k < l.length), List.drop_eq_getElem_cons h]
  have e : ∀ x : UInt8, (58 == x) = (x == 58) := fun x => by
    rw [Bool.eq_iff_iff, beq_iff_eq, beq_iff_eq]
    exact ⟨Eq.symm, Eq.symm⟩
  simp [List.isPrefixOf, e]
/-- what the search has found before place k -/
def Seek (l : List UInt8) (k : Nat) (at_ : Int) : Prop := (at_ = -1 ∧ Lib.NoOcc l [58, 58] k) ∨ (0 ≤ at_ ∧ at_ = Lib.index l [58, 58])
theorem Seek.zero (l : List UInt8) : Seek l 0 (-1) := Or.inl ⟨rfl, Lib.NoOcc.zero _ _⟩
theorem Seek.on {l : List UInt8} {k : Nat} (h : Seek l k (-1)) (hk : k + 1 < l.length) (hno : ((l[k]'(by omega)) == 58 && l[k + 1] == 58) = false) : Seek l (k + 1) (-1) := by
  rcases h with ⟨-, h⟩ | ⟨h, -⟩
  · exact Or.inl ⟨rfl, h.succ (by rw [occ_two l k hk]; exact hno)⟩
  · omega
theorem Seek.hit {l : List UInt8} {k : Nat} (h : Seek l k (-1)) (hk : k + 1 < l.length) (hyes : ((l[k]'(by omega)) == 58 && l[k + 1] == 58) = true) : Seek l (k + 1) (k : Int) := by
  rcases h with ⟨-, h⟩ | ⟨h, -⟩
  · exact Or.inr ⟨by omega, (Lib.index_hit h (by omega) (by rw [occ_two l k hk]; exact hyes)).symm⟩
  · omega
theorem Seek.done {l : List UInt8} {k : Nat} {at_ : Int} (h : Seek l k at_) (hk : l.length ≤ k + 1 ∨ 0 ≤ at_) : at_ = Lib.index l [58, 58] := by
  rcases h with ⟨rfl, h⟩ | ⟨-, h⟩
  · rcases hk with hk | hk
    · exact (Lib.index_past (by simp) h (by simp; omega)).symm
    · omega
  · exact h
/-- no two colons -/
theorem cut6_none {s : ByteArray} (h : Lib.index s.data.toList [58, 58] = -1) : cut6F s = false ∧ rsixL s = grR 16 65535 58 s := by
  have hf : cut6F s = false := by
    unfold cut6F Lib.cut
    rw [if_neg (by omega)]
  exact ⟨hf, by unfold rsixL; rw [hf, if_neg (by simp)]⟩
/-- two colons at m -/
theorem cut6_some {s : ByteArray} {m : Nat} (h : Lib.index s.data.toList [58, 58] = m) : cut6F s = true ∧ cut6A s = s.extract 0 m ∧ cut6B s = s.extract (m + 2) s.size ∧ m + 2 ≤ s.size := by
  have hr := Lib.index_room s.data.toList [58, 58] (by omega)
  have hl : s.data.toList.length = s.size := by simp
  rw [h, hl] at hr
  have hr2 : m + 2 ≤ s.size := by simp at hr; omega
  unfold cut6F cut6A cut6B Lib.cut
  rw [if_pos (by omega), h]
  refine ⟨rfl, ?_, ?_, hr2⟩
  · rw [ext_str]
    show str (s.data.toList.take ((m : Int)).toNat) = str ((s.data.toList.drop 0).take (m - 0))
    rw [Int.toNat_natCast, List.drop_zero, Nat.sub_zero]
  · rw [ext_str]
    show str (s.data.toList.drop (((m : Int)).toNat + 2)) = str ((s.data.toList.drop (m + 2)).take (s.size - (m + 2)))
    rw [Int.toNat_natCast, List.take_of_length_le (by rw [List.length_drop, hl]; omega)]
/-- the row filled: k zeros so far -/
theorem fill_more (a b : List Nat) (k : Nat) (h : a.length + b.length + k = 8) : a ++ List.replicate k 0 ++ b = fill8 a b := by
  unfold fill8
  rw [show 8 - (a.length + b.length) = k by omega]
theorem fill_none (a b : List Nat) (h : 8 ≤ a.length + b.length) : a ++ b = fill8 a b := by
  unfold fill8
  rw [show 8 - (a.length + b.length) = 0 by omega]
  simp
theorem fill8_len (a b : List Nat) : (fill8 a b).length = if a.length + b.length ≤ 8 then 8 else a.length + b.length := by
  unfold fill8
  simp only [List.length_append, List.length_replicate]
  split <;> omega
/-- the numbers of eight groups as the reference adds them -/
theorem uni_eight (a b c d e f g h : Nat) : uni (fun j => [a, b, c, d, e, f, g, h].getD j 0) 4 = ((a * 65536 + b) * 65536 + c) * 65536 + d ∧ uni (fun j => [a, b, c, d, e, f, g, h].getD (4 + j) 0) 4 = ((e * 65536 + f) * 65536 + g) * 65536 + h := by
  constructor <;> simp [uni]
theorem eight_of (g : List Nat) (h : g.length = 8) : ∃ a b c d e f i j, g = [a, b, c, d, e, f, i, j] := by
  match g, h with
  | [a, b, c, d, e, f, i, j], _ => exact ⟨a, b, c, d, e, f, i, j, rfl⟩
theorem rat4_none {s : ByteArray} (h : rat4 s = none) : grR 10 255 46 s = none ∨ ∃ l, grR 10 255 46 s = some l ∧ l.length ≠ 4 := by
  cases hg : grR 10 255 46 s with
  | none => exact Or.inl rfl
  | some l =>
    refine Or.inr ⟨l, rfl, fun h4 => ?_⟩
    match l, h4 with
    | [a, b, c, d], _ =>
      unfold rat4 at h
      rw [hg] at h
      cases h
theorem rat4_some {s : ByteArray} {L : Nat} (h : rat4 s = some L) : ∃ a b c d, grR 10 255 46 s = some [a, b, c, d] ∧ ((a * 256 + b) * 256 + c) * 256 + d = L := by
  unfold rat4 at h
  split at h
  · rename_i a b c d hg
    exact ⟨a, b, c, d, hg, Option.some.inj h⟩
  · cases h
end Go.Proofs.YtlikgfmcialepaaGreatDoor
