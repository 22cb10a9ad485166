/-
  THE WALK over the blocks of all parts: the iterator.
-/
import Derived.Test.YthfgdgcdicacpaaDigF
namespace Go.Proofs.Ythfgdgcdicacpaa
open Go.RowKit Sha
set_option linter.unusedVariables false
set_option linter.unusedSimpArgs false
/-- a list of slices of bytes behind a box -/
structure PIn (Pb : Nat) (PA : Option Addr) (pc : Nat) (S : Nat → Option Addr × Nat) (ps : List (List UInt8)) (V : World) : Prop where
  box : V.cell? ⟨Pb, 0, none⟩ = some (.slice PA ps.length pc)
  row : ∀ j l, ps[j]? = some l → ∃ pg po, PA = some ⟨pg, po, none⟩ ∧ V.cell? ⟨pg, po + j, none⟩ = some (.slice (S j).1 l.length (S j).2) ∧ SrcAt (S j).1 l V
theorem flat_take (ps : List (List UInt8)) (k : Nat) (l : List UInt8) (h : ps[k]? = some l) : (ps.take (k + 1)).flatten = (ps.take k).flatten ++ l := by
  rw [List.take_add_one, h]
  simp
theorem flat_part (ps : List (List UInt8)) (e : List UInt8) (k : Nat) (l : List UInt8) (h : ps[k]? = some l) :
    l = ((ps.flatten ++ e).drop (ps.take k).flatten.length).take l.length ∧ (ps.take k).flatten.length + l.length ≤ ps.flatten.length := by
  have h1 : ps = ps.take (k + 1) ++ ps.drop (k + 1) := (List.take_append_drop _ _).symm
  have h2 : ps.flatten = (ps.take k).flatten ++ (l ++ (ps.drop (k + 1)).flatten) := by
    conv => lhs; rw [h1]
    rw [List.flatten_append, flat_take ps k l h, List.append_assoc]
  constructor
  · rw [h2, List.append_assoc, List.drop_left, List.append_assoc, List.take_left]
  · rw [h2]; simp
theorem own_slice {w : World} {base : Nat} {v : Value} {F : List UInt8} (h : w.ownsRow base 5 1 v F.length (bvals F)) (hn : 0 < F.length) :
    ∃ g cap, v = .slice (some ⟨g, 0, none⟩) F.length cap ∧ base ≤ g ∧ g < w.heap.size ∧ F.length ≤ cap ∧ cap ≤ maxLen ∧ ∀ (j : Nat) x, F[j]? = some x → w.cell? ⟨g, j, none⟩ = some (.int .u8 (x.toNat : Int)) := by
  obtain ⟨g, cap, h1, h2, h3, h4, h5, h6⟩ := own_cells1 h hn
  refine ⟨g, cap, h1, h2, h3, h4, h5, fun j x hj => h6 j _ ?_⟩
  unfold bvals
  rw [List.getElem?_map, hj]
  rfl
theorem cell_of_heap2 {V V' : World} {b o : Nat} (h : V'.heap[b]? = V.heap[b]?) : V'.cell? ⟨b, o, none⟩ = V.cell? ⟨b, o, none⟩ := by
  simp only [World.cell?, h]
theorem ending_len (n : Nat) : 0 < (ending n).length ∧ (ending n).length ≤ 72 ∧ (n + (ending n).length) % 64 = 0 := by
  rw [← endK_all, endK_len n 8 (by omega)]
  omega
end Go.Proofs.Ythfgdgcdicacpaa
