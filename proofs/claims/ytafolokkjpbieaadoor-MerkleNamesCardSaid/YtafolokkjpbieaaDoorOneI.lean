/-
  THE WALK over layer 6's alive. (The last region: written by wip/gen-onealive.py.)
-/
import Derived.Test.YtafolokkjpbieaaDoorOneH
import Derived.Test.YtafolokkjpbieaaDoorFastD
import Derived.Lib.SlBytesConst
namespace Go.Proofs.YtafolokkjpbieaaDoor
open Go.RowKit Sha Ots
set_option linter.unusedVariables false
set_option linter.unusedSimpArgs false
theorem conv_const6 (C : Array Value) (n : Nat) (V : World) : (convert 42 42 (.slice (some ⟨V.heap.size, 0, none⟩) n n)).run Tryd.prog (V.alloc (.cells C 5)) = .ok (.slice (some ⟨V.heap.size, 0, none⟩) n n) (V.alloc (.cells C 5 (C.size, C.size + 1))) :=
  Lib.run_convert_bytes_const V 42 5 C n n Tryd.underlying42 Tryd.underlying5
def abc : List UInt8 := [97, 98, 99]
theorem keepT {v z w : World} {S : Nat} {A : List Value} {a b : Addr} {x y : Value} (h : Below v.heap.size v z ∧ z.rangeAt S 0 A ∧ z.cell? a = some x ∧ z.cell? b = some y) (hb : Below z.heap.size z w) :
    Below v.heap.size v w ∧ w.rangeAt S 0 A ∧ w.cell? a = some x ∧ w.cell? b = some y := by
  obtain ⟨h1, h2, h3, h4⟩ := h
  refine ⟨chain h1 hb, rangeAt_on h2 hb, ?_, ?_⟩
  · rw [hb.cell (World.block_lt_of_cell? _ _ h3)]; exact h3
  · rw [hb.cell (World.block_lt_of_cell? _ _ h4)]; exact h4
theorem rangeAt_row {z : World} {X : Nat} {F : List UInt8} {T : TypeId} {fr : Nat × Nat} (h : z.heap[X]? = some (.cells (bcells F) T fr)) : z.rangeAt X 0 (bvals F) := fun j v hv => by
  rw [Nat.zero_add, cell_of_row _ _ _ _ _ _ h]
  unfold bcells
  simpa [bvals] using hv
end Go.Proofs.YtafolokkjpbieaaDoor
