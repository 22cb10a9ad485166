/-
  A drawn region that only reads and calls what makes memory: what holds of every world on the way.
-/
import Derived.Test.YtopdblkgchcdnaaClkKit
namespace Go.Proofs.Ytopdblkgchcdnaa
open Go.RowKit
theorem keepF {v z w : World} (h : Below v.heap.size v z ∧ ∀ b o, b < v.heap.size → z.cell? ⟨b, o, none⟩ = v.cell? ⟨b, o, none⟩) (hb : Below z.heap.size z w) : Below v.heap.size v w ∧ ∀ b o, b < v.heap.size → w.cell? ⟨b, o, none⟩ = v.cell? ⟨b, o, none⟩ :=
  ⟨chain h.1 hb, fun b o hh => (chain h.1 hb).cell (p := ⟨b, o, none⟩) hh⟩
theorem keep0 (v : World) : Below v.heap.size v v.drew ∧ ∀ b o, b < v.heap.size → v.drew.cell? ⟨b, o, none⟩ = v.cell? ⟨b, o, none⟩ := ⟨(Below.refl _ _).drew, fun _ _ _ => rfl⟩
end Go.Proofs.Ytopdblkgchcdnaa
