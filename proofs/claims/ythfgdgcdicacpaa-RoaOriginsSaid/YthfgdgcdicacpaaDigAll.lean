import Derived.Test.YthfgdgcdicacpaaDigKit
import Derived.RangeFuncNested
import Derived.RangeFuncBound
import Derived.RangeFuncCalls
import Derived.RangeFuncLeaves
import Derived.Shelf.Abstract
import Derived.OwnWalkIn
import Derived.TacticsInMore
import Derived.LoopNIn
import Derived.LoopIn
import Derived.Laws.CopyOwn
import Derived.OneCell
import Derived.RangeFuncBox
import Derived.Maps.AppendAt
import Derived.Lib.LaidU8
import Derived.Stop.LaidErr
import Derived.Deep.DeepLaidRun
import Derived.HandedShaped
import Derived.Shelf.Vars
import Derived.ChangeSlices
import Derived.ReadAgain
import Derived.Lib.SlBytesConst
namespace Go.Proofs.Ythfgdgcdicacpaa
open Go.RowKit Sha
set_option linter.unusedVariables false
set_option linter.unusedSimpArgs false
end Go.Proofs.Ythfgdgcdicacpaa
namespace Go.Proofs.Ythfgdgcdicacpaa
open Go.RowKit Sha
set_option linter.unusedVariables false
set_option linter.unusedSimpArgs false
end Go.Proofs.Ythfgdgcdicacpaa
namespace Go.Proofs.Ythfgdgcdicacpaa
open Go.RowKit Sha
set_option linter.unusedVariables false
set_option linter.unusedSimpArgs false
end Go.Proofs.Ythfgdgcdicacpaa
namespace Go.Proofs.Ythfgdgcdicacpaa
open Go.RowKit Sha
set_option linter.unusedVariables false
set_option linter.unusedSimpArgs false
end Go.Proofs.Ythfgdgcdicacpaa
namespace Go.Proofs.Ythfgdgcdicacpaa
open Go.RowKit Sha
set_option linter.unusedVariables false
set_option linter.unusedSimpArgs false
def bvals (l : List UInt8) : List Value := l.map fun x => .int .u8 (x.toNat : Int)
theorem bvals_len (l : List UInt8) : (bvals l).length = l.length := by simp [bvals]
theorem bvals_app (a b : List UInt8) : bvals (a ++ b) = bvals a ++ bvals b := by simp [bvals]
end Go.Proofs.Ythfgdgcdicacpaa
namespace Go.Proofs.Ythfgdgcdicacpaa
open Go.RowKit Sha
set_option linter.unusedVariables false
set_option linter.unusedSimpArgs false
attribute [local go_sem] Oper.semAt_some
def SrcAt (A : Option Addr) (lst : List UInt8) (V : World) : Prop := lst ≠ [] → ∃ g o, A = some ⟨g, o, none⟩ ∧ ∀ j x, lst[j]? = some x → V.cell? ⟨g, o + j, none⟩ = some (.int .u8 (x.toNat : Int))
theorem add_eq (g o j : Nat) : (⟨g, o, none⟩ : Addr).add j = ⟨g, o + j, none⟩ := by unfold Addr.add; split <;> simp_all
end Go.Proofs.Ythfgdgcdicacpaa
namespace Go.Proofs.Ythfgdgcdicacpaa
open Go.RowKit Sha
set_option linter.unusedVariables false
set_option linter.unusedSimpArgs false
end Go.Proofs.Ythfgdgcdicacpaa
namespace Go.Proofs.Ythfgdgcdicacpaa
open Go.RowKit Sha
set_option linter.unusedVariables false
set_option linter.unusedSimpArgs false
attribute [local go_sem] Oper.semAt_some
theorem SrcAt.on {A : Option Addr} {l : List UInt8} {w V : World} (h : SrcAt A l w) (hb : Below w.heap.size w V) : SrcAt A l V := fun hne => by
 obtain ⟨g, o, e, hc⟩ := h hne
 refine ⟨g, o, e, fun j x hj => ?_⟩
 have h1 := hc j x hj
 rw [hb.cell (p := ⟨g, o + j, none⟩) (World.block_lt_of_cell? _ _ h1)]
 exact h1
end Go.Proofs.Ythfgdgcdicacpaa
namespace Go.Proofs.Ythfgdgcdicacpaa
open Go.RowKit Sha
set_option linter.unusedVariables false
set_option linter.unusedSimpArgs false
end Go.Proofs.Ythfgdgcdicacpaa
namespace Go.Proofs.Ythfgdgcdicacpaa
open Go.RowKit Sha
set_option linter.unusedVariables false
set_option linter.unusedSimpArgs false
def dgs (W : Nat) : Nat → Nat → Nat → List Nat
 | 0, _, _ => []
 | f + 1, H, K => if W ≤ K then (H / 2 ^ (K - W)) % 2 ^ W :: dgs W f H (K - W) else []
def dgB (W : Nat) : Nat → Nat → List UInt8 → List Nat
 | P, K, [] => if 0 < K then [(P * 2 ^ (W - K)) % 2 ^ W] else []
 | P, K, c :: r => dgs W 4 (P * 256 + c.toNat) (K + 8) ++ dgB W ((P * 256 + c.toNat) % 2 ^ ((K + 8) % W)) ((K + 8) % W) r
def ch (al : ByteArray) (d : Nat) : UInt8 := al.data.toList.getD d 0
end Go.Proofs.Ythfgdgcdicacpaa
namespace Go.Proofs.Ythfgdgcdicacpaa
open Go.RowKit Sha
set_option linter.unusedVariables false
set_option linter.unusedSimpArgs false
def hexL : ByteArray := ⟨#[48, 49, 50, 51, 52, 53, 54, 55, 56, 57, 97, 98, 99, 100, 101, 102]⟩
def hexS (b : List UInt8) : List UInt8 := (dgB 4 0 0 b).map (ch hexL)
def bs (l : List UInt8) : ByteArray := ⟨l.toArray⟩
end Go.Proofs.Ythfgdgcdicacpaa
namespace Go.Proofs.Ythfgdgcdicacpaa
open Go.ChangeShapes Go.WideShapes Go.ChangeAt Go.RowKit Go.Joins
set_option linter.unusedVariables false
set_option maxRecDepth 100000
theorem Try.cellsByte : Try.prog.cellsOf 5 = 1 := by kernel_rfl
section
variable {H : Type} {enc : TypeId × Value → H} {w : World}
end
end Go.Proofs.Ythfgdgcdicacpaa
namespace Go.Proofs.Ythfgdgcdicacpaa
open Go.RowKit Sha
set_option linter.unusedVariables false
set_option linter.unusedSimpArgs false
theorem srcAt_row {w : World} {g : Nat} {l : List UInt8} {t : TypeId} {fr : Nat × Nat} (h : w.heap[g]? = some (.cells (bcells l) t fr)) : SrcAt (some ⟨g, 0, none⟩) l w := fun _ =>
 ⟨g, 0, rfl, fun j x hj => by
  obtain ⟨hlt, e⟩ := List.getElem?_eq_some_iff.1 hj
  rw [Nat.zero_add, cell_of_row w g j _ _ _ h, bcells_at _ _ hlt, List.getD_eq_getElem?_getD, hj]
  rfl⟩
def x0 : ByteArray := bs (hexS (sha []))
def x3 : ByteArray := bs (hexS (sha [97, 98, 99]))
end Go.Proofs.Ythfgdgcdicacpaa
