import Derived.Test.YtcgffkkfeimifaaGreatLawKit
import Derived.Test.YtcgffkkfeimifaaGreatDigMath
import Derived.WalkSpells
import Derived.WalkLawsBesides
import Derived.Deep.QuietTactic
import Derived.BigQuiet
import Derived.Deep.RegionWith
import Derived.Deep.RegionHeld3
import Derived.Deep.DeepCutAuto
import Derived.StillTailTactics
import Derived.IntWalk
import Derived.Lib.Hide
import Derived.Laws.Rows
import Derived.Laws.Tables
import Derived.Deep.WholeRow
namespace Go.Proofs.YtcgffkkfeimifaaGreat
open Go.ChangeShapes Go.WideShapes Go.ChangeAt Go.RowKit Go.Joins
set_option linter.unusedVariables false
theorem below_new (W : World) (o : Obj) : Below W.heap.size W (W.alloc o) := (Below.refl _ _).alloc (Nat.le_refl _) _
theorem chain {W W1 W2 : World} (h : Below W.heap.size W W1) (h2 : Below W1.heap.size W1 W2) : Below W.heap.size W W2 := h.trans (h2.mono h.size)
theorem Tryz.own : ownKnob Tryz.prog.godebug = none := by kernel_rfl
theorem Tryz.laidOut : laidOutB Tryz.prog = true := by kernel_rfl
theorem Tryz.info_byte : (Tryz.prog.info? 5).map (fun i => (i.zero, i.size, i.bytes)) = some (some (.int .u8 0), 1, 1) := by kernel_rfl
def bcells (l : List UInt8) : Array Value := (l.map fun x => Value.int .u8 (x.toNat : Int)).toArray
theorem bcells_size (l : List UInt8) : (bcells l).size = l.length := by simp [bcells]
theorem bcells_at (l : List UInt8) (j : Nat) (h : j < l.length) : (bcells l)[j]? = some (.int .u8 ((l.getD j 0).toNat : Int)) := by
 unfold bcells
 simp [List.getD_eq_getElem?_getD, List.getElem?_eq_getElem h]
theorem bcells_set (l : List UInt8) (j : Nat) (x : UInt8) : (bcells l).setIfInBounds j (.int .u8 (x.toNat : Int)) = bcells (l.set j x) := by
 unfold bcells
 simp [List.map_set]
structure OnlyB (B : Nat) (T : TypeId) (V wr : World) (cs : Array Value) : Prop where
 os : wr.os = V.os
 tape : wr.tape = V.tape
 output : wr.output = V.output
 size : wr.heap.size = V.heap.size
 oth : ∀ b, b ≠ B → wr.heap[b]? = V.heap[b]?
 own : wr.heap[B]? = some (.cells cs T (0, 0))
theorem OnlyB.set {B : Nat} {T : TypeId} {V wr : World} {cs : Array Value} (h : OnlyB B T V wr cs) (i : Nat) (v : Value) : OnlyB B T V (wr.setCell ⟨B, i, none⟩ v) (cs.setIfInBounds i v) :=
 ⟨h.os, h.tape, h.output, by rw [← h.size]; simp [World.setCell], fun b hb => (Below.heap_setCell _ _ _ _ hb).trans (h.oth b hb), heap_setCell_same _ _ _ _ _ _ h.own⟩
theorem OnlyB.put {B : Nat} {T : TypeId} {V wr : World} {cs : Array Value} (h : OnlyB B T V wr cs) (cs' : Array Value) : OnlyB B T V (wr.setRow B cs') cs' :=
 ⟨h.os, h.tape, h.output, by rw [← h.size]; simp, fun b hb => (setRow_other _ _ _ _ hb).trans (h.oth b hb), setRow_heap _ _ _ _ _ _ h.own⟩
theorem OnlyB.drewN {B : Nat} {T : TypeId} {V wr : World} {cs : Array Value} (h : OnlyB B T V wr cs) (n : Nat) : OnlyB B T V (wr.drewN n) cs := ⟨h.os, h.tape, h.output, h.size, h.oth, h.own⟩
theorem OnlyB.drew {B : Nat} {T : TypeId} {V wr : World} {cs : Array Value} (h : OnlyB B T V wr cs) : OnlyB B T V wr.drew cs := ⟨h.os, h.tape, h.output, h.size, h.oth, h.own⟩
theorem OnlyB.below {B n : Nat} {T : TypeId} {V wr : World} {cs : Array Value} (h : OnlyB B T V wr cs) (hn : n ≤ B) : Below n V wr :=
 ⟨h.os, h.tape, h.output, Nat.le_of_eq h.size.symm, fun k hk => h.oth k (by omega)⟩
theorem OnlyB.cell {B : Nat} {T : TypeId} {V wr : World} {cs : Array Value} (h : OnlyB B T V wr cs) (i : Nat) : wr.cell? ⟨B, i, none⟩ = cs[i]? := cell_of_row _ _ _ _ _ _ h.own
theorem OnlyB.lt {B : Nat} {T : TypeId} {V wr : World} {cs : Array Value} (h : OnlyB B T V wr cs) : B < wr.heap.size := (Array.getElem?_eq_some_iff.1 h.own).1
theorem below_drewN {n : Nat} {u w : World} (h : Below n u w) (k : Nat) : Below n u (w.drewN k) := ⟨h.os, h.tape, h.output, h.size, h.block⟩
section
variable {P : Program}
end
end Go.Proofs.YtcgffkkfeimifaaGreat
