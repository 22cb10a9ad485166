/-
  What the walks over layer 5 lean on.
-/
import Derived.Test.YthfgdgcdicacpaaLawKit
import Derived.Test.YthfgdgcdicacpaaDigMath
import Derived.WalkSpells
import Derived.WalkLawsBesides
import Derived.Deep.QuietTactic
import Derived.BigQuiet
import Derived.Deep.RegionWith
import Derived.Deep.RegionHeld3
import Derived.Deep.DeepCutAuto
import Derived.StillTailTactics
import Derived.IntWalk
import Derived.Lib.Hide
import Derived.Laws.Rows
import Derived.Laws.Tables
import Derived.Deep.WholeRow
namespace Go.Proofs.Ythfgdgcdicacpaa
open Go.ChangeShapes Go.WideShapes Go.ChangeAt Go.RowKit Go.Joins
set_option linter.unusedVariables false
theorem bcell {W w1 : World} (hb : Below W.heap.size W w1) : (∀ b o, b < W.heap.size → w1.cell? ⟨b, o, none⟩ = W.cell? ⟨b, o, none⟩) ∧ (∀ b o, b < W.heap.size → w1.frozen? ⟨b, o, none⟩ = W.frozen? ⟨b, o, none⟩) :=
  ⟨fun b o h => hb.cell (p := ⟨b, o, none⟩) h, fun b o h => hb.frozen (p := ⟨b, o, none⟩) h⟩
theorem ret_eq {a b : Value} (h : a = b) : Ending.returned a = .returned b := by rw [h]
theorem below_new (W : World) (o : Obj) : Below W.heap.size W (W.alloc o) := (Below.refl _ _).alloc (Nat.le_refl _) _
theorem chain {W W1 W2 : World} (h : Below W.heap.size W W1) (h2 : Below W1.heap.size W1 W2) : Below W.heap.size W W2 := h.trans (h2.mono h.size)
theorem cset_same {w : World} {a : Addr} {v x : Value} (h : w.cell? a = some x) : (w.setCell a v).cell? a = some v := World.cell?_setCell_same (h := h) ..
theorem cset_far {w : World} {a b : Addr} {v x : Value} (h : w.cell? b = some x) (hne : a ≠ b) : (w.setCell a v).cell? b = some x := by
  rw [World.cell?_setCell_other (h := hne)]; exact h
theorem Try.own : ownKnob Try.prog.godebug = none := by kernel_rfl
theorem Try.laidOut : laidOutB Try.prog = true := by kernel_rfl
theorem Try.info_byte : (Try.prog.info? 5).map (fun i => (i.zero, i.size, i.bytes)) = some (some (.int .u8 0), 1, 1) := by kernel_rfl
/-- words as cells -/
def wcells (l : List UInt32) : Array Value := (l.map fun x => Value.int .u32 (Sha.u x)).toArray
/-- bytes as cells -/
def bcells (l : List UInt8) : Array Value := (l.map fun x => Value.int .u8 (x.toNat : Int)).toArray
theorem wcells_size (l : List UInt32) : (wcells l).size = l.length := by simp [wcells]
theorem bcells_size (l : List UInt8) : (bcells l).size = l.length := by simp [bcells]
theorem wcells_at (l : List UInt32) (j : Nat) (h : j < l.length) : (wcells l)[j]? = some (.int .u32 (Sha.u (l.getD j 0))) := by
  unfold wcells
  simp [List.getD_eq_getElem?_getD, List.getElem?_eq_getElem h]
theorem bcells_at (l : List UInt8) (j : Nat) (h : j < l.length) : (bcells l)[j]? = some (.int .u8 ((l.getD j 0).toNat : Int)) := by
  unfold bcells
  simp [List.getD_eq_getElem?_getD, List.getElem?_eq_getElem h]
theorem wcells_set (l : List UInt32) (j : Nat) (x : UInt32) : (wcells l).setIfInBounds j (.int .u32 (Sha.u x)) = wcells (l.set j x) := by
  unfold wcells
  simp [List.map_set]
theorem bcells_set (l : List UInt8) (j : Nat) (x : UInt8) : (bcells l).setIfInBounds j (.int .u8 (x.toNat : Int)) = bcells (l.set j x) := by
  unfold bcells
  simp [List.map_set]
theorem wcells_one (l : List UInt32) : (wcells l).all (·.oneCell') = true := by
  unfold wcells
  simp [Value.oneCell']
theorem bcells_one (l : List UInt8) : (bcells l).all (·.oneCell') = true := by
  unfold bcells
  simp [Value.oneCell']
/-- block B alone is written; it holds these cells -/
structure OnlyB (B : Nat) (T : TypeId) (V wr : World) (cs : Array Value) : Prop where
  os : wr.os = V.os
  tape : wr.tape = V.tape
  output : wr.output = V.output
  size : wr.heap.size = V.heap.size
  oth : ∀ b, b ≠ B → wr.heap[b]? = V.heap[b]?
  own : wr.heap[B]? = some (.cells cs T (0, 0))
theorem OnlyB.here {B : Nat} {T : TypeId} {V : World} {cs : Array Value} (h : V.heap[B]? = some (.cells cs T (0, 0))) : OnlyB B T V V cs := ⟨rfl, rfl, rfl, rfl, fun _ _ => rfl, h⟩
theorem OnlyB.set {B : Nat} {T : TypeId} {V wr : World} {cs : Array Value} (h : OnlyB B T V wr cs) (i : Nat) (v : Value) : OnlyB B T V (wr.setCell ⟨B, i, none⟩ v) (cs.setIfInBounds i v) :=
  ⟨h.os, h.tape, h.output, by rw [← h.size]; simp [World.setCell], fun b hb => (Below.heap_setCell _ _ _ _ hb).trans (h.oth b hb), heap_setCell_same _ _ _ _ _ _ h.own⟩
theorem OnlyB.put {B : Nat} {T : TypeId} {V wr : World} {cs : Array Value} (h : OnlyB B T V wr cs) (cs' : Array Value) : OnlyB B T V (wr.setRow B cs') cs' :=
  ⟨h.os, h.tape, h.output, by rw [← h.size]; simp, fun b hb => (setRow_other _ _ _ _ hb).trans (h.oth b hb), setRow_heap _ _ _ _ _ _ h.own⟩
theorem drewN_heap (w : World) (n : Nat) : (w.drewN n).heap = w.heap := rfl
theorem OnlyB.drewN {B : Nat} {T : TypeId} {V wr : World} {cs : Array Value} (h : OnlyB B T V wr cs) (n : Nat) : OnlyB B T V (wr.drewN n) cs := ⟨h.os, h.tape, h.output, h.size, h.oth, h.own⟩
theorem OnlyB.drew {B : Nat} {T : TypeId} {V wr : World} {cs : Array Value} (h : OnlyB B T V wr cs) : OnlyB B T V wr.drew cs := ⟨h.os, h.tape, h.output, h.size, h.oth, h.own⟩
theorem OnlyB.below {B n : Nat} {T : TypeId} {V wr : World} {cs : Array Value} (h : OnlyB B T V wr cs) (hn : n ≤ B) : Below n V wr :=
  ⟨h.os, h.tape, h.output, Nat.le_of_eq h.size.symm, fun k hk => h.oth k (by omega)⟩
theorem OnlyB.cell {B : Nat} {T : TypeId} {V wr : World} {cs : Array Value} (h : OnlyB B T V wr cs) (i : Nat) : wr.cell? ⟨B, i, none⟩ = cs[i]? := cell_of_row _ _ _ _ _ _ h.own
theorem OnlyB.free {B : Nat} {T : TypeId} {V wr : World} {cs : Array Value} (h : OnlyB B T V wr cs) (i : Nat) : wr.frozen? ⟨B, i, none⟩ = false := frozen_of_row _ _ _ _ _ h.own
theorem OnlyB.lt {B : Nat} {T : TypeId} {V wr : World} {cs : Array Value} (h : OnlyB B T V wr cs) : B < wr.heap.size := (Array.getElem?_eq_some_iff.1 h.own).1
theorem heap3_last (w : World) (o1 o2 o3 : Obj) : (((w.alloc o1).alloc o2).alloc o3).heap[w.heap.size + 1 + 1]? = some o3 := by
  have := heap_alloc_new ((w.alloc o1).alloc o2) o3
  simpa using this
theorem heap3_mid (w : World) (o1 o2 o3 : Obj) : (((w.alloc o1).alloc o2).alloc o3).heap[w.heap.size + 1]? = some o2 := by
  rw [Below.heap_alloc _ _ _ (by simp)]
  have := heap_alloc_new (w.alloc o1) o2
  simpa using this
theorem heap3_first (w : World) (o1 o2 o3 : Obj) : (((w.alloc o1).alloc o2).alloc o3).heap[w.heap.size]? = some o1 := by
  rw [Below.heap_alloc _ _ _ (by simp; omega), Below.heap_alloc _ _ _ (by simp)]
  exact heap_alloc_new w o1
theorem below3 (w : World) (o1 o2 o3 : Obj) : Below w.heap.size w (((w.alloc o1).alloc o2).alloc o3) :=
  (((Below.refl _ _).alloc (Nat.le_refl _) _).alloc (by simp) _).alloc (by simp; omega) _
theorem below_row {B g : Nat} {w0 w : World} (hb : Below B w0 w) (hBg : B ≤ g) (cs : Array Value) : Below B w0 (w.setRow g cs) :=
  hb.trans ⟨rfl, rfl, rfl, by simp, fun k hk => setRow_other _ _ _ _ (by omega)⟩
theorem below_drewN {n : Nat} {u w : World} (h : Below n u w) (k : Nat) : Below n u (w.drewN k) := ⟨h.os, h.tape, h.output, h.size, h.block⟩
section
variable {P : Program}
/-- an array's element, by value -/
theorem run_index_row {T E : TypeId} {n : Nat} {cs : Array Value} {v : Value} (hT : P.underlying T = some (.array n E)) (hE : ∀ w, (isAgg E).run P w = .ok false w) (hz : ∀ w, (sizeOf E).run P w = .ok 1 w)
    (k : Nat) (h : k < n) (hv : cs[k]? = some v) (w : World) : (Instr.index T (.agg cs) (.int .i64 (k : Int))).run P w = .ok v w := by
  have h0 : (0 : Int) ≤ (k : Int) ∧ (k : Int) < (n : Int) := by omega
  simp [Instr.index, asIntOf, run_underlying hT, h, hz, part, hE, hv]
end
end Go.Proofs.Ythfgdgcdicacpaa
