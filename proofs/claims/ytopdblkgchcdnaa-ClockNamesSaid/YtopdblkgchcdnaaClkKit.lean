/-
  Windows and clocks in blocks, and those that came in as arguments.
-/
import Derived.Test.YtopdblkgchcdnaaLawKit
import Derived.Test.YtopdblkgchcdnaaClkMath
import Derived.WalkSpells
import Derived.WalkLawsBesides
import Derived.Deep.QuietTactic
import Derived.BigQuiet
import Derived.Deep.RegionWith
import Derived.Deep.RegionHeld3
import Derived.Deep.DeepCutAuto
import Derived.StillTailTactics
import Derived.Lib.MinMax
namespace Go.Proofs.Ytopdblkgchcdnaa
open Go.ChangeShapes Go.WideShapes Go.ChangeAt Go.RowKit Go.Joins
set_option linter.unusedVariables false
theorem bcell {W w1 : World} (hb : Below W.heap.size W w1) : (∀ b o, b < W.heap.size → w1.cell? ⟨b, o, none⟩ = W.cell? ⟨b, o, none⟩) ∧ (∀ b o, b < W.heap.size → w1.frozen? ⟨b, o, none⟩ = W.frozen? ⟨b, o, none⟩) :=
  ⟨fun b o h => hb.cell (p := ⟨b, o, none⟩) h, fun b o h => hb.frozen (p := ⟨b, o, none⟩) h⟩
theorem bcellD {W w1 : World} (hb : Below W.drew.heap.size W.drew w1) : (∀ b o, b < W.heap.size → w1.cell? ⟨b, o, none⟩ = W.cell? ⟨b, o, none⟩) ∧ (∀ b o, b < W.heap.size → w1.frozen? ⟨b, o, none⟩ = W.frozen? ⟨b, o, none⟩) :=
  ⟨fun b o h => hb.cell (p := ⟨b, o, none⟩) h, fun b o h => hb.frozen (p := ⟨b, o, none⟩) h⟩
theorem ret_eq {a b : Value} (h : a = b) : Ending.returned a = .returned b := by rw [h]
theorem below_new (W : World) (o : Obj) : Below W.heap.size W (W.alloc o) := (Below.refl _ _).alloc (Nat.le_refl _) _
theorem chain {W W1 W2 : World} (h : Below W.heap.size W W1) (h2 : Below W1.heap.size W1 W2) : Below W.heap.size W W2 := h.trans (h2.mono h.size)
/-- two numbers in a block -/
structure Two (N : Nat) (W : World) (a b : Int) : Prop where
  a0 : W.cell? ⟨N, 0, none⟩ = some (.int .i64 a)
  a1 : W.cell? ⟨N, 1, none⟩ = some (.int .i64 b)
  f0 : W.frozen? ⟨N, 0, none⟩ = false
  f1 : W.frozen? ⟨N, 1, none⟩ = false
theorem Two.lt {N : Nat} {W : World} {a b : Int} (t : Two N W a b) : N < W.heap.size := World.block_lt_of_cell? _ _ t.a0
theorem Two.on {N : Nat} {W W' : World} {a b : Int} (t : Two N W a b) (hb : Below W.heap.size W W') : Two N W' a b :=
  ⟨(hb.cell (p := ⟨N, 0, none⟩) t.lt).trans t.a0, (hb.cell (p := ⟨N, 1, none⟩) t.lt).trans t.a1, (hb.frozen (p := ⟨N, 0, none⟩) t.lt).trans t.f0, (hb.frozen (p := ⟨N, 1, none⟩) t.lt).trans t.f1⟩
theorem Two.new (W : World) (a b : Int) (t : TypeId) : Two W.heap.size (W.alloc (.cells #[.int .i64 a, .int .i64 b] t)) a b := ⟨by simp, by simp, by simp, by simp⟩
theorem cset_same {w : World} {a : Addr} {v u : Value} (h : w.cell? a = some u) : (w.setCell a v).cell? a = some v := World.cell?_setCell_same (h := h) ..
theorem cset_far {w : World} {a b : Addr} {v u : Value} (h : w.cell? b = some u) (hne : a ≠ b) : (w.setCell a v).cell? b = some u := by
  rw [World.cell?_setCell_other (h := hne)]; exact h
theorem two_set {B : Nat} {w : World} {x y x' y' : Int} (h : Two B w x y) : Two B ((w.setCell ⟨B, 0, none⟩ (.int .i64 x')).setCell ⟨B, 1, none⟩ (.int .i64 y')) x' y' := by
  obtain ⟨a0, a1, f0, f1⟩ := h
  refine ⟨?_, ?_, by simpa using f0, by simpa using f1⟩
  · exact cset_far (cset_same a0) (by simp)
  · exact cset_same (cset_far a1 (by simp))
theorem two_off {B D : Nat} {w : World} {a b : Int} {v0 v1 : Value} (hn : B ≠ D) (h : Two B w a b) : Two B ((w.setCell ⟨D, 0, none⟩ v0).setCell ⟨D, 1, none⟩ v1) a b := by
  obtain ⟨a0, a1, f0, f1⟩ := h
  have e : ∀ (i j : Nat), (⟨D, i, none⟩ : Addr) ≠ ⟨B, j, none⟩ := fun i j h => hn (by simp only [Addr.mk.injEq] at h; exact h.1.symm)
  exact ⟨cset_far (cset_far a0 (e _ _)) (e _ _), cset_far (cset_far a1 (e _ _)) (e _ _), by simpa using f0, by simpa using f1⟩
theorem two_below {n b : Nat} {u w : World} {v0 v1 : Value} (h : Below n u w) (hb : n ≤ b) : Below n u ((w.setCell ⟨b, 0, none⟩ v0).setCell ⟨b, 1, none⟩ v1) := (h.setCell hb _).setCell hb _
/-- a number of 64 bits with a sign -/
def I64 (x : Int) : Prop := -9223372036854775808 ≤ x ∧ x ≤ 9223372036854775807
theorem Try.own : ownKnob Try.prog.godebug = none := by kernel_rfl
theorem Try.laidOut : laidOutB Try.prog = true := by kernel_rfl
theorem Try.cellsWindow : Try.prog.cellsOf 25 = 2 := by kernel_rfl
theorem Try.cellsClock : Try.prog.cellsOf 30 = 2 := by kernel_rfl
section
variable {H : Type} {enc : TypeId × Value → H} {w : World} {base : Nat} {spare : Nat → Bool} {held : Bool}
theorem wf_i64 {x : Int} (h : (Lit.int .i64 x).wf = true) : I64 x := ⟨(bounds_i64 h).1, by have := (bounds_i64 h).2; omega⟩
set_option maxRecDepth 100000 in
theorem open_window {r : Reach} {b0 : Nat} {v : Value} {d : DataW H} {p : List MemPlace} (hv : Value.okWide Try.prog w r b0 25 v) (h : DataW.Trod enc Try.prog w base spare held 25 v d p) :
    ∃ x y : Int, v = .agg #[.int .i64 x, .int .i64 y] ∧ I64 x ∧ I64 y := by
  obtain ⟨c0, c1, y0, y1, m, rfl, rfl, rfl, hy0, hy1⟩ := open_agg2 Try.underlying25 (by kernel_rfl) Try.cellsWindow hv h
  obtain ⟨x, e0, rfl, wx⟩ := DataW.trod_int Try.underlying2 hy0
  obtain ⟨y, e1, rfl, wy⟩ := DataW.trod_int Try.underlying2 hy1
  simp at e0 e1
  subst e0 e1
  exact ⟨x, y, rfl, wf_i64 wx, wf_i64 wy⟩
set_option maxRecDepth 100000 in
theorem open_clock {r : Reach} {b0 : Nat} {v : Value} {d : DataW H} {p : List MemPlace} (hv : Value.okWide Try.prog w r b0 30 v) (h : DataW.Trod enc Try.prog w base spare held 30 v d p) :
    ∃ x y : Int, v = .agg #[.int .i64 x, .int .i64 y] ∧ I64 x ∧ I64 y := by
  obtain ⟨c0, c1, y0, y1, m, rfl, rfl, rfl, hy0, hy1⟩ := open_agg2 Try.underlying30 (by kernel_rfl) Try.cellsClock hv h
  obtain ⟨x, e0, rfl, wx⟩ := DataW.trod_int Try.underlying2 hy0
  obtain ⟨y, e1, rfl, wy⟩ := DataW.trod_int Try.underlying2 hy1
  simp at e0 e1
  subst e0 e1
  exact ⟨x, y, rfl, wf_i64 wx, wf_i64 wy⟩
end
end Go.Proofs.Ytopdblkgchcdnaa
