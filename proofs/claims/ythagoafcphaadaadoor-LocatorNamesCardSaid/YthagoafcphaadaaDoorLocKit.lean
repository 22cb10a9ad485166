/-
  WHAT THE WALKS over layer 9 lean on: the program's two tables, the library's variables; strings; lists of strings in memory.
-/
import Derived.Test.YthagoafcphaadaaDoorLocC
import Derived.Test.YthagoafcphaadaaDoorShelf
import Derived.Test.YthagoafcphaadaaDoorLawKit
import Derived.WalkSpells
import Derived.WalkLawsBesides
import Derived.WalkSmall
import Derived.Deep.QuietTactic
import Derived.BigQuiet
import Derived.Deep.RegionWith
import Derived.Deep.RegionHeld3
import Derived.Deep.DeepCutAuto
import Derived.StillTailTactics
import Derived.IntWalk
import Derived.Lib.Hide
import Derived.Lib.ItoaLen
import Derived.Laws.Rows
import Derived.Laws.Tables
import Derived.Deep.WholeRow
import Derived.Maps.AppendAt
import Derived.Laws.AppendOwnNone
namespace Go.Proofs.YthagoafcphaadaaDoor
open Go.RowKit Lo
set_option linter.unusedVariables false
def clsCells : Array Value := #[.int .u8 97, .int .u8 122, .int .u8 3, .int .u8 65, .int .u8 90, .int .u8 2, .int .u8 48, .int .u8 57, .int .u8 3, .int .u8 45, .int .u8 45, .int .u8 3, .int .u8 95, .int .u8 95, .int .u8 2, .int .u8 46, .int .u8 46, .int .u8 2]
def schCells : Array Value := #[.string ⟨#[]⟩, .int .i64 0, .string ⟨#[114, 115, 121, 110, 99]⟩, .int .i64 873, .string ⟨#[104, 116, 116, 112, 115]⟩, .int .i64 443]
/-- what the walks lean on; fl: the two sentinels too -/
structure LEnv (fl : Bool) (w : World) : Prop where
  cl : ∃ t fr, w.heap[1]? = some (.cells clsCells t fr)
  sc : ∃ t fr, w.heap[0]? = some (.cells schCells t fr)
  mx : ∃ m : Int, w.cell? ⟨2, 0, none⟩ = some (.int .i64 m)
  tab : Lib.TabIs Tryd.prog w "internal/strconv.uint64pow10" .u64 Lib.pow10Tab
  syn : fl = true → ∃ tp p, w.cell? ⟨3, 0, none⟩ = some (.iface tp p)
  rng : fl = true → ∃ tp p, w.cell? ⟨4, 0, none⟩ = some (.iface tp p)
  big : 10 ≤ w.heap.size
variable {fl : Bool}
theorem LEnv.below {w w' : World} {B : Nat} (h : LEnv fl w) (hb : Below B w w') (hB : 10 ≤ B) : LEnv fl w' := by
  refine ⟨?_, ?_, ?_, ?_, ?_, ?_, Nat.le_trans h.big hb.size⟩
  · obtain ⟨t, fr, e⟩ := h.cl
    exact ⟨t, fr, (hb.block _ (Nat.lt_of_lt_of_le (by decide) hB)).trans e⟩
  · obtain ⟨t, fr, e⟩ := h.sc
    exact ⟨t, fr, (hb.block _ (Nat.lt_of_lt_of_le (by decide) hB)).trans e⟩
  · obtain ⟨m, hm⟩ := h.mx
    exact ⟨m, by rw [hb.cell (p := ⟨2, 0, none⟩) (by show 2 < B; omega)]; exact hm⟩
  · exact var?_below hb (g := 5) (by kernel_rfl) (by omega) h.tab
  · intro hf
    obtain ⟨tp, p, hv⟩ := h.syn hf
    exact ⟨tp, p, by rw [hb.cell (p := ⟨3, 0, none⟩) (by show 3 < B; omega)]; exact hv⟩
  · intro hf
    obtain ⟨tp, p, hv⟩ := h.rng hf
    exact ⟨tp, p, by rw [hb.cell (p := ⟨4, 0, none⟩) (by show 4 < B; omega)]; exact hv⟩
theorem LEnv.on {w w' : World} (h : LEnv fl w) (hb : Below w.heap.size w w') : LEnv fl w' := h.below hb h.big
theorem cell_of_block {w : World} {g j : Nat} {cs : Array Value} {t : TypeId} {fr : Nat × Nat} {v : Value} (h : w.heap[g]? = some (.cells cs t fr)) (hj : cs[j]? = some v) : w.cell? ⟨g, j, none⟩ = some v := by
  unfold World.cell?
  simp [h, hj]
theorem cell_same {w : World} {a : Addr} {v u : Value} (h : w.cell? a = some u) : (w.setCell a v).cell? a = some v := World.cell?_setCell_same (h := h) ..
theorem cell_far {w : World} {a b : Addr} {v u : Value} (h : w.cell? b = some u) (hne : a ≠ b) : (w.setCell a v).cell? b = some u := by
  rw [World.cell?_setCell_other (h := hne)]; exact h
theorem below_drew {n : Nat} {u w : World} (h : Below n u w) (k : Nat) : Below n u (w.drewN k) := ⟨h.os, h.tape, h.output, h.size, h.block⟩
theorem below_new (W : World) (o : Obj) : Below W.heap.size W (W.alloc o) := (Below.refl _ _).alloc (Nat.le_refl _) _
theorem chain {W W1 W2 : World} (h : Below W.heap.size W W1) (h2 : Below W1.heap.size W1 W2) : Below W.heap.size W W2 := h.trans (h2.mono h.size)
theorem bcell {W w1 : World} (hb : Below W.heap.size W w1) : (∀ b o, b < W.heap.size → w1.cell? ⟨b, o, none⟩ = W.cell? ⟨b, o, none⟩) ∧ (∀ b o, b < W.heap.size → w1.frozen? ⟨b, o, none⟩ = W.frozen? ⟨b, o, none⟩) :=
  ⟨fun b o h => hb.cell (p := ⟨b, o, none⟩) h, fun b o h => hb.frozen (p := ⟨b, o, none⟩) h⟩
theorem ret_eq {a b : Value} (h : a = b) : Ending.returned a = .returned b := by rw [h]
theorem Tryd.own : ownKnob Tryd.prog.godebug = none := by kernel_rfl
theorem Tryd.laidOut : laidOutB Tryd.prog = true := by kernel_rfl
/-- strings in memory -/
def StrsAt (A : Option Addr) (L : List (List UInt8)) (w : World) : Prop := L ≠ [] → ∃ g o, A = some ⟨g, o, none⟩ ∧ g < w.heap.size ∧ ∀ (j : Nat) x, L[j]? = some x → w.cell? ⟨g, o + j, none⟩ = some (.string (str x))
theorem StrsAt.on {A : Option Addr} {L : List (List UInt8)} {w w' : World} (h : StrsAt A L w) (hb : Below w.heap.size w w') : StrsAt A L w' := fun hne => by
  obtain ⟨g, o, e, hg, hc⟩ := h hne
  exact ⟨g, o, e, Nat.lt_of_lt_of_le hg hb.size, fun j x hj => (hb.cell (p := ⟨g, o + j, none⟩) hg).trans (hc j x hj)⟩
theorem StrsAt.under {A : Option Addr} {L : List (List UInt8)} {w w' : World} {n : Nat} (h : StrsAt A L w) (hn : ∀ g o, A = some ⟨g, o, none⟩ → g < n) (hb : Below n w w') : StrsAt A L w' := fun hne => by
  obtain ⟨g, o, e, hg, hc⟩ := h hne
  exact ⟨g, o, e, Nat.lt_of_lt_of_le hg hb.size, fun j x hj => (hb.cell (p := ⟨g, o + j, none⟩) (hn g o e)).trans (hc j x hj)⟩
theorem data_len (s : ByteArray) : s.data.toList.length = s.size := by simp
end Go.Proofs.YthagoafcphaadaaDoor
