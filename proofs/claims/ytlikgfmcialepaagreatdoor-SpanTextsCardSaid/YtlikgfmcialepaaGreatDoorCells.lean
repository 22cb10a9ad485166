/-
  Addresses, prefixes, spans and walks that lie in blocks.
-/
import Derived.Test.YtlikgfmcialepaaGreatDoorNumWalkD
namespace Go.Proofs.YtlikgfmcialepaaGreatDoor
open Go.RowKit Adr
set_option linter.unusedVariables false
/-- a row of two numbers in a block -/
structure Ad2 (N : Nat) (W : World) (h l : Int) : Prop where
  a0 : W.cell? ⟨N, 0, none⟩ = some (.int .u64 h)
  a1 : W.cell? ⟨N, 1, none⟩ = some (.int .u64 l)
  f0 : W.frozen? ⟨N, 0, none⟩ = false
  f1 : W.frozen? ⟨N, 1, none⟩ = false
theorem Ad2.lt {N : Nat} {W : World} {h l : Int} (t : Ad2 N W h l) : N < W.heap.size := World.block_lt_of_cell? _ _ t.a0
theorem Ad2.on {N : Nat} {W W' : World} {h l : Int} (t : Ad2 N W h l) (hb : Below W.heap.size W W') : Ad2 N W' h l :=
  ⟨(hb.cell (p := ⟨N, 0, none⟩) t.lt).trans t.a0, (hb.cell (p := ⟨N, 1, none⟩) t.lt).trans t.a1, (hb.frozen (p := ⟨N, 0, none⟩) t.lt).trans t.f0, (hb.frozen (p := ⟨N, 1, none⟩) t.lt).trans t.f1⟩
theorem Ad2.new (W : World) (h l : Int) (t : TypeId) : Ad2 W.heap.size (W.alloc (.cells #[.int .u64 h, .int .u64 l] t)) h l := ⟨by simp, by simp, by simp, by simp⟩
/-- a prefix in a block -/
structure Pf4 (N : Nat) (W : World) (f h l n : Int) : Prop where
  a0 : W.cell? ⟨N, 0, none⟩ = some (.int .u8 f)
  a1 : W.cell? ⟨N, 1, none⟩ = some (.int .u64 h)
  a2 : W.cell? ⟨N, 2, none⟩ = some (.int .u64 l)
  a3 : W.cell? ⟨N, 3, none⟩ = some (.int .i64 n)
  f0 : W.frozen? ⟨N, 0, none⟩ = false
  f1 : W.frozen? ⟨N, 1, none⟩ = false
  f2 : W.frozen? ⟨N, 2, none⟩ = false
  f3 : W.frozen? ⟨N, 3, none⟩ = false
theorem Pf4.lt {N : Nat} {W : World} {f h l n : Int} (t : Pf4 N W f h l n) : N < W.heap.size := World.block_lt_of_cell? _ _ t.a0
theorem Pf4.on {N : Nat} {W W' : World} {f h l n : Int} (t : Pf4 N W f h l n) (hb : Below W.heap.size W W') : Pf4 N W' f h l n :=
  ⟨(hb.cell (p := ⟨N, 0, none⟩) t.lt).trans t.a0, (hb.cell (p := ⟨N, 1, none⟩) t.lt).trans t.a1, (hb.cell (p := ⟨N, 2, none⟩) t.lt).trans t.a2, (hb.cell (p := ⟨N, 3, none⟩) t.lt).trans t.a3, (hb.frozen (p := ⟨N, 0, none⟩) t.lt).trans t.f0, (hb.frozen (p := ⟨N, 1, none⟩) t.lt).trans t.f1, (hb.frozen (p := ⟨N, 2, none⟩) t.lt).trans t.f2, (hb.frozen (p := ⟨N, 3, none⟩) t.lt).trans t.f3⟩
theorem Pf4.new (W : World) (f h l n : Int) (t : TypeId) : Pf4 W.heap.size (W.alloc (.cells #[.int .u8 f, .int .u64 h, .int .u64 l, .int .i64 n] t)) f h l n := ⟨by simp, by simp, by simp, by simp, by simp, by simp, by simp, by simp⟩
theorem below_new (W : World) (o : Obj) : Below W.heap.size W (W.alloc o) := (Below.refl _ _).alloc (Nat.le_refl _) _
/-- four numbers in a block: a span -/
structure Sp4 (N : Nat) (W : World) (a b c d : Int) : Prop where
  a0 : W.cell? ⟨N, 0, none⟩ = some (.int .u64 a)
  a1 : W.cell? ⟨N, 1, none⟩ = some (.int .u64 b)
  a2 : W.cell? ⟨N, 2, none⟩ = some (.int .u64 c)
  a3 : W.cell? ⟨N, 3, none⟩ = some (.int .u64 d)
  fz : ∀ j, W.frozen? ⟨N, j, none⟩ = false
theorem Sp4.lt {N : Nat} {W : World} {a b c d : Int} (t : Sp4 N W a b c d) : N < W.heap.size := World.block_lt_of_cell? _ _ t.a0
theorem Sp4.on {N : Nat} {W W' : World} {a b c d : Int} (t : Sp4 N W a b c d) (hb : Below W.heap.size W W') : Sp4 N W' a b c d :=
  ⟨(hb.cell (p := ⟨N, 0, none⟩) t.lt).trans t.a0, (hb.cell (p := ⟨N, 1, none⟩) t.lt).trans t.a1, (hb.cell (p := ⟨N, 2, none⟩) t.lt).trans t.a2, (hb.cell (p := ⟨N, 3, none⟩) t.lt).trans t.a3, fun j => (hb.frozen (p := ⟨N, j, none⟩) t.lt).trans (t.fz j)⟩
theorem Sp4.new (W : World) (a b c d : Int) (t : TypeId) : Sp4 W.heap.size (W.alloc (.cells #[.int .u64 a, .int .u64 b, .int .u64 c, .int .u64 d] t)) a b c d := ⟨by simp, by simp, by simp, by simp, fun j => by simp⟩
/-- a walk in a block: its family and four numbers -/
structure Wk5 (N : Nat) (W : World) (f a b c d : Int) : Prop where
  a0 : W.cell? ⟨N, 0, none⟩ = some (.int .u8 f)
  a1 : W.cell? ⟨N, 1, none⟩ = some (.int .u64 a)
  a2 : W.cell? ⟨N, 2, none⟩ = some (.int .u64 b)
  a3 : W.cell? ⟨N, 3, none⟩ = some (.int .u64 c)
  a4 : W.cell? ⟨N, 4, none⟩ = some (.int .u64 d)
  fz : ∀ j, W.frozen? ⟨N, j, none⟩ = false
theorem Wk5.lt {N : Nat} {W : World} {f a b c d : Int} (t : Wk5 N W f a b c d) : N < W.heap.size := World.block_lt_of_cell? _ _ t.a0
theorem Wk5.on {N : Nat} {W W' : World} {f a b c d : Int} (t : Wk5 N W f a b c d) (hb : Below W.heap.size W W') : Wk5 N W' f a b c d :=
  ⟨(hb.cell (p := ⟨N, 0, none⟩) t.lt).trans t.a0, (hb.cell (p := ⟨N, 1, none⟩) t.lt).trans t.a1, (hb.cell (p := ⟨N, 2, none⟩) t.lt).trans t.a2, (hb.cell (p := ⟨N, 3, none⟩) t.lt).trans t.a3, (hb.cell (p := ⟨N, 4, none⟩) t.lt).trans t.a4, fun j => (hb.frozen (p := ⟨N, j, none⟩) t.lt).trans (t.fz j)⟩
theorem Wk5.new (W : World) (f a b c d : Int) (t : TypeId) : Wk5 W.heap.size (W.alloc (.cells #[.int .u8 f, .int .u64 a, .int .u64 b, .int .u64 c, .int .u64 d] t)) f a b c d := ⟨by simp, by simp, by simp, by simp, by simp, fun j => by simp⟩
theorem cset_same {w : World} {a : Addr} {v u : Value} (h : w.cell? a = some u) : (w.setCell a v).cell? a = some v := World.cell?_setCell_same (h := h) ..
theorem cset_far {w : World} {a b : Addr} {v u : Value} (h : w.cell? b = some u) (hne : a ≠ b) : (w.setCell a v).cell? b = some u := by
  rw [World.cell?_setCell_other (h := hne)]; exact h
end Go.Proofs.YtlikgfmcialepaaGreatDoor
