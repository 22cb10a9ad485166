/-
  Spans that came in as arguments.
-/
import Derived.Test.YtjngfieggacpiaaGreatDoorNumOpen
namespace Go.Proofs.YtjngfieggacpiaaGreatDoor
open Go.ChangeShapes Go.WideShapes Go.ChangeAt Go.RowKit Go.Joins Adr
theorem Tryz.cellsSpan : Tryz.prog.cellsOf 50 = 4 := by kernel_rfl
section
variable {H : Type} {enc : TypeId × Value → H} {w : World} {base : Nat} {spare : Nat → Bool} {held : Bool}
set_option maxRecDepth 100000 in
theorem open_span {r : Reach} {b0 : Nat} {v : Value} {d : DataW H} {p : List MemPlace} (hv : Value.okWide Tryz.prog w r b0 50 v) (h : DataW.Trod enc Tryz.prog w base spare held 50 v d p) :
    ∃ a b c k : Int, v = .agg #[.int .u64 a, .int .u64 b, .int .u64 c, .int .u64 k] ∧ U64 a ∧ U64 b ∧ U64 c ∧ U64 k := by
  obtain ⟨cs, rfl, hsz⟩ := okWide_struct Tryz.underlying50 hv
  obtain ⟨l⟩ := cs
  match l, hsz.trans Tryz.cellsSpan with
  | [c0, c1, c2, c3], _ =>
    obtain ⟨fuel, hf⟩ := h
    obtain ⟨xs, n, _, hx, _, hlen, hg⟩ := DataW.trod_struct Tryz.underlying50 hf
    match xs, hlen with
    | [y0, y1], _ =>
      have g0 := hg 0 _ rfl
      have g1 := hg 1 _ rfl
      simp [Value.cells, Tryz.cellsAddr] at g0 g1
      obtain ⟨ys, n', _, hx', _, hlen', hg'⟩ := DataW.trod_struct Tryz.underlying24 g0
      obtain ⟨zs, n2, _, hx2, _, hlen2, hg2⟩ := DataW.trod_struct Tryz.underlying24 g1
      match ys, hlen', zs, hlen2 with
      | [z0, z1], _, [z2, z3], _ =>
        have k0 := hg' 0 _ rfl
        have k1 := hg' 1 _ rfl
        have k2 := hg2 0 _ rfl
        have k3 := hg2 1 _ rfl
        simp [show Tryz.prog.cellsOf 22 = 1 by kernel_rfl] at k0 k1 k2 k3
        obtain ⟨x0, e0, _, w0⟩ := DataW.trod_int Tryz.underlying22 k0
        obtain ⟨x1, e1, _, w1⟩ := DataW.trod_int Tryz.underlying22 k1
        obtain ⟨x2, e2, _, w2⟩ := DataW.trod_int Tryz.underlying22 k2
        obtain ⟨x3, e3, _, w3⟩ := DataW.trod_int Tryz.underlying22 k3
        simp at e0 e1 e2 e3
        subst e0 e1 e2 e3
        exact ⟨x0, x1, x2, x3, rfl, wf_u64 w0, wf_u64 w1, wf_u64 w2, wf_u64 w3⟩
end
end Go.Proofs.YtjngfieggacpiaaGreatDoor
