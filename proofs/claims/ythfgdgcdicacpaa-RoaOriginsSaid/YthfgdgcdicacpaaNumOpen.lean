import Derived.Test.YthfgdgcdicacpaaLawKit
import Derived.Test.YthfgdgcdicacpaaNumMath
namespace Go.Proofs.Ythfgdgcdicacpaa
open Go.ChangeShapes Go.WideShapes Go.ChangeAt Go.RowKit Go.Joins Adr
theorem Try.own : ownKnob Try.prog.godebug = none := by kernel_rfl
theorem Try.laidOut : laidOutB Try.prog = true := by kernel_rfl
theorem Try.cellsAddr : Try.prog.cellsOf 42 = 2 := by kernel_rfl
theorem Try.cellsPrefix : Try.prog.cellsOf 44 = 4 := by kernel_rfl
theorem Try.cellsByte : Try.prog.cellsOf 5 = 1 := by kernel_rfl
theorem Try.cellsInt : Try.prog.cellsOf 3 = 1 := by kernel_rfl
section
variable {H : Type} {enc : TypeId × Value → H} {w : World} {base : Nat} {spare : Nat → Bool} {held : Bool}
theorem wf_u64 {x : Int} (h : (Lit.int .u64 x).wf = true) : U64 x := ⟨(bounds_u64 h).1, by have := (bounds_u64 h).2; omega⟩
set_option maxRecDepth 100000 in
theorem open_prefix {r : Reach} {b0 : Nat} {v : Value} {d : DataW H} {p : List MemPlace} (hv : Value.okWide Try.prog w r b0 44 v) (h : DataW.Trod enc Try.prog w base spare held 44 v d p) :
  ∃ f x y n : Int, v = .agg #[.int .u8 f, .int .u64 x, .int .u64 y, .int .i64 n] ∧ U64 x ∧ U64 y ∧ (Lit.int .u8 f).wf = true ∧ (Lit.int .i64 n).wf = true := by
 obtain ⟨cs, rfl, hsz⟩ := okWide_struct Try.underlying44 hv
 obtain ⟨l⟩ := cs
 match l, hsz.trans Try.cellsPrefix with
 | [c0, c1, c2, c3], _ =>
  obtain ⟨fuel, hf⟩ := h
  obtain ⟨xs, n, _, hx, _, hlen, hg⟩ := DataW.trod_struct Try.underlying44 hf
  match xs, hlen with
  | [y0, y1, y2], _ =>
   have g0 := hg 0 _ rfl
   have g1 := hg 1 _ rfl
   have g2 := hg 2 _ rfl
   simp [Value.cells, Try.cellsAddr, Try.cellsByte, Try.cellsInt] at g0 g1 g2
   obtain ⟨f, e0, _, wf0⟩ := DataW.trod_int Try.underlying5 g0
   obtain ⟨m, e2, _, wf2⟩ := DataW.trod_int Try.underlying3 g2
   obtain ⟨ys, n', _, hx', _, hlen', hg'⟩ := DataW.trod_struct Try.underlying42 g1
   match ys, hlen' with
   | [z0, z1], _ =>
    have k0 := hg' 0 _ rfl
    have k1 := hg' 1 _ rfl
    simp [show Try.prog.cellsOf 40 = 1 by kernel_rfl] at k0 k1
    obtain ⟨x, e1, _, wx⟩ := DataW.trod_int Try.underlying40 k0
    obtain ⟨y, e3, _, wy⟩ := DataW.trod_int Try.underlying40 k1
    simp at e0 e1 e2 e3
    subst e0 e1 e2 e3
    exact ⟨f, x, y, m, rfl, wf_u64 wx, wf_u64 wy, wf0, wf2⟩
end
end Go.Proofs.Ythfgdgcdicacpaa
