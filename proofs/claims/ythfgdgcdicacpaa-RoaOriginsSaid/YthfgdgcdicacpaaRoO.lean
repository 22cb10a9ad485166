import Derived.Test.YthfgdgcdicacpaaRoB
import Derived.Test.YthfgdgcdicacpaaDigAll
import Derived.Test.YthfgdgcdicacpaaNumOpen
import Derived.Test.YthfgdgcdicacpaaLawKit
import Derived.OpenShut
import Derived.Deep.Slices
import Derived.Deep.Strs
import Derived.Lib.SmallJoins
namespace Go.Proofs.Ythfgdgcdicacpaa
namespace Ro
open Go.ChangeShapes Go.WideShapes Go.ChangeAt Go.RowKit Go.Joins Sha Adr
set_option linter.unusedVariables false
set_option linter.unusedSimpArgs false
set_option maxRecDepth 100000
theorem cAuth : Try.prog.cellsOf 75 = 5 := by kernel_rfl
theorem cAuths : Try.prog.cellsOf 23 = 1 := by kernel_rfl
theorem cPre : Try.prog.cellsOf 44 = 4 := by kernel_rfl
theorem cAdr : Try.prog.cellsOf 42 = 2 := by kernel_rfl
theorem cU8 : Try.prog.cellsOf 5 = 1 := by kernel_rfl
theorem cU32 : Try.prog.cellsOf 22 = 1 := by kernel_rfl
theorem cU64 : Try.prog.cellsOf 40 = 1 := by kernel_rfl
theorem cInt : Try.prog.cellsOf 3 = 1 := by kernel_rfl
theorem cRouteAuth : Try.prog.cellsOf 25 = 2 := by kernel_rfl
theorem bnd_u32 {n : Int} (h : (Lit.int .u32 n).wf = true) : 0 ≤ n ∧ n < 4294967296 := by
 simp [Lit.wf, IntKind.min, IntKind.max, IntKind.signed, IntKind.bits] at h
 omega
section
variable {H : Type} {enc : TypeId × Value → H} {w : World}
theorem two_of {cs : List Value} {a b : Value} (hl : cs.length = 2) (h0 : (cs.drop 0).take 1 = [a]) (h1 : (cs.drop 1).take 1 = [b]) : cs = [a, b] := by
 match cs, hl with
 | [x, y], _ =>
  simp at h0 h1
  rw [h0, h1]
theorem five_of {cs : List Value} {a b c d e : Value} (hl : cs.length = 5) (h0 : (cs.drop 0).take 4 = [a, b, c, d]) (h1 : (cs.drop 4).take 1 = [e]) : cs = [a, b, c, d, e] := by
 match cs, hl with
 | [x, y, z, u, v], _ =>
  simp at h0 h1
  rw [h0.1, h0.2.1, h0.2.2.1, h0.2.2.2, h1]
theorem four_of {cs : List Value} {a b c d : Value} (hl : cs.length = 4) (h0 : (cs.drop 0).take 1 = [a]) (h1 : (cs.drop 1).take 2 = [b, c]) (h2 : (cs.drop 3).take 1 = [d]) : cs = [a, b, c, d] := by
 match cs, hl with
 | [x, y, z, u], _ =>
  simp at h0 h1 h2
  rw [h0, h1.1, h1.2, h2]
theorem elem_of_trod {base : Nat} {spare : Nat → Bool} {held : Bool} {fuel : Nat} {cs : List Value} {x : DataW H × List MemPlace} (h : DataW.trod enc Try.prog w base spare held fuel 75 cs = some x) : ∃ y : Ap, WfE y ∧ cs = cE y := by
 obtain ⟨xs, n, _, _, hl, hlen, hfi⟩ := DataW.trod_struct Try.underlying75 h
 have h2 : xs.length = 2 := hlen
 match xs, h2, hfi with
 | [x0, x1], _, hfi =>
  have g0 := hfi 0 _ rfl
  have g1 := hfi 1 _ rfl
  simp only [List.getElem?_cons_zero, List.getElem?_cons_succ, cPre, cInt] at g0 g1
  rw [cAuth] at hl
  obtain ⟨m, k1, _, _⟩ := DataW.trod_int Try.underlying3 g1
  obtain ⟨ys, n', _, _, hl', hlen', hfi'⟩ := DataW.trod_struct Try.underlying44 g0
  have h3 : ys.length = 3 := hlen'
  match ys, h3, hfi' with
  | [y0, y1, y2], _, hfi' =>
   have q0 := hfi' 0 _ rfl
   have q1 := hfi' 1 _ rfl
   have q2 := hfi' 2 _ rfl
   simp only [List.getElem?_cons_zero, List.getElem?_cons_succ, cU8, cAdr, cInt] at q0 q1 q2
   rw [cPre] at hl'
   obtain ⟨f, k2, _, wf⟩ := DataW.trod_int Try.underlying5 q0
   obtain ⟨nn, k3, _, _⟩ := DataW.trod_int Try.underlying3 q2
   obtain ⟨zs, n'', _, _, hl'', hlen'', hfi''⟩ := DataW.trod_struct Try.underlying42 q1
   have h4 : zs.length = 2 := hlen''
   match zs, h4, hfi'' with
   | [z0, z1], _, hfi'' =>
    have s0 := hfi'' 0 _ rfl
    have s1 := hfi'' 1 _ rfl
    simp only [List.getElem?_cons_zero, List.getElem?_cons_succ, cU64] at s0 s1
    rw [cAdr] at hl''
    obtain ⟨hh, k4, _, wh⟩ := DataW.trod_int Try.underlying40 s0
    obtain ⟨ll, k5, _, wl⟩ := DataW.trod_int Try.underlying40 s1
    have e1 := two_of hl'' k4 k5
    have e2 := four_of hl' k2 e1 k3
    have e3 := five_of hl e2 k1
    exact ⟨⟨f, hh, ll, nn, m⟩, ⟨by have := bounds_u8 wf; show 0 ≤ f ∧ f < 256; omega, wf_u64 wh, wf_u64 wl⟩, e3⟩
theorem aps_of_trod {fuel : Nat} {v : Value} {x : DataW H × List MemPlace} (hf : DataW.trod enc Try.prog w 0 (fun _ => true) true fuel 23 [v] = some x) :
  ∃ (A : Option Addr) (ls : List Ap) (c : Nat), v = .slice A ls.length c ∧ (A = none → c = 0) ∧ (∀ x ∈ ls, WfE x) ∧ Aps A ls w := by
 rcases Go.Deep.open_slice Try.underlying23 hf with ⟨hcs, _⟩ | ⟨a, len, cap, m, n, D, Pl, hcs, hb, hl, hm, hmm, _, hx⟩
 ·
  simp at hcs
  subst hcs
  exact ⟨none, [], 0, rfl, fun _ => rfl, (fun x hx => by cases hx), ⟨fun i l hi => by simp at hi⟩⟩
 ·
  simp at hcs
  subst hcs
  simp only [if_true] at hmm
  subst hmm
  have each : ∀ i, i < m → ∃ y : Ap, WfE y ∧ ∀ j, j < 5 → w.cell? ((a.add (i * 5)).add j) = (cE y)[j]? := fun i hi => by
   obtain ⟨cs', h1, h2⟩ := hx i hi
   rw [cAuth] at h1
   obtain ⟨_, hlen, hcell⟩ := World.cells?_some h1
   obtain ⟨y, h3, h4⟩ := elem_of_trod h2
   refine ⟨y, h3, fun j hj => ?_⟩
   have h5 := hcell j (by omega)
   rw [h5, h4]
  obtain ⟨f, hf2⟩ := Go.Deep.choose_lt each
  refine ⟨some a, (List.range len).map f, m, by rw [List.length_map, List.length_range], (fun e => by cases e), fun y hy => ?_, ⟨fun i l hi => ?_⟩⟩
  ·
   obtain ⟨k, hk, rfl⟩ := List.mem_map.1 hy
   exact (hf2 k (by have := List.mem_range.1 hk; omega)).1
  ·
   rw [List.getElem?_map] at hi
   obtain ⟨k, hk, rfl⟩ := Option.map_eq_some_iff.1 hi
   obtain ⟨h1, h2⟩ := List.getElem?_eq_some_iff.1 hk
   simp at h1 h2
   subst h2
   obtain ⟨h3, h4⟩ := hf2 i (by omega)
   obtain ⟨b, off, spot⟩ := a
   have h5 := (hf2 0 (by omega)).2 0 (by decide)
   have hsp : spot = none := by simpa [Addr.add] using World.cell?_spot h5
   subst hsp
   refine ⟨b, off, rfl, fun j v hj => ?_⟩
   have hj5 : j < 5 := (List.getElem?_eq_some_iff.1 hj).1
   have h6 := h4 j hj5
   rw [add_eq, add_eq, hj] at h6
   exact h6
theorem open_ra {r : Reach} {b0 : Nat} {v : Value} {d : DataW H} {p : List MemPlace} (hv : Value.okWide Try.prog w r b0 25 v) (h : DataW.Trod enc Try.prog w 0 (fun _ => true) true 25 v d p) :
  ∃ (a : Ra) (A : Option Addr) (c : Nat), v = .agg #[.int .u32 a.sy, .slice A a.ps.length c] ∧ (A = none → c = 0) ∧ Wf a ∧ Aps A a.ps w := by
 obtain ⟨cs, rfl, hsz⟩ := okWide_struct Try.underlying25 hv
 obtain ⟨fuel, hf⟩ := h
 obtain ⟨xs, n, _, hx, hl, hlen, hfi⟩ := DataW.trod_struct Try.underlying25 hf
 have h5 : xs.length = 2 := hlen
 match xs, h5, hfi with
 | [x0, x1], _, hfi =>
  have g0 := hfi 0 _ rfl
  have g1 := hfi 1 _ rfl
  simp only [List.getElem?_cons_zero, List.getElem?_cons_succ, cU32, cAuths] at g0 g1
  rw [cRouteAuth] at hl
  obtain ⟨sy, k0, _, ws⟩ := DataW.trod_int Try.underlying22 g0
  obtain ⟨l1, k1⟩ : ∃ v1, (((Value.agg cs).cells.toList).drop 1).take 1 = [v1] := by
   match h9 : (Value.agg cs).cells.toList, hl with
   | [a, b], _ => exact ⟨b, rfl⟩
  have g1' : DataW.trod enc Try.prog w 0 (fun _ => true) true n 23 (((Value.agg cs).cells.toList.drop 1).take (Try.prog.cellsOf 23)) = some x1 := g1
  rw [cAuths, k1] at g1'
  obtain ⟨A, ls, c, rfl, hA, hw, hp⟩ := aps_of_trod g1'
  have e := two_of hl k0 k1
  refine ⟨⟨sy, ls⟩, A, c, ?_, hA, ⟨bnd_u32 ws, hw⟩, hp⟩
  have e2 : cs.toList = [.int .u32 sy, .slice A ls.length c] := by simpa [Value.cells] using e
  congr 1
  exact Array.toList_inj.1 (by rw [e2])
end
end Ro
end Go.Proofs.Ythfgdgcdicacpaa
