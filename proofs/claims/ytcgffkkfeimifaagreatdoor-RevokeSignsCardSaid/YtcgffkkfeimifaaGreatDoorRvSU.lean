import Derived.Test.YtcgffkkfeimifaaGreatDoorRvQ
import Derived.Test.YtcgffkkfeimifaaGreatDoorRvE
import Derived.Test.YtcgffkkfeimifaaGreatDoorOcRK
import Derived.Deep.RegionHeld3
import Derived.Test.YtcgffkkfeimifaaGreatDoorSgJP
import Derived.Test.YtcgffkkfeimifaaGreatDoorLawKit
import Derived.OpenShut
import Derived.Deep.Slices
import Derived.Deep.Strs
import Derived.Lib.SmallJoins
import Derived.Test.YtcgffkkfeimifaaGreatDoorOcRFJ
namespace Go.Proofs.YtcgffkkfeimifaaGreatDoor
namespace Sg
open Go.RowKit Sha Oc
set_option linter.unusedVariables false
set_option linter.unusedSimpArgs false
theorem bytes_own {w : World} {base : Nat} {v : Value} {L : List UInt8} (h : w.ownsRow base 5 1 v L.length (bvals L)) : ∃ A c, v = .slice A L.length c ∧ L.length ≤ c ∧ (A = none → c = 0) ∧ c ≤ maxLen ∧ SrcAt A L w := by
 obtain ⟨hl', hh | ⟨g, cap, cur, hv, hb, hg, hnc, hcm, hcs, ht⟩⟩ := h
 ·
  obtain ⟨rfl, h2⟩ := hh
  have : L = [] := List.length_eq_zero_iff.1 h2
  subst this
  exact ⟨none, 0, rfl, Nat.le_refl _, fun _ => rfl, Nat.zero_le _, fun hne => absurd rfl hne⟩
 ·
  refine ⟨some ⟨g, 0, none⟩, cap, hv, hnc, (fun e => by cases e), hcm, fun _ => ⟨g, 0, rfl, fun j x hj => ?_⟩⟩
  rw [Nat.zero_add, cell_of_row w g j cur _ _ hg, ← Array.getElem?_toList]
  have h2 : (cur.toList.take (L.length * 1))[j]? = some (.int .u8 (x.toNat : Int)) := by
   rw [ht]
   unfold bvals
   rw [List.getElem?_map, hj]
   rfl
  rw [List.getElem?_take] at h2
  split at h2
  ·
   exact h2
  ·
   cases h2
theorem srcAt_on {A : Option Addr} {L : List UInt8} {w V : World} (h : SrcAt A L w) (hb : Below w.heap.size w V) : SrcAt A L V := fun hne => by
 obtain ⟨g, o, e, k⟩ := h hne
 exact ⟨g, o, e, fun j x hx => by rw [hb.cell (p := ⟨g, o + j, none⟩) (World.block_lt_of_cell? _ _ (k j x hx))]; exact k j x hx⟩
end Sg
end Go.Proofs.YtcgffkkfeimifaaGreatDoor
namespace Go.Proofs.YtcgffkkfeimifaaGreatDoor
namespace Sg
open Go.RowKit Sha Oc
set_option linter.unusedVariables false
set_option linter.unusedSimpArgs false
end Sg
end Go.Proofs.YtcgffkkfeimifaaGreatDoor
namespace Go.Proofs.YtcgffkkfeimifaaGreatDoor
namespace Sg
open Go.ChangeShapes Go.WideShapes Go.ChangeAt Go.RowKit Go.Joins Sha
set_option linter.unusedVariables false
set_option linter.unusedSimpArgs false
set_option maxRecDepth 100000
theorem cShort : Tryz.prog.cellsOf 41 = 16 := by kernel_rfl
theorem cByte : Tryz.prog.cellsOf 5 = 1 := by kernel_rfl
theorem cU64 : Tryz.prog.cellsOf 23 = 1 := by kernel_rfl
theorem cI64 : Tryz.prog.cellsOf 2 = 1 := by kernel_rfl
theorem cInt : Tryz.prog.cellsOf 3 = 1 := by kernel_rfl
theorem cStr : Tryz.prog.cellsOf 9 = 1 := by kernel_rfl
theorem cNums : Tryz.prog.cellsOf 22 = 1 := by kernel_rfl
theorem cShorts : Tryz.prog.cellsOf 28 = 1 := by kernel_rfl
theorem cWin : Tryz.prog.cellsOf 27 = 2 := by kernel_rfl
theorem cSig : Tryz.prog.cellsOf 30 = 3 := by kernel_rfl
theorem cRev : Tryz.prog.cellsOf 32 = 8 := by kernel_rfl
def u8of : Value → UInt8
 | .int _ n => UInt8.ofNat n.toNat
 | _ => 0
section
variable {H : Type} {enc : TypeId × Value → H} {w : World}
theorem row_of_trod {base : Nat} {spare : Nat → Bool} {held : Bool} {fuel : Nat} {cs : List Value} {x : DataW H × List MemPlace} (h : DataW.trod enc Tryz.prog w base spare held fuel 41 cs = some x) : ∃ l : List UInt8, l.length = 16 ∧ cs = bvals l := by
 obtain ⟨xs, m, _, _, hl, hxl, hx⟩ := DataW.trod_array Tryz.underlying41 h
 rw [cShort] at hl
 have hat : ∀ i, i < 16 → ∃ n, cs[i]? = some (.int .u8 n) ∧ 0 ≤ n ∧ n ≤ 255 := fun i hi => by
  have h1 := hx i hi
  rw [cByte, Nat.mul_one, List.getElem?_eq_getElem (by omega : i < xs.length)] at h1
  obtain ⟨n, h2, _, h3⟩ := DataW.trod_int Tryz.underlying5 h1
  refine ⟨n, ?_, bounds_u8 h3⟩
  have h4 := congrArg (fun l => l[0]?) h2
  simp only [List.getElem?_take, List.getElem?_drop] at h4
  simpa using h4
 refine ⟨cs.map u8of, by rw [List.length_map, hl], ?_⟩
 apply List.ext_getElem?
 intro i
 unfold bvals
 rw [List.getElem?_map, List.getElem?_map]
 by_cases hi : i < 16
 ·
  obtain ⟨n, h1, h2, h3⟩ := hat i hi
  rw [h1]
  show some (Value.int .u8 n) = some (Value.int .u8 (((UInt8.ofNat n.toNat).toNat : Nat) : Int))
  rw [UInt8.toNat_ofNat']
  congr 2
  omega
 ·
  rw [List.getElem?_eq_none (by omega)]
  rfl
theorem shorts_of_trod {fuel : Nat} {v : Value} {x : DataW H × List MemPlace} (hf : DataW.trod enc Tryz.prog w 0 (fun _ => true) true fuel 28 [v] = some x) :
  ∃ (A : Option Addr) (ls : List (List UInt8)) (c : Nat), v = .slice A ls.length c ∧ ls.length ≤ c ∧ c ≤ maxLen ∧ (A = none → c = 0) ∧ Shs A ls w := by
 rcases Go.Deep.open_slice Tryz.underlying28 hf with ⟨hcs, _⟩ | ⟨a, len, cap, m, n, D, Pl, hcs, hb, hl, hm, hmm, _, hx⟩
 ·
  simp at hcs
  subst hcs
  exact ⟨none, [], 0, rfl, Nat.le_refl _, Nat.zero_le _, fun _ => rfl, fun i l hi => by simp at hi, fun l hl => by simp at hl⟩
 ·
  simp at hcs
  subst hcs
  simp only [if_true] at hmm
  subst hmm
  have each : ∀ i, i < m → ∃ l : List UInt8, l.length = 16 ∧ ∀ j, j < 16 → w.cell? ((a.add (i * 16)).add j) = (bvals l)[j]? := fun i hi => by
   obtain ⟨cs', h1, h2⟩ := hx i hi
   rw [cShort] at h1
   obtain ⟨_, hlen, hcell⟩ := World.cells?_some h1
   obtain ⟨l, h3, h4⟩ := row_of_trod h2
   refine ⟨l, h3, fun j hj => ?_⟩
   have h5 := hcell j (by omega)
   rw [h5, h4]
  obtain ⟨f, hf2⟩ := Go.Deep.choose_lt each
  refine ⟨some a, (List.range len).map f, m, by rw [List.length_map, List.length_range], by rw [List.length_map, List.length_range]; exact hl, hm, (fun e => by cases e), fun i l hi => ?_, fun l hl2 => ?_⟩
  ·
   rw [List.getElem?_map] at hi
   obtain ⟨k, hk, rfl⟩ := Option.map_eq_some_iff.1 hi
   obtain ⟨h1, h2⟩ := List.getElem?_eq_some_iff.1 hk
   simp at h1 h2
   subst h2
   obtain ⟨h3, h4⟩ := hf2 i (by omega)
   obtain ⟨b, off, spot⟩ := a
   obtain ⟨h30, h40⟩ := hf2 0 (by omega)
   have h5 := h40 0 (by decide)
   rw [List.getElem?_eq_getElem (by rw [bvals_len, h30]; decide)] at h5
   have hsp : spot = none := by simpa [Addr.add] using World.cell?_spot h5
   subst hsp
   refine ⟨b, off, rfl, fun j v hj => ?_⟩
   have hj16 : j < 16 := by
    have := (List.getElem?_eq_some_iff.1 hj).1
    rw [bvals_len, h3] at this
    exact this
   have h6 := h4 j hj16
   rw [add_eq, add_eq, hj, Nat.mul_comm] at h6
   exact h6
  ·
   obtain ⟨k, hk, rfl⟩ := List.mem_map.1 hl2
   exact (hf2 k (by have := List.mem_range.1 hk; omega)).1
theorem eight_of {cs : List Value} {a b c d e f g h : Value} (hl : cs.length = 8) (h0 : (cs.drop 0).take 1 = [a]) (h1 : (cs.drop 1).take 1 = [b]) (h2 : (cs.drop 2).take 2 = [c, d]) (h3 : (cs.drop 4).take 1 = [e]) (h4 : (cs.drop 5).take 3 = [f, g, h]) : cs = [a, b, c, d, e, f, g, h] := by
 match cs, hl with
 | [x, y, z, u, v, p, q, r], _ =>
  simp at h0 h1 h2 h3 h4
  rw [h0, h1, h2.1, h2.2, h3, h4.1, h4.2.1, h4.2.2]
theorem two_of {cs : List Value} {a b : Value} (hl : cs.length = 2) (h0 : (cs.drop 0).take 1 = [a]) (h1 : (cs.drop 1).take 1 = [b]) : cs = [a, b] := by
 match cs, hl with
 | [x, y], _ =>
  simp at h0 h1
  rw [h0, h1]
theorem three_of {cs : List Value} (hl : cs.length = 3) : ∃ a b c, cs = [a, b, c] ∧ (cs.drop 0).take 1 = [a] ∧ (cs.drop 1).take 1 = [b] ∧ (cs.drop 2).take 1 = [c] := by
 match cs, hl with
 | [x, y, z], _ => exact ⟨x, y, z, rfl, rfl, rfl, rfl⟩
end
end Sg
end Go.Proofs.YtcgffkkfeimifaaGreatDoor
namespace Go.Proofs.YtcgffkkfeimifaaGreatDoor
namespace Sg
open Go.ChangeShapes Go.WideShapes Go.ChangeAt Go.RowKit Go.Joins Sha
set_option linter.unusedVariables false
set_option linter.unusedSimpArgs false
set_option maxRecDepth 100000
theorem wf_64 {x : Int} (h : (Lit.int .u64 x).wf = true) : 0 ≤ x ∧ x < 18446744073709551616 := by
 unfold Lit.wf at h
 simp only [Bool.and_eq_true, decide_eq_true_eq] at h
 obtain ⟨h1, h2⟩ := h
 have e1 : IntKind.u64.min = 0 := by decide
 have e2 : IntKind.u64.max = 18446744073709551615 := by decide
 rw [e1] at h1
 rw [e2] at h2
 exact ⟨h1, by omega⟩
section
variable {H : Type} {enc : TypeId × Value → H} {w : World}
theorem nums_of_trod2 {fuel : Nat} {v : Value} {x : DataW H × List MemPlace} (hf : DataW.trod enc Tryz.prog w 0 (fun _ => true) true fuel 22 [v] = some x) :
  ∃ (A : Option Addr) (xs : List Int) (c : Nat), v = .slice A xs.length c ∧ (A = none → c = 0) ∧ Nums A xs w ∧ ∀ x ∈ xs, x < 18446744073709551616 := by
 rcases open_ints Tryz.underlying22 Tryz.underlying23 cU64 hf with ⟨hcs, hx⟩ | ⟨a, len, cap, zs, hcs, _, hl, hm, hz, hx, hcell, hwz⟩
 ·
  simp at hcs
  subst hcs
  exact ⟨none, [], 0, rfl, fun _ => rfl, ⟨fun i l hi => by simp at hi⟩, fun x hx => by cases hx⟩
 ·
  simp at hcs
  subst hcs
  simp only [if_true] at hz
  have hlt : (zs.take len).length = len := by simp; omega
  refine ⟨some a, zs.take len, cap, by rw [hlt], (fun e => by cases e), ⟨fun i y hi => ?_⟩, fun x hx => (wf_64 (hwz x (List.mem_of_mem_take hx))).2⟩
  have hil := (List.getElem?_eq_some_iff.1 hi).1
  rw [hlt] at hil
  obtain ⟨b, off, spot⟩ := a
  have hspot : spot = none := by simpa [Addr.add] using World.cell?_spot (hcell 0 (by omega))
  subst hspot
  refine ⟨b, off, rfl, ?_⟩
  have := hcell i (by omega)
  rw [add_eq] at this
  rw [this]
  rw [List.getElem?_take, if_pos hil] at hi
  simp [hi]
theorem open_rev2 {r : Reach} {b0 : Nat} {v : Value} {d : DataW H} {p : List MemPlace} (hv : Value.okWide Tryz.prog w r b0 32 v) (h : DataW.Trod enc Tryz.prog w 0 (fun _ => true) true 32 v d p) :
  ∃ (l : Rl) (m : Mp), v = .agg (rlC l m) ∧ Caps m ∧ Nums m.SA l.ser w ∧ Shs m.CA l.sg.cs w ∧ Shs m.PA l.sg.ps w ∧ Wf l := by
 obtain ⟨cs, rfl, hsz⟩ := okWide_struct Tryz.underlying32 hv
 obtain ⟨fuel, hf⟩ := h
 obtain ⟨xs, n, _, hx, hl, hlen, hfi⟩ := DataW.trod_struct Tryz.underlying32 hf
 have h5 : xs.length = 5 := hlen
 match xs, h5, hfi with
 | [x0, x1, x2, x3, x4], _, hfi =>
  have g0 := hfi 0 _ rfl
  have g1 := hfi 1 _ rfl
  have g2 := hfi 2 _ rfl
  have g3 := hfi 3 _ rfl
  have g4 := hfi 4 _ rfl
  simp only [List.getElem?_cons_zero, List.getElem?_cons_succ, cStr, cU64, cWin, cNums, cSig] at g0 g1 g2 g3 g4
  rw [cRev] at hl
  obtain ⟨s, k0, _, _⟩ := DataW.trod_string Tryz.underlying9 g0
  obtain ⟨num, k1, _, hnw⟩ := DataW.trod_int Tryz.underlying23 g1
  obtain ⟨y0, y1, n2, _, l2, w0, w1⟩ := trod_struct2 Tryz.underlying27 g2
  simp only [cI64] at w0 w1
  rw [cWin] at l2
  obtain ⟨fr, q0, _, _⟩ := DataW.trod_int Tryz.underlying2 w0
  obtain ⟨tt, q1, _, _⟩ := DataW.trod_int Tryz.underlying2 w1
  have k2 := two_of l2 q0 q1
  obtain ⟨v3, e3⟩ : ∃ v3, ((cs.toList.drop 4).take 1) = [v3] := by
   match hq : cs.toList, hl with
   | [a, b, c, d, e, f, g, h], _ => exact ⟨e, rfl⟩
  have g3' : DataW.trod enc Tryz.prog w 0 (fun _ => true) true n 22 [v3] = some x3 := by rw [← e3]; exact g3
  obtain ⟨SA, xs2, sc, rfl, hcs, hns, hsw⟩ := nums_of_trod2 g3'
  obtain ⟨z0, z1, z2, n4, _, l4, u0, u1, u2⟩ := Go.Deep.trod_struct3 Tryz.underlying30 g4
  rw [cSig] at l4
  obtain ⟨a0, a1, a2, ea, t0, t1, t2⟩ := three_of l4
  simp only [cInt, cShorts] at u0 u1 u2
  have u1' : DataW.trod enc Tryz.prog w 0 (fun _ => true) true n4 28 [a1] = some z1 := by rw [← t1]; exact u1
  have u2' : DataW.trod enc Tryz.prog w 0 (fun _ => true) true n4 28 [a2] = some z2 := by rw [← t2]; exact u2
  obtain ⟨idx, r0, _, _⟩ := DataW.trod_int Tryz.underlying3 u0
  have r1 := t0.symm.trans r0
  simp at r1
  subst r1
  obtain ⟨CA, cs2, cc, rfl, _, _, hcc, hss⟩ := shorts_of_trod u1'
  obtain ⟨PA, ps2, pc, rfl, _, _, hpc, hps⟩ := shorts_of_trod u2'
  have e := eight_of hl k0 k1 k2 e3 ea
  refine ⟨⟨s, num, fr, tt, xs2, ⟨idx, cs2, ps2⟩⟩, ⟨SA, sc, CA, cc, PA, pc⟩, ?_, ⟨hcs, hcc, hpc⟩, hns, hss, hps, ⟨wf_64 hnw, hsw, hss.len, hps.len⟩⟩
  have e2 : cs = #[.string s, .int .u64 num, .int .i64 fr, .int .i64 tt, .slice SA xs2.length sc, .int .i64 idx, .slice CA cs2.length cc, .slice PA ps2.length pc] := by
   apply Array.ext'
   exact e
  rw [e2]
  rfl
end
end Sg
end Go.Proofs.YtcgffkkfeimifaaGreatDoor
