import Derived.Test.YtcgffkkfeimifaaGreatDoorRvR
import Derived.Test.YtcgffkkfeimifaaGreatDoorSgJP
import Derived.Test.YtcgffkkfeimifaaGreatDoorMathAll
import Derived.Test.YtcgffkkfeimifaaGreatDoorOcRAC
namespace Go.Proofs.YtcgffkkfeimifaaGreatDoor
namespace Sg
open Go.RowKit Sha Oc
set_option linter.unusedVariables false
set_option linter.unusedSimpArgs false
attribute [local go_sem] Oper.semAt_some
def RwT (E : TypeId) (base : Nat) (w : World) (g : Nat) : Prop := base ≤ g ∧ ∃ cs, w.heap[g]? = some (.cells cs E (0, 0))
theorem RwT.rw {E : TypeId} {base : Nat} {w : World} {g : Nat} (h : RwT E base w g) : Rw base w g := ⟨h.1, h.2.elim fun cs e => ⟨cs, E, e⟩⟩
theorem own_ref {w : World} {base : Nat} {v : Value} {n : Nat} {xs : List Value} {E : TypeId} {k : Nat} (h : w.ownsRow base E k v n xs) {A : Option Addr} {m c : Nat} (e : v = .slice A m c) : ∀ ga oa, A = some ⟨ga, oa, none⟩ → RwT E base w ga := fun ga oa e2 => by
 subst e2
 subst e
 obtain ⟨cur, h1⟩ := own_row h ga oa m c rfl
 exact ⟨own_lt h rfl, cur, h1⟩
theorem at_leaf {R : Nat → Prop} {w : World} (t : UInt8) {b : List UInt8} {A : Option Addr} {c : Nat} (hc : b.length ≤ c) (hbm : b.length ≤ 140737488355328) (hcn : A = none → c = 0) (hs : SrcAt A b w) (hR : ∀ ga oa, A = some ⟨ga, oa, none⟩ → R ga) : At R w (.mk t b []) (.slice A b.length c) (.slice none 0 0) :=
 .mk t b [] A c none 0 0 0 (fun _ => undef) (fun _ => undef) hc hbm hcn hs (fun ga oa e _ => hR ga oa e) (Nat.le_refl _) (by decide) (fun _ => rfl) (fun h => absurd rfl h) (fun k o h => by simp at h) (fun k o h => by simp at h) (fun k o h => by simp at h) (fun k o h => by simp at h)
def NoPost (o : Oct) (w : World) (e : Ending) (w' : World) : Prop := ∃ A m c, e = .returned (.agg #[.int .u8 ((tagO o).toNat : Int), .slice A m c, .slice none 0 0]) ∧ At (RwT 5 w.heap.size w') w' o (.slice A m c) (.slice none 0 0) ∧ Below w.heap.size w w'
set_option maxRecDepth 100000 in
set_option maxHeartbeats 4000000 in
theorem num_own (tg : UInt8) (x : Nat) (hx : x < 256 ^ 8) (w : World) : Calls Tryz.prog 57 #[.int .u8 (tg.toNat : Int), .int .u64 (x : Int)] w (NoPost (.mk tg (nb x) []) w) := by
 go_enter Tryz.func57, Tryz.ntmps57
 go_upto_region 1 with (fail)
 obtain ⟨V, hV, hb0, hr0⟩ : ∃ V, World.alloc w (.cells #[.int .u8 0, .slice none 0 0, .slice none 0 0] 68) = V ∧ Below w.heap.size w V ∧ V.heap[w.heap.size]? = some (.cells #[.int .u8 0, .slice none 0 0, .slice none 0 0] 68 (0, 0)) := ⟨_, rfl, below_new w _, heap_alloc_new w _⟩
 rw [hV]
 clear hV
 have HB0 := Lib.hid hb0
 have HR0 := Lib.hid hr0
 have hle0 : w.heap.size ≤ V.heap.size := hb0.size
 clear hb0 hr0
 have hcall := bytesof_any 8 x hx (Nat.le_refl _) V
 unfold NbPost at hcall
 have HC := Lib.hid hcall
 clear hcall
 go_wp2_with fail
 refine (HC.out).mono ?_
 rintro e W ⟨v, rfl, hown, hb1⟩
 have hlen := Oc.nb_len 8 x hx
 have hown2 := hown
 obtain ⟨A, c, rfl, hc, hcn, hs, _⟩ := own_rd3 hown
 have hw := own_ref hown2 rfl
 have HB1 := Lib.hid (chain HB0.out hb1)
 have HR1 := Lib.hid (row_on HR0.out hb1)
 have HS := Lib.hid (And.intro hs (fun ga oa e => show ga ≠ w.heap.size by have h1 := (hw ga oa e).1; have h2 := (Array.getElem?_eq_some_iff.1 HR0.out).1; omega))
 have HWR := Lib.hid hw
 have HCC := Lib.hid hc
 have HCN := Lib.hid hcn
 have HL := Lib.hid (show (nb x).length ≤ 140737488355328 by omega)
 clear hown hown2 hlen hb1 hc hcn hs hw
 have hlt := (Array.getElem?_eq_some_iff.1 HR1.out).1
 obtain ⟨⟨hf0, hf1, hf2⟩, hd0, hd1, hd2⟩ := facts3 HR1.out
 go_wp2_with fail
 have e9 : ∀ a b c : Value, ((W.setCell ⟨w.heap.size, 0, none⟩ a).setCell ⟨w.heap.size, 1, none⟩ b).setCell ⟨w.heap.size, 2, none⟩ c = W.setCells w.heap.size 0 [a, b, c] := fun _ _ _ => rfl
 rw [e9]
 refine bodyPost_ret (v := .agg #[.int .u8 (tg.toNat : Int), .slice A (nb x).length c, .slice none 0 0]) (results_cell_row rfl _ _ w.heap.size 68 _ (0, 0) _ rfl (row_setCells8 HR1.out rfl) Tryz.underlying68 rfl (sz3o _ _ _)) rfl ⟨_, _, _, rfl, ?_, below_setCells8 _ _ _ HB1.out (Nat.le_refl _)⟩
 refine at_leaf tg HCC.out HL.out HCN.out (srcAt_set HS.out.1 HS.out.2 0 _) (fun ga oa e => ⟨by have := (HWR.out ga oa e).1; omega, ?_⟩)
 obtain ⟨cs, h3⟩ := (HWR.out ga oa e).2
 exact ⟨cs, (heap_setCells_other _ _ _ (HS.out.2 ga oa e)).trans h3⟩
abbrev Tr := Oct × Value × Value
abbrev encT (a : Tr) : Array Value := #[.agg #[.int .u8 ((tagO a.1).toNat : Int), a.2.1, a.2.2]]
def SerP (xs : List Int) (lo : Nat) (pre : List Tr) (a : Tr) (W : World) : Prop := pre.length < xs.length ∧ (∃ A m c, a.2.1 = .slice A m c) ∧ a.2.2 = .slice none 0 0 ∧ At (RwT 5 lo W) W a.1 a.2.1 a.2.2
def n5i (x : Int) : Oct := n5 x.toNat
theorem Nums.low {A : Option Addr} {xs : List Int} {w V : World} {n : Nat} (h : Nums A xs w) (hA : ∀ g o, A = some ⟨g, o, none⟩ → g < n) (hb : Below n w V) : Nums A xs V :=
 ⟨fun i x hi => by
  obtain ⟨g, o, e, hc⟩ := h.row i x hi
  exact ⟨g, o, e, by rw [hb.cell (p := ⟨g, o + i, none⟩) (hA g o e)]; exact hc⟩⟩
set_option maxRecDepth 100000 in
set_option maxHeartbeats 4000000 in
theorem ser_seq (n X : Nat) (w0 : World) (xs : List Int) (A : Option Addr) (c : Nat) (hl : xs.length ≤ 5000) (hu : ∀ x ∈ xs, 0 ≤ x ∧ x < 18446744073709551616) (w : World) (hX : w.heap[X]? = some (.cells #[.slice A xs.length c] 22 (0, 0))) (hb0 : Below w0.heap.size w0 w) (hN : Nums A xs w0) :
  SeqP Fence.wide n Tryz.prog 101 #[.pointer (some ⟨X, 0, none⟩)] encT (SerP xs w0.heap.size) (Below w0.heap.size) (fun ts => ts.map (·.1) = xs.map n5i) w := by
 intro l J W hb hJ hY h0
 have hn := hb0.size
 have hbW : Below w0.heap.size w0 W := hb0.trans (hb.mono hn)
 obtain ⟨n0, hn0⟩ : ∃ n0, w0.heap.size = n0 := ⟨_, rfl⟩
 have HN1 := Lib.hid (fun (V : World) (h : Below n0 W V) => hN.on (hbW.trans (by rw [hn0]; exact h)))
 rw [hn0] at hY hn
 obtain ⟨q, hq⟩ : ∃ q, xs.length = q := ⟨_, rfl⟩
 have hXW := row_on hX hb
 rw [hq] at hXW hl
 have hlt := (Array.getElem?_eq_some_iff.1 hXW).1
 have hcX := cell_of_one hXW
 have HQ := Lib.hid hq
 have HU := Lib.hid hu
 have HY := Lib.hid hY
 have HJ := Lib.hid hJ
 have HJ0 := Lib.hid h0
 have HN0 : RowKit.Hid (n0 ≤ W.heap.size) := Lib.hid (Nat.le_trans hn hb.size)
 clear hX hb hb0 hbW hn0 hN hXW hq hu hY hJ h0 hn
 refine callsIn_of_wp Tryz.func101 rfl trivial ?_ rfl
 simp only [Tryz.ntmps101, List.size_toArray, List.length_cons, List.length_nil, Nat.reduceAdd, Nat.reduceSub, Array.replicate_succ, Array.replicate_zero, List.push_toArray, List.append_toArray, List.nil_append, List.cons_append]
 gi_wp2_with fail
 clear hlt hcX
 gi_loopw [4, 7] (fun _ ix wr => ∃ (k : Nat) (ts : List Tr), k ≤ q ∧ ix = .int .i64 (k : Int) ∧ RowKit.Hid (ts.map (·.1) = (xs.take k).map n5i) ∧ RowKit.Hid (J ts wr) ∧ RowKit.Hid (Below n0 W wr ∧ W.heap.size ≤ wr.heap.size)) (fun _ ix _ => q - (intOf ix).toNat)
 case atStart => exact ⟨0, [], by omega, rfl, Lib.hid rfl, HJ0, Lib.hid ⟨Below.refl _ _, Nat.le_refl _⟩⟩
 case round =>
  clear HJ0
  obtain ⟨k, ts, hk, rfl, HTS, HJS, HKS⟩ := hrel
  by_cases hlt : k < q
  ·
   have hki : (k : Int) < (q : Int) := by omega
   obtain ⟨x, hx⟩ : ∃ x, xs[k]? = some x := ⟨_, List.getElem?_eq_getElem (by rw [HQ.out]; exact hlt)⟩
   obtain ⟨hx0, hx1⟩ := HU.out x (List.mem_of_getElem? hx)
   obtain ⟨xn, hxn⟩ : ∃ xn : Nat, x.toNat = xn := ⟨_, rfl⟩
   have hxe : x = (xn : Int) := by omega
   have hp : (256 : Nat) ^ 8 = 18446744073709551616 := by decide
   have hxl : xn < 256 ^ 8 := by omega
   obtain ⟨g, o, hAe, hc⟩ := (HN1.out wr HKS.out.1).row k x hx
   rw [hxe] at hc
   have HX := Lib.hid hx
   have HXE := Lib.hid hxn
   have HNUM : RowKit.Hid (∀ V : World, Calls Tryz.prog 57 #[.int .u8 5, .int .u64 (xn : Int)] V (NoPost (.mk 5 (nb xn) []) V)) := Lib.hid (fun V => num_own 5 xn hxl V)
   have HTL : RowKit.Hid (ts.length = k) := Lib.hid (by
    have h1 := congrArg List.length HTS.out
    rw [List.length_map, List.length_map, List.length_take, HQ.out] at h1
    omega)
   subst hAe
   clear hx hxn hxe hp hxl hx0 hx1
   gi_wp2_with fail
   refine ⟨trivial, fun h => (by cases h), (callsIn_wide.2 (HNUM.out wr)).mono ?_⟩
   rintro e W2 ⟨A1, m1, c1, rfl, hat, hb2⟩
   have HB2 := Lib.hid hb2
   have hJ2 : J ts W2 := HJ.out ts wr W2 none HJS.out ⟨hb2.os, hb2.tape, hb2.output, hb2.size, fun j hj _ => hb2.block j hj⟩ (fun r e => by cases e)
   have hP2 : SerP xs n0 ts (.mk 5 (nb xn) [], .slice A1 m1 c1, .slice none 0 0) W2 := ⟨by rw [HTL.out, HQ.out]; exact hlt, ⟨_, _, _, rfl⟩, rfl, hat.to fun g p u hu hR => ⟨hu, by have h1 := hR.1; have h2 := HN0.out; have h3 := HKS.out.2; omega, hR.2⟩⟩
   obtain ⟨fn, tmps, assign, body, hy, hR⟩ := HY.out ts (.mk 5 (nb xn) [], .slice A1 m1 c1, .slice none 0 0) W2 hJ2 hP2
   have HR := Lib.hid hR
   dsimp only [encT] at hy
   clear hat hb2 hJ2 hP2 hR hc
   gi_wp2_with fail
   refine ⟨fun h => (by cases h), HR.out.mono ?_⟩
   rintro e W3 ⟨rfl, hJ3, hk3⟩
   have HT3 : RowKit.Hid ((ts ++ [(Oct.mk 5 (nb xn) [], Value.slice A1 m1 c1, Value.slice none 0 0)]).map (·.1) = (xs.take (k + 1)).map n5i) := Lib.hid (by
    rw [List.map_append, HTS.out, List.take_add_one, HX.out, List.map_append]
    show _ = _ ++ [n5 x.toNat]
    rw [HXE.out]
    rfl)
   have HJ3 := Lib.hid hJ3
   have HK3 : RowKit.Hid (Below n0 W W3 ∧ W.heap.size ≤ W3.heap.size) := Lib.hid ⟨(HKS.out.1.trans (HB2.out.mono (by have h2 := HN0.out; have h3 := HKS.out.2; omega))).trans hk3, by have h1 := HB2.out.size; have h2 := hk3.size; have h3 := HKS.out.2; omega⟩
   clear hJ3 hk3 HR hy
   gi_wp2_with fail
   exact ⟨⟨k + 1, _, by omega, by go_num, HT3, HJ3, HK3⟩, by simp [intOf]; omega⟩
  ·
   have hkk : k = q := by omega
   have HKK := Lib.hid hkk
   have hge : ¬ (k : Int) < (q : Int) := by omega
   clear hkk
   gi_wp2_with fail
   go_end0
   refine ⟨⟨_, rfl⟩, ts, ?_, HJS.out⟩
   have h1 := HTS.out
   rw [HKK.out, List.take_of_length_le (by rw [HQ.out]; exact Nat.le_refl _)] at h1
   exact h1
end Sg
end Go.Proofs.YtcgffkkfeimifaaGreatDoor
