import Derived.Test.YtcgffkkfeimifaaGreatDoorRvQ
import Derived.Test.YtcgffkkfeimifaaGreatDoorOcRLQ
import Derived.Test.YtcgffkkfeimifaaGreatDoorSgQ
import Derived.Test.YtcgffkkfeimifaaGreatDoorRvE
import Derived.Deep.RegionHeld3
namespace Go.Proofs.YtcgffkkfeimifaaGreatDoor
namespace Sg
open Go.RowKit Sha Oc
set_option linter.unusedVariables false
set_option linter.unusedSimpArgs false
end Sg
end Go.Proofs.YtcgffkkfeimifaaGreatDoor
namespace Go.Proofs.YtcgffkkfeimifaaGreatDoor
namespace Sg
open Go.RowKit Sha Oc
set_option linter.unusedVariables false
set_option linter.unusedSimpArgs false
end Sg
end Go.Proofs.YtcgffkkfeimifaaGreatDoor
namespace Go.Proofs.YtcgffkkfeimifaaGreatDoor
namespace Sg
open Go.RowKit Sha Oc
set_option linter.unusedVariables false
set_option linter.unusedSimpArgs false
end Sg
end Go.Proofs.YtcgffkkfeimifaaGreatDoor
namespace Go.Proofs.YtcgffkkfeimifaaGreatDoor
namespace Sg
open Go.RowKit Sha Oc
set_option linter.unusedVariables false
set_option linter.unusedSimpArgs false
set_option maxRecDepth 100000 in
set_option maxHeartbeats 4000000 in
theorem numref_own (tg : UInt8) (x : Nat) (hx : x < 256 ^ 8) (w : World) : Calls Tryz.prog 86 #[.int .u8 (tg.toNat : Int), .int .u64 (x : Int)] w (NoPost (.mk tg (nb x) []) w) := by
 go_enter Tryz.func86, Tryz.ntmps86
 go_upto_region 1 with (fail)
 obtain ⟨V, hV, hb0, hr0⟩ : ∃ V, World.alloc w (.cells #[.int .u8 0, .slice none 0 0, .slice none 0 0] 68) = V ∧ Below w.heap.size w V ∧ V.heap[w.heap.size]? = some (.cells #[.int .u8 0, .slice none 0 0, .slice none 0 0] 68 (0, 0)) := ⟨_, rfl, below_new w _, heap_alloc_new w _⟩
 rw [hV]
 clear hV
 have HB0 := Lib.hid hb0
 have HR0 := Lib.hid hr0
 have hle0 : w.heap.size ≤ V.heap.size := hb0.size
 clear hb0 hr0
 have hcall := bytes_ref 8 x hx (Nat.le_refl _) V
 unfold NbPost at hcall
 have HC := Lib.hid hcall
 clear hcall
 go_wp2_with fail
 refine (HC.out).mono ?_
 rintro e W ⟨v, rfl, hown, hb1⟩
 have hlen := Oc.nb_len 8 x hx
 have hown2 := hown
 obtain ⟨A, c, rfl, hc, hcn, hs, _⟩ := own_rd3 hown
 have hw := own_ref hown2 rfl
 have HB1 := Lib.hid (chain HB0.out hb1)
 have HR1 := Lib.hid (row_on HR0.out hb1)
 have HS := Lib.hid (And.intro hs (fun ga oa e => show ga ≠ w.heap.size by have h1 := (hw ga oa e).1; have h2 := (Array.getElem?_eq_some_iff.1 HR0.out).1; omega))
 have HWR := Lib.hid hw
 have HCC := Lib.hid hc
 have HCN := Lib.hid hcn
 have HL := Lib.hid (show (nb x).length ≤ 140737488355328 by omega)
 clear hown hown2 hlen hb1 hc hcn hs hw
 have hlt := (Array.getElem?_eq_some_iff.1 HR1.out).1
 obtain ⟨⟨hf0, hf1, hf2⟩, hd0, hd1, hd2⟩ := facts3 HR1.out
 go_wp2_with fail
 have e9 : ∀ a b c : Value, ((W.setCell ⟨w.heap.size, 0, none⟩ a).setCell ⟨w.heap.size, 1, none⟩ b).setCell ⟨w.heap.size, 2, none⟩ c = W.setCells w.heap.size 0 [a, b, c] := fun _ _ _ => rfl
 rw [e9]
 refine bodyPost_ret (v := .agg #[.int .u8 (tg.toNat : Int), .slice A (nb x).length c, .slice none 0 0]) (results_cell_row rfl _ _ w.heap.size 68 _ (0, 0) _ rfl (row_setCells8 HR1.out rfl) Tryz.underlying68 rfl (sz3o _ _ _)) rfl ⟨_, _, _, rfl, ?_, below_setCells8 _ _ _ HB1.out (Nat.le_refl _)⟩
 refine at_leaf tg HCC.out HL.out HCN.out (srcAt_set HS.out.1 HS.out.2 0 _) (fun ga oa e => ⟨by have := (HWR.out ga oa e).1; omega, ?_⟩)
 obtain ⟨cs, h3⟩ := (HWR.out ga oa e).2
 exact ⟨cs, (heap_setCells_other _ _ _ (HS.out.2 ga oa e)).trans h3⟩
theorem sz3ol (c : List Value) (h : c.length = 3) : (Tryz.prog.info? 68).map (·.size) = some c.length := by
 rw [h]
 kernel_rfl
set_option maxRecDepth 100000 in
set_option maxHeartbeats 8000000 in
theorem value_ref (l : Rl) (p : Mp) (hf : Fit l) (w : World) (h : Nums p.SA l.ser w) :
  Calls Tryz.prog 47 #[.agg (rlC l p)] w (SnPost (rbv (rbOf l)) w) := by
 have hiss := hf.iss
 have hnum := hf.num
 have hfr := hf.fr
 have htt := hf.tt
 have hlen := hf.len
 have hser := hf.ser
 have hfits := fits_of hf
 have hp8 : (256 : Nat) ^ 8 = 18446744073709551616 := by decide
 have hst := fun (V : World) => str_ref 1 l.iss (by omega) V
 have hn2 := fun (V : World) => num_ref 2 l.num.toNat (by omega) V
 have hn3 := fun (V : World) => num_ref 3 l.fr.toNat (by omega) V
 have hn4 := fun (V : World) => num_ref 4 l.tt.toNat (by omega) V
 have e2 : ((l.num.toNat : Nat) : Int) = l.num := by omega
 have e3 : ((l.fr.toNat : Nat) : Int) = l.fr := by omega
 have e4 : ((l.tt.toNat : Nat) : Int) = l.tt := by omega
 rw [e2] at hn2
 rw [e3] at hn3
 rw [e4] at hn4
 have hn5 : ∀ (k : Nat) (x : Int), l.ser[k]? = some x → ∀ V, Calls Tryz.prog 86 #[.int .u8 5, .int .u64 x] V (NoPost (n5 x.toNat) V) := fun k x hx V => by
  have hx2 := hser x (List.mem_of_getElem? hx)
  have e : ((x.toNat : Nat) : Int) = x := by omega
  have h := numref_own 5 x.toNat (by omega) V
  rw [e] at h
  exact h
 have hw3 : IntKind.u64.wrap l.fr = l.fr := by
  simp [IntKind.wrap, IntKind.bits, IntKind.signed]
  omega
 have hw4 : IntKind.u64.wrap l.tt = l.tt := by
  simp [IntKind.wrap, IntKind.bits, IntKind.signed]
  omega
 have HTOT : RowKit.Hid (∀ o ∈ [Oc.str 1 l.iss.data.toList, Oc.num 2 l.num.toNat, Oc.num 3 l.fr.toNat, Oc.num 4 l.tt.toNat, Oc.seq 129 ((l.ser.map Int.toNat).map n5)], cnt o ≤ 5000 ∧ tot o ≤ 100000) := Lib.hid (fun o ho => by
  have a1 := val_small (fit_ck hf).2.2.1
  have a2 : cnts [Oc.str 1 l.iss.data.toList, Oc.num 2 l.num.toNat, Oc.num 3 l.fr.toNat, Oc.num 4 l.tt.toNat, Oc.seq 129 ((l.ser.map Int.toNat).map n5)] + 1 = cnt (rbv (rbOf l)) := by unfold rbv Oc.seq; rw [cnt]; unfold rbOf; dsimp only; omega
  have a3 : tots [Oc.str 1 l.iss.data.toList, Oc.num 2 l.num.toNat, Oc.num 3 l.fr.toNat, Oc.num 4 l.tt.toNat, Oc.seq 129 ((l.ser.map Int.toNat).map n5)] + 0 = tot (rbv (rbOf l)) := by unfold rbv Oc.seq; rw [tot, List.length_nil]; unfold rbOf; dsimp only; omega
  have a4 := cnt_le _ _ ho
  have a5 := tot_le _ _ ho
  have a6 := cnt_enc (rbv (rbOf l))
  have a7 := (fit_ck hf).2.2.1
  omega)
 have hV0 : rbv (rbOf l) = .mk 134 [] [Oc.str 1 l.iss.data.toList, Oc.num 2 l.num.toNat, Oc.num 3 l.fr.toNat, Oc.num 4 l.tt.toNat, Oc.seq 129 ((l.ser.map Int.toNat).map n5)] := rfl
 rw [hV0]
 have hm5 : (l.ser.map Int.toNat).map n5 = l.ser.map (fun x => n5 x.toNat) := by rw [List.map_map]; rfl
 rw [hm5] at HTOT ⊢
 obtain ⟨iss, hi⟩ : ∃ q, l.iss = q := ⟨_, rfl⟩
 obtain ⟨num, hnu⟩ : ∃ q, l.num = q := ⟨_, rfl⟩
 obtain ⟨fr, hfq⟩ : ∃ q, l.fr = q := ⟨_, rfl⟩
 obtain ⟨tt, htq⟩ : ∃ q, l.tt = q := ⟨_, rfl⟩
 obtain ⟨xs, hxq⟩ : ∃ q, l.ser = q := ⟨_, rfl⟩
 obtain ⟨SA, hSA⟩ : ∃ q, p.SA = q := ⟨_, rfl⟩
 obtain ⟨sc, hsc⟩ : ∃ q, p.sc = q := ⟨_, rfl⟩
 unfold rlC
 rw [hi] at hst HTOT ⊢
 rw [hnu] at hn2 HTOT ⊢
 rw [hfq] at hn3 hw3 HTOT ⊢
 rw [htq] at hn4 hw4 HTOT ⊢
 rw [hxq] at hn5 h hlen HTOT ⊢
 rw [hSA] at h ⊢
 rw [hsc]
 rw [hfq] at hfr
 rw [htq] at htt
 obtain ⟨c5, h5⟩ : ∃ c : Value, .int .i64 l.sg.idx = c := ⟨_, rfl⟩
 obtain ⟨c6, h6⟩ : ∃ c : Value, .slice p.CA l.sg.cs.length p.cc = c := ⟨_, rfl⟩
 obtain ⟨c7, h7⟩ : ∃ c : Value, .slice p.PA l.sg.ps.length p.pc = c := ⟨_, rfl⟩
 rw [h5, h6, h7]
 obtain ⟨n, hn⟩ : ∃ n, xs.length = n := ⟨_, rfl⟩
 rw [hn] at hlen ⊢
 obtain ⟨o1, ho1⟩ : ∃ o, Oc.str 1 iss.data.toList = o := ⟨_, rfl⟩
 obtain ⟨o2, ho2⟩ : ∃ o, Oc.num 2 num.toNat = o := ⟨_, rfl⟩
 obtain ⟨o3, ho3⟩ : ∃ o, Oc.num 3 fr.toNat = o := ⟨_, rfl⟩
 obtain ⟨o4, ho4⟩ : ∃ o, Oc.num 4 tt.toNat = o := ⟨_, rfl⟩
 obtain ⟨o5, ho5⟩ : ∃ o, Oc.seq 129 (xs.map (fun x => n5 x.toNat)) = o := ⟨_, rfl⟩
 rw [ho1, ho2, ho3, ho4, ho5] at HTOT
 rw [ho1, ho2, ho3, ho4, ho5]
 have HST : RowKit.Hid (∀ V, Calls Tryz.prog 88 #[.int .u8 1, .string iss] V (SnPost o1 V)) := Lib.hid (fun V => by rw [← ho1]; exact hst V)
 have HN2 : RowKit.Hid (∀ V, Calls Tryz.prog 86 #[.int .u8 2, .int .u64 num] V (SnPost o2 V)) := Lib.hid (fun V => by rw [← ho2]; exact hn2 V)
 have HN3 : RowKit.Hid (∀ V, Calls Tryz.prog 86 #[.int .u8 3, .int .u64 fr] V (SnPost o3 V)) := Lib.hid (fun V => by rw [← ho3]; exact hn3 V)
 have HN4 : RowKit.Hid (∀ V, Calls Tryz.prog 86 #[.int .u8 4, .int .u64 tt] V (SnPost o4 V)) := Lib.hid (fun V => by rw [← ho4]; exact hn4 V)
 have HT5 : RowKit.Hid (((tagO o5).toNat : Int) = 129) := Lib.hid (by rw [← ho5]; rfl)
 have HO5 := Lib.hid ho5
 have HN5 := Lib.hid hn5
 have HNS := Lib.hid h
 have HN := Lib.hid hn
 have HL := Lib.hid (show n ≤ 100000 by omega)
 clear hst hn2 hn3 hn4 hn5 hV0 hm5 hi hnu hfq htq hxq hSA hsc h5 h6 h7 hn ho1 ho2 ho3 ho4 ho5 h hf hfits hiss hnum hlen hser e2 e3 e4 hp8 l p
 obtain ⟨hw0, hra, hrb⟩ := two_rows w (.cells #[Value.string iss, .int .u64 num, .int .i64 fr, .int .i64 tt, .slice SA n sc, c5, c6, c7] 32) (.cells #[.int .u8 0, .slice none 0 0, .slice none 0 0] 68)
 have HXR := Lib.hid hra
 have HRR := Lib.hid hrb
 have HWU := Lib.hid hw0
 clear hw0 hra hrb
 go_enter Tryz.func47, Tryz.ntmps47
 go_upto_region 1 with (fail)
 generalize World.alloc (World.alloc w _) _ = W0 at HXR HRR HWU ⊢
 go_upto_region 2 with (fail)
 obtain ⟨SB, hSB⟩ : ∃ SB, W0.heap.size = SB := ⟨_, rfl⟩
 have hr9 := heap_alloc_new W0 (.cells #[.int .u8 129, .slice none 0 0, .slice none 0 0] 68)
 have HSB0 := Lib.hid (show W0.heap.size ≤ SB by omega)
 have HSBN := Lib.hid (show w.heap.size + 2 ≤ SB by have := (Array.getElem?_eq_some_iff.1 HRR.out).1; omega)
 have HB9 := Lib.hid (below_new W0 (.cells #[.int .u8 129, .slice none 0 0, .slice none 0 0] 68))
 rw [hSB] at hr9 ⊢
 generalize World.alloc W0 _ = wc at hr9 HB9 ⊢
 have HW01 : RowKit.Hid (W0.heap.size ≤ wc.heap.size) := Lib.hid HB9.out.size
 have HTX : RowKit.Hid (TX wc SB (.int .u8 129) (.slice none 0 0) [] none 0 0 wc) := Lib.hid ⟨rfl, rfl, rfl, Nat.le_refl _, fun _ _ _ => rfl, (Array.getElem?_eq_some_iff.1 hr9).1, hr9, mk_none _ _⟩
 clear hr9 hSB
 go_wp2_with fail
 go_loopw [4] (fun i wr => ∃ (k : Nat) (ts : List (Oct × Value × Value)) (PB : Option Addr) (pd : Nat), k ≤ n ∧ i = .int .i64 (k : Int) ∧ RowKit.Hid (ts.map (·.1) = (xs.take k).map (fun x => n5 x.toNat)) ∧ RowKit.Hid (TX wc SB (.int .u8 129) (.slice none 0 0) ts PB pd k wr)) (fun i _ => n - (intOf i).toNat)
 case atStart => exact ⟨0, [], none, 0, by omega, rfl, Lib.hid (by simp), HTX⟩
 case round =>
  clear HTX
  obtain ⟨k, ts, PB, pd, hk, rfl, HM, HTX⟩ := hrel
  have HBR : RowKit.Hid (Below W0.heap.size W0 wr) := Lib.hid (HTX.out.below HB9.out HW01.out HSB0.out)
  obtain ⟨hlx, r0, r1, r2, r3, r4, r5, r6, r7⟩ := facts8 (row_on HXR.out HBR.out)
  by_cases hlt : k < n
  ·
   have hki : (k : Int) < (n : Int) := by omega
   obtain ⟨x, hx⟩ : ∃ x, xs[k]? = some x := ⟨_, List.getElem?_eq_getElem (by rw [HN.out]; exact hlt)⟩
   obtain ⟨g, off, rfl, hcx⟩ := HNS.out.row k x hx
   have HCALL := Lib.hid (fun V => HN5.out k x hx V)
   unfold NoPost at HCALL
   have HTK : RowKit.Hid ((xs.take (k + 1)).map (fun x => n5 x.toNat) = (xs.take k).map (fun x => n5 x.toNat) ++ [n5 x.toNat]) := Lib.hid (by rw [List.take_add_one, hx, List.map_append]; rfl)
   have HLT := Lib.hid hlt
   have hbwr : Below w.heap.size w wr := chain HWU.out HBR.out
   have HCX := Lib.hid hcx
   have mkS : ∀ z, Below W0.heap.size W0 z → (fun (z : World) => z.cell? ⟨w.heap.size, 4, none⟩ = some (.slice (some ⟨g, off, none⟩) n sc) ∧ z.cell? ⟨g, off + k, none⟩ = some (.int .u64 x)) z := fun z hz => ⟨cell_of_row _ _ _ _ _ _ (row_on HXR.out hz), by
    rw [(chain HWU.out hz).cell (p := ⟨g, off + k, none⟩) (World.block_lt_of_cell? _ _ HCX.out)]
    exact HCX.out⟩
   clear hx hcx hbwr
   go_upto_region 5 with (fail)
   obtain ⟨U, hU⟩ : ∃ U, wr.drew = U := ⟨_, rfl⟩
   have hbU : Below wr.heap.size wr U := by rw [← hU]; exact (Below.refl _ _).drew
   have HSU := Lib.hid (HTX.out.on hbU)
   have HBU := Lib.hid (chain HBR.out hbU)
   have hS0 : (fun (z : World) => z.cell? ⟨w.heap.size, 4, none⟩ = some (.slice (some ⟨g, off, none⟩) n sc) ∧ z.cell? ⟨g, off + k, none⟩ = some (.int .u64 x)) wr.drew := by rw [hU]; exact mkS _ HBU.out
   clear hbU HTX hlx r0 r1 r2 r3 r4 r5 r6 r7
   refine wp_region_held_drew (S := fun (z : World) => z.cell? ⟨w.heap.size, 4, none⟩ = some (.slice (some ⟨g, off, none⟩) n sc) ∧ z.cell? ⟨g, off + k, none⟩ = some (.int .u64 x)) (by kernel_rfl) hS0 (fun hHeld => ?_)
   rw [hU] at hHeld ⊢
   clear hS0 hU
   refine wpAnyH_take (i := 0) (oi := { dst := some 13, op := .fieldAddr 68 (.tmp 3) 2, type := 0, pos := "ref.go:44", after := #[], guard := none }) (v := ?_) rfl (by kernel_rfl) (by kernel_rfl) (by kernel_rfl) (fun _ _ _ h => h) (Or.inl ⟨by rfl, ?_⟩) hHeld ?_
   rotate_left
   ·
    intro w hSw
    clear hSw
    go_simp
    try with_reducible rfl
   try simp only [Act.put, List.setIfInBounds_toArray, List.set_cons_zero, List.set_cons_succ]
   refine wpAnyH_take (i := 2) (oi := { dst := some 15, op := .fieldAddr 32 (.tmp 1) 3, type := 0, pos := "ref.go:44", after := #[], guard := none }) (v := ?_) rfl (by kernel_rfl) (by kernel_rfl) (by kernel_rfl) (fun _ _ _ h => h) (Or.inl ⟨by rfl, ?_⟩) hHeld ?_
   rotate_left
   ·
    intro w hSw
    clear hSw
    go_simp
    try with_reducible rfl
   try simp only [Act.put, List.setIfInBounds_toArray, List.set_cons_zero, List.set_cons_succ]
   refine wpAnyH_take (i := 3) (oi := { dst := some 16, op := .load 22 (.tmp 15), type := 22, pos := "ref.go:44", after := #[{ on := 2, ground := .data }], guard := none }) (v := ?_) rfl (by kernel_rfl) (by kernel_rfl) (by kernel_rfl) (fun _ _ _ h => h) (Or.inl ⟨by rfl, ?_⟩) hHeld ?_
   rotate_left
   ·
    intro w hSw
    have hfc0 := hSw.1
    clear hSw
    go_simp
    try with_reducible rfl
   try simp only [Act.put, List.setIfInBounds_toArray, List.set_cons_zero, List.set_cons_succ]
   refine wpAnyH_take (i := 4) (oi := { dst := some 17, op := .move (.tmp 4), type := 3, pos := "ref.go:44", after := #[], guard := none }) (v := ?_) rfl (by kernel_rfl) (by kernel_rfl) (by kernel_rfl) (fun _ _ _ h => h) (Or.inl ⟨by rfl, ?_⟩) hHeld ?_
   rotate_left
   ·
    intro w hSw
    clear hSw
    go_simp
    try with_reducible rfl
   try simp only [Act.put, List.setIfInBounds_toArray, List.set_cons_zero, List.set_cons_succ]
   refine wpAnyH_take (i := 5) (oi := { dst := some 18, op := .indexAddr 22 (.tmp 16) (.tmp 17), type := 0, pos := "ref.go:44", after := #[{ on := 3, ground := .data }, { on := 4, ground := .data }], guard := none }) (v := ?_) rfl (by kernel_rfl) (by kernel_rfl) (by kernel_rfl) (fun _ _ _ h => h) (Or.inl ⟨by rfl, ?_⟩) hHeld ?_
   rotate_left
   ·
    intro w hSw
    clear hSw
    go_simp
    try with_reducible rfl
   try simp only [Act.put, List.setIfInBounds_toArray, List.set_cons_zero, List.set_cons_succ]
   refine wpAnyH_take (i := 6) (oi := { dst := some 19, op := .load 23 (.tmp 18), type := 23, pos := "ref.go:44", after := #[{ on := 5, ground := .data }], guard := none }) (v := ?_) rfl (by kernel_rfl) (by kernel_rfl) (by kernel_rfl) (fun _ _ _ h => h) (Or.inl ⟨by rfl, ?_⟩) hHeld ?_
   rotate_left
   ·
    intro w hSw
    have hfc0 := hSw.2
    clear hSw
    go_simp
    try with_reducible rfl
   try simp only [Act.put, List.setIfInBounds_toArray, List.set_cons_zero, List.set_cons_succ]
   refine wpAnyH_ready (rs := [1, 7]) (by kernel_rfl) (by simp) (AllReadyH.cons (o := { dst := some 14, op := .load 66 (.tmp 13), type := 66, pos := "ref.go:44", after := #[{ on := 0, ground := .data }], guard := none }) rfl (fun K hK => ?_) (AllReadyH.cons (o := { dst := some 20, op := .call { callee := .value (.func 86), args := #[.const (.int .u8 5), .tmp 19], argTypes := #[5, 23] }, type := 68, pos := "ref.go:44", after := #[{ on := 6, ground := .data }], guard := none }) rfl (fun K hK => ?_) AllReadyH.nil))
   ·
    have hq2 := (facts3 (row_on HSU.out.rg (Below.refl _ _))).2.2.2
    go_simp
    clear hq2
    refine hK.out _ _ (mkS _ (chain HBU.out (Below.refl _ _))) (fun hHeld2 => ?_)
    clear hK K hHeld
    have hHeld := hHeld2
    clear hHeld2
    try simp only [Act.put, List.setIfInBounds_toArray, List.set_cons_zero, List.set_cons_succ]
    refine wpAnyH_ready (rs := [7]) (by kernel_rfl) (by simp) (AllReadyH.cons (o := { dst := some 20, op := .call { callee := .value (.func 86), args := #[.const (.int .u8 5), .tmp 19], argTypes := #[5, 23] }, type := 68, pos := "ref.go:44", after := #[{ on := 6, ground := .data }], guard := none }) rfl (fun K hK => ?_) AllReadyH.nil)
    go_simp
    refine (HCALL.out _).mono ?_
    rintro e z5 ⟨A2, m2, c2, rfl, hat2, b5⟩
    have HAT := Lib.hid (show At (Rw U.heap.size z5) z5 (n5 x.toNat) (.slice A2 m2 c2) (.slice none 0 0) from hat2.to fun g p u hu hR => ⟨hu, hR.rw⟩)
    have HONE := Lib.hid (oct_one HAT.out)
    clear hat2
    go_simp
    refine hK.out _ _ (mkS _ (chain HBU.out b5)) (fun hHeld2 => ?_)
    clear hK K hHeld
    have hHeld := hHeld2
    clear hHeld2
    try simp only [Act.put, List.setIfInBounds_toArray, List.set_cons_zero, List.set_cons_succ]
    refine wpAnyH_ready (rs := [8]) (by kernel_rfl) (by simp) (AllReadyH.cons (o := { dst := some 21, op := .buildSlice 66 1 #[(0, .tmp 20)], type := 66, pos := "ref.go:44", after := #[{ on := 7, ground := .data }], guard := none }) rfl (fun K hK => ?_) AllReadyH.nil)
    go_simp
    generalize hq : World.alloc z5 _ = z6
    have r6 : z6 = z5.alloc (.cells #[.int .u8 ((tagO (n5 x.toNat)).toNat : Int), .slice A2 m2 c2, .slice none 0 0] 68) := hq.symm
    have n6 : Below z5.heap.size z5 z6 := by rw [r6]; exact below_new _ _
    have b6 : Below U.heap.size U z6 := chain b5 n6
    have q6 : ∀ j u, ([.int .u8 ((tagO (n5 x.toNat)).toNat : Int), .slice A2 m2 c2, .slice none 0 0] : List Value)[j]? = some u → z6.cell? ((⟨z5.heap.size, 0, none⟩ : Addr).add j) = some u := by rw [r6]; exact cell_three_new _ _ _ _ _
    clear hq r6
    refine hK.out _ _ (mkS _ (chain HBU.out b6)) (fun hHeld2 => ?_)
    clear hK K hHeld
    have hHeld := hHeld2
    clear hHeld2
    try simp only [Act.put, List.setIfInBounds_toArray, List.set_cons_zero, List.set_cons_succ]
    refine wpAnyH_ready (rs := [9]) (by kernel_rfl) (by simp) (AllReadyH.cons (o := { dst := some 22, op := .call { callee := .builtin .append, args := #[.tmp 14, .tmp 21], argTypes := #[66, 66] }, type := 66, pos := "ref.go:44", after := #[{ on := 1, ground := .data }, { on := 8, ground := .data }, { on := 7, ground := .chain }], guard := none }) rfl (fun K hK => ?_) AllReadyH.nil)
    try rw [if_pos (by rfl)]
    have hmk := HSU.out.lm.on b6
    refine wp_append_own_at8 (.tmp 14) (.tmp 21) rfl wc.heap.size _ _ _ rfl hmk.own ⟨z5.heap.size, 0, none⟩ 1 1 [.int .u8 ((tagO (n5 x.toNat)).toNat : Int), .slice A2 m2 c2, .slice none 0 0] rfl rfl q6 HONE.out (by have := HLT.out; have := HL.out; omega) (by have h1 := HSU.out.sz; have h2 := b6.size; omega) ?_
    intro v7 z7 o7 g7 l7
    have hput := HSU.out.lm.put b6 HSU.out.sz (HAT.out.own n6 (Nat.le_refl _)) o7 g7 l7
    obtain ⟨A7, c7, rfl⟩ := own_sliceO o7
    have hlo := HSU.out.lm.own.lt
    have HS7 := Lib.hid (HSU.out.step b6 g7 (fun j hj => (hlo j hj).1) hput)
    have b7 : Below W0.heap.size W0 z7 := (chain HBU.out b6).grown g7 (chain HBU.out b6).size (fun j hj => by have h1 := (hlo j hj).1; have h2 := HW01.out; omega)
    clear g7 o7 l7 hput hlo hmk
    refine hK.out _ _ (mkS _ b7) (fun hHeld2 => ?_)
    clear hK K hHeld
    have hHeld := hHeld2
    clear hHeld2
    try simp only [Act.put, List.setIfInBounds_toArray, List.set_cons_zero, List.set_cons_succ]
    refine wpAnyH_take (i := 10) (oi := { dst := some 23, op := .fieldAddr 68 (.tmp 3) 2, type := 0, pos := "ref.go:44", after := #[{ on := 0, ground := .phase }, { on := 1, ground := .phase }, { on := 2, ground := .phase }, { on := 3, ground := .phase }, { on := 4, ground := .phase }, { on := 5, ground := .phase }, { on := 6, ground := .phase }, { on := 7, ground := .phase }, { on := 8, ground := .phase }, { on := 9, ground := .phase }], guard := none }) (v := ?_) rfl (by kernel_rfl) (by kernel_rfl) (by kernel_rfl) (fun _ _ _ h => h) (Or.inl ⟨by rfl, ?_⟩) hHeld ?_
    rotate_left
    ·
     intro w hSw
     clear hSw
     go_simp
     try with_reducible rfl
    try simp only [Act.put, List.setIfInBounds_toArray, List.set_cons_zero, List.set_cons_succ]
    refine wpAnyH_ready (rs := [11]) (by kernel_rfl) (by simp) (AllReadyH.cons (o := { dst := none, op := .store 66 (.tmp 23) (.tmp 22), type := 0, pos := "ref.go:44", after := #[{ on := 10, ground := .data }, { on := 9, ground := .data }, { on := 9, ground := .chain }, { on := 0, ground := .phase }, { on := 1, ground := .phase }, { on := 2, ground := .phase }, { on := 3, ground := .phase }, { on := 4, ground := .phase }, { on := 5, ground := .phase }, { on := 6, ground := .phase }, { on := 7, ground := .phase }, { on := 8, ground := .phase }, { on := 9, ground := .phase }], guard := none }) rfl (fun K hK => ?_) AllReadyH.nil)
    obtain ⟨⟨_, _, hf7⟩, _, _, hc7⟩ := facts3 HS7.out.1
    have hl7 := (Array.getElem?_eq_some_iff.1 HS7.out.1).1
    go_simp
    clear hf7 hc7 hl7
    have HS9 := Lib.hid HS7.out.2
    refine hK.out _ _ (mkS _ (b7.setCell HSB0.out _)) (fun hHeld2 => ?_)
    clear hK K hHeld hHeld2
    try simp only [Act.put, List.setIfInBounds_toArray, List.set_cons_zero, List.set_cons_succ]
    refine wpAnyH_done (by kernel_rfl) ?_ _
    generalize World.setCell _ _ _ = z9 at HS9 ⊢
    clear mkS
    have hn5 := HL.out
    go_wp2_with fail
    exact ⟨⟨k + 1, _, _, _, by have := HLT.out; omega, by go_num, Lib.hid (by rw [List.map_append, HM.out, HTK.out]; rfl), HS9⟩, by have := HLT.out; simp [intOf]; omega⟩
   ·
    go_simp
    refine (HCALL.out _).mono ?_
    rintro e z5 ⟨A2, m2, c2, rfl, hat2, b5⟩
    have HAT := Lib.hid (show At (Rw U.heap.size z5) z5 (n5 x.toNat) (.slice A2 m2 c2) (.slice none 0 0) from hat2.to fun g p u hu hR => ⟨hu, hR.rw⟩)
    have HONE := Lib.hid (oct_one HAT.out)
    clear hat2
    go_simp
    refine hK.out _ _ (mkS _ (chain HBU.out b5)) (fun hHeld2 => ?_)
    clear hK K hHeld
    have hHeld := hHeld2
    clear hHeld2
    try simp only [Act.put, List.setIfInBounds_toArray, List.set_cons_zero, List.set_cons_succ]
    refine wpAnyH_ready (rs := [1, 8]) (by kernel_rfl) (by simp) (AllReadyH.cons (o := { dst := some 14, op := .load 66 (.tmp 13), type := 66, pos := "ref.go:44", after := #[{ on := 0, ground := .data }], guard := none }) rfl (fun K hK => ?_) (AllReadyH.cons (o := { dst := some 21, op := .buildSlice 66 1 #[(0, .tmp 20)], type := 66, pos := "ref.go:44", after := #[{ on := 7, ground := .data }], guard := none }) rfl (fun K hK => ?_) AllReadyH.nil))
    ·
     have hq2 := (facts3 (row_on HSU.out.rg b5)).2.2.2
     go_simp
     clear hq2
     refine hK.out _ _ (mkS _ (chain HBU.out b5)) (fun hHeld2 => ?_)
     clear hK K hHeld
     have hHeld := hHeld2
     clear hHeld2
     try simp only [Act.put, List.setIfInBounds_toArray, List.set_cons_zero, List.set_cons_succ]
     refine wpAnyH_ready (rs := [8]) (by kernel_rfl) (by simp) (AllReadyH.cons (o := { dst := some 21, op := .buildSlice 66 1 #[(0, .tmp 20)], type := 66, pos := "ref.go:44", after := #[{ on := 7, ground := .data }], guard := none }) rfl (fun K hK => ?_) AllReadyH.nil)
     go_simp
     generalize hq : World.alloc z5 _ = z6
     have r6 : z6 = z5.alloc (.cells #[.int .u8 ((tagO (n5 x.toNat)).toNat : Int), .slice A2 m2 c2, .slice none 0 0] 68) := hq.symm
     have n6 : Below z5.heap.size z5 z6 := by rw [r6]; exact below_new _ _
     have b6 : Below U.heap.size U z6 := chain b5 n6
     have q6 : ∀ j u, ([.int .u8 ((tagO (n5 x.toNat)).toNat : Int), .slice A2 m2 c2, .slice none 0 0] : List Value)[j]? = some u → z6.cell? ((⟨z5.heap.size, 0, none⟩ : Addr).add j) = some u := by rw [r6]; exact cell_three_new _ _ _ _ _
     clear hq r6
     refine hK.out _ _ (mkS _ (chain HBU.out b6)) (fun hHeld2 => ?_)
     clear hK K hHeld
     have hHeld := hHeld2
     clear hHeld2
     try simp only [Act.put, List.setIfInBounds_toArray, List.set_cons_zero, List.set_cons_succ]
     refine wpAnyH_ready (rs := [9]) (by kernel_rfl) (by simp) (AllReadyH.cons (o := { dst := some 22, op := .call { callee := .builtin .append, args := #[.tmp 14, .tmp 21], argTypes := #[66, 66] }, type := 66, pos := "ref.go:44", after := #[{ on := 1, ground := .data }, { on := 8, ground := .data }, { on := 7, ground := .chain }], guard := none }) rfl (fun K hK => ?_) AllReadyH.nil)
     try rw [if_pos (by rfl)]
     have hmk := HSU.out.lm.on b6
     refine wp_append_own_at8 (.tmp 14) (.tmp 21) rfl wc.heap.size _ _ _ rfl hmk.own ⟨z5.heap.size, 0, none⟩ 1 1 [.int .u8 ((tagO (n5 x.toNat)).toNat : Int), .slice A2 m2 c2, .slice none 0 0] rfl rfl q6 HONE.out (by have := HLT.out; have := HL.out; omega) (by have h1 := HSU.out.sz; have h2 := b6.size; omega) ?_
     intro v7 z7 o7 g7 l7
     have hput := HSU.out.lm.put b6 HSU.out.sz (HAT.out.own n6 (Nat.le_refl _)) o7 g7 l7
     obtain ⟨A7, c7, rfl⟩ := own_sliceO o7
     have hlo := HSU.out.lm.own.lt
     have HS7 := Lib.hid (HSU.out.step b6 g7 (fun j hj => (hlo j hj).1) hput)
     have b7 : Below W0.heap.size W0 z7 := (chain HBU.out b6).grown g7 (chain HBU.out b6).size (fun j hj => by have h1 := (hlo j hj).1; have h2 := HW01.out; omega)
     clear g7 o7 l7 hput hlo hmk
     refine hK.out _ _ (mkS _ b7) (fun hHeld2 => ?_)
     clear hK K hHeld
     have hHeld := hHeld2
     clear hHeld2
     try simp only [Act.put, List.setIfInBounds_toArray, List.set_cons_zero, List.set_cons_succ]
     refine wpAnyH_take (i := 10) (oi := { dst := some 23, op := .fieldAddr 68 (.tmp 3) 2, type := 0, pos := "ref.go:44", after := #[{ on := 0, ground := .phase }, { on := 1, ground := .phase }, { on := 2, ground := .phase }, { on := 3, ground := .phase }, { on := 4, ground := .phase }, { on := 5, ground := .phase }, { on := 6, ground := .phase }, { on := 7, ground := .phase }, { on := 8, ground := .phase }, { on := 9, ground := .phase }], guard := none }) (v := ?_) rfl (by kernel_rfl) (by kernel_rfl) (by kernel_rfl) (fun _ _ _ h => h) (Or.inl ⟨by rfl, ?_⟩) hHeld ?_
     rotate_left
     ·
      intro w hSw
      clear hSw
      go_simp
      try with_reducible rfl
     try simp only [Act.put, List.setIfInBounds_toArray, List.set_cons_zero, List.set_cons_succ]
     refine wpAnyH_ready (rs := [11]) (by kernel_rfl) (by simp) (AllReadyH.cons (o := { dst := none, op := .store 66 (.tmp 23) (.tmp 22), type := 0, pos := "ref.go:44", after := #[{ on := 10, ground := .data }, { on := 9, ground := .data }, { on := 9, ground := .chain }, { on := 0, ground := .phase }, { on := 1, ground := .phase }, { on := 2, ground := .phase }, { on := 3, ground := .phase }, { on := 4, ground := .phase }, { on := 5, ground := .phase }, { on := 6, ground := .phase }, { on := 7, ground := .phase }, { on := 8, ground := .phase }, { on := 9, ground := .phase }], guard := none }) rfl (fun K hK => ?_) AllReadyH.nil)
     obtain ⟨⟨_, _, hf7⟩, _, _, hc7⟩ := facts3 HS7.out.1
     have hl7 := (Array.getElem?_eq_some_iff.1 HS7.out.1).1
     go_simp
     clear hf7 hc7 hl7
     have HS9 := Lib.hid HS7.out.2
     refine hK.out _ _ (mkS _ (b7.setCell HSB0.out _)) (fun hHeld2 => ?_)
     clear hK K hHeld hHeld2
     try simp only [Act.put, List.setIfInBounds_toArray, List.set_cons_zero, List.set_cons_succ]
     refine wpAnyH_done (by kernel_rfl) ?_ _
     generalize World.setCell _ _ _ = z9 at HS9 ⊢
     clear mkS
     have hn5 := HL.out
     go_wp2_with fail
     exact ⟨⟨k + 1, _, _, _, by have := HLT.out; omega, by go_num, Lib.hid (by rw [List.map_append, HM.out, HTK.out]; rfl), HS9⟩, by have := HLT.out; simp [intOf]; omega⟩
    ·
     go_simp
     generalize hq : World.alloc z5 _ = z6
     have r6 : z6 = z5.alloc (.cells #[.int .u8 ((tagO (n5 x.toNat)).toNat : Int), .slice A2 m2 c2, .slice none 0 0] 68) := hq.symm
     have n6 : Below z5.heap.size z5 z6 := by rw [r6]; exact below_new _ _
     have b6 : Below U.heap.size U z6 := chain b5 n6
     have q6 : ∀ j u, ([.int .u8 ((tagO (n5 x.toNat)).toNat : Int), .slice A2 m2 c2, .slice none 0 0] : List Value)[j]? = some u → z6.cell? ((⟨z5.heap.size, 0, none⟩ : Addr).add j) = some u := by rw [r6]; exact cell_three_new _ _ _ _ _
     clear hq r6
     refine hK.out _ _ (mkS _ (chain HBU.out b6)) (fun hHeld2 => ?_)
     clear hK K hHeld
     have hHeld := hHeld2
     clear hHeld2
     try simp only [Act.put, List.setIfInBounds_toArray, List.set_cons_zero, List.set_cons_succ]
     refine wpAnyH_ready (rs := [1]) (by kernel_rfl) (by simp) (AllReadyH.cons (o := { dst := some 14, op := .load 66 (.tmp 13), type := 66, pos := "ref.go:44", after := #[{ on := 0, ground := .data }], guard := none }) rfl (fun K hK => ?_) AllReadyH.nil)
     have hq2 := (facts3 (row_on HSU.out.rg b6)).2.2.2
     go_simp
     clear hq2
     refine hK.out _ _ (mkS _ (chain HBU.out b6)) (fun hHeld2 => ?_)
     clear hK K hHeld
     have hHeld := hHeld2
     clear hHeld2
     try simp only [Act.put, List.setIfInBounds_toArray, List.set_cons_zero, List.set_cons_succ]
     refine wpAnyH_ready (rs := [9]) (by kernel_rfl) (by simp) (AllReadyH.cons (o := { dst := some 22, op := .call { callee := .builtin .append, args := #[.tmp 14, .tmp 21], argTypes := #[66, 66] }, type := 66, pos := "ref.go:44", after := #[{ on := 1, ground := .data }, { on := 8, ground := .data }, { on := 7, ground := .chain }], guard := none }) rfl (fun K hK => ?_) AllReadyH.nil)
     try rw [if_pos (by rfl)]
     have hmk := HSU.out.lm.on b6
     refine wp_append_own_at8 (.tmp 14) (.tmp 21) rfl wc.heap.size _ _ _ rfl hmk.own ⟨z5.heap.size, 0, none⟩ 1 1 [.int .u8 ((tagO (n5 x.toNat)).toNat : Int), .slice A2 m2 c2, .slice none 0 0] rfl rfl q6 HONE.out (by have := HLT.out; have := HL.out; omega) (by have h1 := HSU.out.sz; have h2 := b6.size; omega) ?_
     intro v7 z7 o7 g7 l7
     have hput := HSU.out.lm.put b6 HSU.out.sz (HAT.out.own n6 (Nat.le_refl _)) o7 g7 l7
     obtain ⟨A7, c7, rfl⟩ := own_sliceO o7
     have hlo := HSU.out.lm.own.lt
     have HS7 := Lib.hid (HSU.out.step b6 g7 (fun j hj => (hlo j hj).1) hput)
     have b7 : Below W0.heap.size W0 z7 := (chain HBU.out b6).grown g7 (chain HBU.out b6).size (fun j hj => by have h1 := (hlo j hj).1; have h2 := HW01.out; omega)
     clear g7 o7 l7 hput hlo hmk
     refine hK.out _ _ (mkS _ b7) (fun hHeld2 => ?_)
     clear hK K hHeld
     have hHeld := hHeld2
     clear hHeld2
     try simp only [Act.put, List.setIfInBounds_toArray, List.set_cons_zero, List.set_cons_succ]
     refine wpAnyH_take (i := 10) (oi := { dst := some 23, op := .fieldAddr 68 (.tmp 3) 2, type := 0, pos := "ref.go:44", after := #[{ on := 0, ground := .phase }, { on := 1, ground := .phase }, { on := 2, ground := .phase }, { on := 3, ground := .phase }, { on := 4, ground := .phase }, { on := 5, ground := .phase }, { on := 6, ground := .phase }, { on := 7, ground := .phase }, { on := 8, ground := .phase }, { on := 9, ground := .phase }], guard := none }) (v := ?_) rfl (by kernel_rfl) (by kernel_rfl) (by kernel_rfl) (fun _ _ _ h => h) (Or.inl ⟨by rfl, ?_⟩) hHeld ?_
     rotate_left
     ·
      intro w hSw
      clear hSw
      go_simp
      try with_reducible rfl
     try simp only [Act.put, List.setIfInBounds_toArray, List.set_cons_zero, List.set_cons_succ]
     refine wpAnyH_ready (rs := [11]) (by kernel_rfl) (by simp) (AllReadyH.cons (o := { dst := none, op := .store 66 (.tmp 23) (.tmp 22), type := 0, pos := "ref.go:44", after := #[{ on := 10, ground := .data }, { on := 9, ground := .data }, { on := 9, ground := .chain }, { on := 0, ground := .phase }, { on := 1, ground := .phase }, { on := 2, ground := .phase }, { on := 3, ground := .phase }, { on := 4, ground := .phase }, { on := 5, ground := .phase }, { on := 6, ground := .phase }, { on := 7, ground := .phase }, { on := 8, ground := .phase }, { on := 9, ground := .phase }], guard := none }) rfl (fun K hK => ?_) AllReadyH.nil)
     obtain ⟨⟨_, _, hf7⟩, _, _, hc7⟩ := facts3 HS7.out.1
     have hl7 := (Array.getElem?_eq_some_iff.1 HS7.out.1).1
     go_simp
     clear hf7 hc7 hl7
     have HS9 := Lib.hid HS7.out.2
     refine hK.out _ _ (mkS _ (b7.setCell HSB0.out _)) (fun hHeld2 => ?_)
     clear hK K hHeld hHeld2
     try simp only [Act.put, List.setIfInBounds_toArray, List.set_cons_zero, List.set_cons_succ]
     refine wpAnyH_done (by kernel_rfl) ?_ _
     generalize World.setCell _ _ _ = z9 at HS9 ⊢
     clear mkS
     have hn5 := HL.out
     go_wp2_with fail
     exact ⟨⟨k + 1, _, _, _, by have := HLT.out; omega, by go_num, Lib.hid (by rw [List.map_append, HM.out, HTK.out]; rfl), HS9⟩, by have := HLT.out; simp [intOf]; omega⟩
  ·
   have hkk : k = n := by omega
   have hge : ¬ (k : Int) < (n : Int) := by omega
   have hlm := HTX.out.lm
   have htl : ts.length = k := hlm.len
   have how := hlm.own
   rw [← htl] at how
   obtain ⟨B2, d2, hv2, hfin⟩ := at_of_rows (base := W0.heap.size) (129 : UInt8) (own_base8 how HW01.out) (fun u hu => (hlm.done u hu).to fun g p x hx hR => ⟨hx, by have := hR.1; have := HW01.out; omega, hR.2⟩) (by rw [htl]; have := HL.out; omega) (b := []) (A := none) (c := 0) (Nat.le_refl _) (by decide) (fun _ => rfl) (fun hne => absurd rfl hne) (fun ga oa e _ => by cases e)
   rw [HM.out, List.take_of_length_le (by rw [HN.out]; omega)] at hfin
   have HFIN := Lib.hid (show At (fun _ => True) wr o5 (.slice none 0 0) (.slice PB k pd) by rw [← HO5.out, ← htl]; exact hfin.any)
   have HLR := Lib.hid HTX.out.rg
   clear hkk hlt hlm htl how hv2 hfin HTX HM HO5
   go_upto_region 6 with (fail)
   clear hlx r0 r1 r2 r3 r4 r5 r6 r7 hge
   have mkR : ∀ z : World, z.heap[w.heap.size]? = some (.cells #[Value.string iss, .int .u64 num, .int .i64 fr, .int .i64 tt, .slice SA n sc, c5, c6, c7] 32 (0, 0)) → z.heap[SB]? = some (.cells #[Value.int .u8 129, .slice none 0 0, .slice PB k pd] 68 (0, 0)) → (fun (z : World) => z.rangeAt w.heap.size 0 [Value.string iss, .int .u64 num, .int .i64 fr, .int .i64 tt, .slice SA n sc, c5, c6, c7] ∧ z.rangeAt SB 0 [Value.int .u8 129, .slice none 0 0, .slice PB k pd] ∧ z.cell? ⟨w.heap.size, 0, none⟩ = some (.string iss) ∧ z.cell? ⟨w.heap.size, 1, none⟩ = some (.int .u64 num) ∧ z.cell? ⟨w.heap.size, 2, none⟩ = some (.int .i64 fr) ∧ z.cell? ⟨w.heap.size, 3, none⟩ = some (.int .i64 tt)) z := fun z h1 h2 => ⟨row_range (cs := [Value.string iss, .int .u64 num, .int .i64 fr, .int .i64 tt, .slice SA n sc, c5, c6, c7]) h1, row_range (cs := [Value.int .u8 129, .slice none 0 0, .slice PB k pd]) h2, cell_of_row _ _ _ _ _ _ h1, cell_of_row _ _ _ _ _ _ h1, cell_of_row _ _ _ _ _ _ h1, cell_of_row _ _ _ _ _ _ h1⟩
   refine wp_region_held_drew (S := fun (z : World) => z.rangeAt w.heap.size 0 [Value.string iss, .int .u64 num, .int .i64 fr, .int .i64 tt, .slice SA n sc, c5, c6, c7] ∧ z.rangeAt SB 0 [Value.int .u8 129, .slice none 0 0, .slice PB k pd] ∧ z.cell? ⟨w.heap.size, 0, none⟩ = some (.string iss) ∧ z.cell? ⟨w.heap.size, 1, none⟩ = some (.int .u64 num) ∧ z.cell? ⟨w.heap.size, 2, none⟩ = some (.int .i64 fr) ∧ z.cell? ⟨w.heap.size, 3, none⟩ = some (.int .i64 tt)) (by kernel_rfl) (mkR _ (row_on HXR.out HBR.out.drew) HLR.out) (fun hHeld => ?_)
   generalize hU : World.drew wr = U at hHeld ⊢
   have hbU : Below wr.heap.size wr U := by rw [← hU]; exact (Below.refl _ _).drew
   clear hU
   have HXU := Lib.hid (row_on (row_on HXR.out HBR.out) hbU)
   have HLU := Lib.hid (row_on HLR.out hbU)
   have HRU := Lib.hid (row_on (row_on HRR.out HBR.out) hbU)
   have HWR := Lib.hid (chain HWU.out (chain HBR.out hbU))
   have HA_x5 := Lib.hid (HFIN.out.on hbU)
   have mkT : ∀ z, Below U.heap.size U z → (fun (z : World) => z.rangeAt w.heap.size 0 [Value.string iss, .int .u64 num, .int .i64 fr, .int .i64 tt, .slice SA n sc, c5, c6, c7] ∧ z.rangeAt SB 0 [Value.int .u8 129, .slice none 0 0, .slice PB k pd] ∧ z.cell? ⟨w.heap.size, 0, none⟩ = some (.string iss) ∧ z.cell? ⟨w.heap.size, 1, none⟩ = some (.int .u64 num) ∧ z.cell? ⟨w.heap.size, 2, none⟩ = some (.int .i64 fr) ∧ z.cell? ⟨w.heap.size, 3, none⟩ = some (.int .i64 tt)) z := fun z hz => mkR z (row_on HXU.out hz) (row_on HLU.out hz)
   have HB_U := Lib.hid (Below.refl U.heap.size U)
   clear hbU HFIN HLR HBR
   refine wpAnyH_take (i := 0) (oi := { dst := some 24, op := .fieldAddr 32 (.tmp 1) 0, type := 0, pos := "ref.go:46", after := #[], guard := none }) (v := ?_) rfl (by kernel_rfl) (by kernel_rfl) (by kernel_rfl) (fun _ _ _ h => h) (Or.inl ⟨by rfl, ?_⟩) hHeld ?_
   rotate_left
   ·
    intro w hSw
    clear hSw
    go_simp
    try with_reducible rfl
   try simp only [Act.put, List.setIfInBounds_toArray, List.set_cons_zero, List.set_cons_succ]
   refine wpAnyH_take (i := 1) (oi := { dst := some 25, op := .load 9 (.tmp 24), type := 9, pos := "ref.go:46", after := #[{ on := 0, ground := .data }], guard := none }) (v := ?_) rfl (by kernel_rfl) (by kernel_rfl) (by kernel_rfl) (fun _ _ _ h => h) (Or.inl ⟨by rfl, ?_⟩) hHeld ?_
   rotate_left
   ·
    intro w hSw
    have hfc0 := hSw.2.2.1
    clear hSw
    go_simp
    try with_reducible rfl
   try simp only [Act.put, List.setIfInBounds_toArray, List.set_cons_zero, List.set_cons_succ]
   refine wpAnyH_take (i := 3) (oi := { dst := some 27, op := .fieldAddr 32 (.tmp 1) 1, type := 0, pos := "ref.go:46", after := #[], guard := none }) (v := ?_) rfl (by kernel_rfl) (by kernel_rfl) (by kernel_rfl) (fun _ _ _ h => h) (Or.inl ⟨by rfl, ?_⟩) hHeld ?_
   rotate_left
   ·
    intro w hSw
    clear hSw
    go_simp
    try with_reducible rfl
   try simp only [Act.put, List.setIfInBounds_toArray, List.set_cons_zero, List.set_cons_succ]
   refine wpAnyH_take (i := 4) (oi := { dst := some 28, op := .load 23 (.tmp 27), type := 23, pos := "ref.go:46", after := #[{ on := 3, ground := .data }], guard := none }) (v := ?_) rfl (by kernel_rfl) (by kernel_rfl) (by kernel_rfl) (fun _ _ _ h => h) (Or.inl ⟨by rfl, ?_⟩) hHeld ?_
   rotate_left
   ·
    intro w hSw
    have hfc0 := hSw.2.2.2.1
    clear hSw
    go_simp
    try with_reducible rfl
   try simp only [Act.put, List.setIfInBounds_toArray, List.set_cons_zero, List.set_cons_succ]
   refine wpAnyH_take (i := 6) (oi := { dst := some 30, op := .fieldAddr 32 (.tmp 1) 2, type := 0, pos := "ref.go:46", after := #[], guard := none }) (v := ?_) rfl (by kernel_rfl) (by kernel_rfl) (by kernel_rfl) (fun _ _ _ h => h) (Or.inl ⟨by rfl, ?_⟩) hHeld ?_
   rotate_left
   ·
    intro w hSw
    clear hSw
    go_simp
    try with_reducible rfl
   try simp only [Act.put, List.setIfInBounds_toArray, List.set_cons_zero, List.set_cons_succ]
   refine wpAnyH_take (i := 7) (oi := { dst := some 31, op := .fieldAddr 27 (.tmp 30) 0, type := 0, pos := "ref.go:46", after := #[{ on := 6, ground := .data }], guard := none }) (v := ?_) rfl (by kernel_rfl) (by kernel_rfl) (by kernel_rfl) (fun _ _ _ h => h) (Or.inl ⟨by rfl, ?_⟩) hHeld ?_
   rotate_left
   ·
    intro w hSw
    clear hSw
    go_simp
    try with_reducible rfl
   try simp only [Act.put, List.setIfInBounds_toArray, List.set_cons_zero, List.set_cons_succ]
   refine wpAnyH_take (i := 8) (oi := { dst := some 32, op := .load 2 (.tmp 31), type := 2, pos := "ref.go:46", after := #[{ on := 7, ground := .data }], guard := none }) (v := ?_) rfl (by kernel_rfl) (by kernel_rfl) (by kernel_rfl) (fun _ _ _ h => h) (Or.inl ⟨by rfl, ?_⟩) hHeld ?_
   rotate_left
   ·
    intro w hSw
    have hfc0 := hSw.2.2.2.2.1
    clear hSw
    go_simp
    try with_reducible rfl
   try simp only [Act.put, List.setIfInBounds_toArray, List.set_cons_zero, List.set_cons_succ]
   refine wpAnyH_take (i := 9) (oi := { dst := some 33, op := .convert 2 23 (.tmp 32), type := 23, pos := "ref.go:46", after := #[{ on := 8, ground := .data }], guard := none }) (v := ?_) rfl (by kernel_rfl) (by kernel_rfl) (by kernel_rfl) (fun _ _ _ h => h) (Or.inl ⟨by rfl, ?_⟩) hHeld ?_
   rotate_left
   ·
    intro w hSw
    clear hSw
    go_simp
    try with_reducible rfl
   try simp only [Act.put, List.setIfInBounds_toArray, List.set_cons_zero, List.set_cons_succ]
   refine wpAnyH_take (i := 11) (oi := { dst := some 35, op := .fieldAddr 32 (.tmp 1) 2, type := 0, pos := "ref.go:46", after := #[], guard := none }) (v := ?_) rfl (by kernel_rfl) (by kernel_rfl) (by kernel_rfl) (fun _ _ _ h => h) (Or.inl ⟨by rfl, ?_⟩) hHeld ?_
   rotate_left
   ·
    intro w hSw
    clear hSw
    go_simp
    try with_reducible rfl
   try simp only [Act.put, List.setIfInBounds_toArray, List.set_cons_zero, List.set_cons_succ]
   refine wpAnyH_take (i := 12) (oi := { dst := some 36, op := .fieldAddr 27 (.tmp 35) 1, type := 0, pos := "ref.go:46", after := #[{ on := 11, ground := .data }], guard := none }) (v := ?_) rfl (by kernel_rfl) (by kernel_rfl) (by kernel_rfl) (fun _ _ _ h => h) (Or.inl ⟨by rfl, ?_⟩) hHeld ?_
   rotate_left
   ·
    intro w hSw
    clear hSw
    go_simp
    try with_reducible rfl
   try simp only [Act.put, List.setIfInBounds_toArray, List.set_cons_zero, List.set_cons_succ]
   refine wpAnyH_take (i := 13) (oi := { dst := some 37, op := .load 2 (.tmp 36), type := 2, pos := "ref.go:46", after := #[{ on := 12, ground := .data }], guard := none }) (v := ?_) rfl (by kernel_rfl) (by kernel_rfl) (by kernel_rfl) (fun _ _ _ h => h) (Or.inl ⟨by rfl, ?_⟩) hHeld ?_
   rotate_left
   ·
    intro w hSw
    have hfc0 := hSw.2.2.2.2.2
    clear hSw
    go_simp
    try with_reducible rfl
   try simp only [Act.put, List.setIfInBounds_toArray, List.set_cons_zero, List.set_cons_succ]
   refine wpAnyH_take (i := 14) (oi := { dst := some 38, op := .convert 2 23 (.tmp 37), type := 23, pos := "ref.go:46", after := #[{ on := 13, ground := .data }], guard := none }) (v := ?_) rfl (by kernel_rfl) (by kernel_rfl) (by kernel_rfl) (fun _ _ _ h => h) (Or.inl ⟨by rfl, ?_⟩) hHeld ?_
   rotate_left
   ·
    intro w hSw
    clear hSw
    go_simp
    try with_reducible rfl
   try simp only [Act.put, List.setIfInBounds_toArray, List.set_cons_zero, List.set_cons_succ]
   refine wpAnyH_take (i := 16) (oi := { dst := some 40, op := .load 68 (.tmp 3), type := 68, pos := "ref.go:46", after := #[], guard := none }) (v := .agg ([Value.int .u8 129, .slice none 0 0, .slice PB k pd]).toArray) rfl (by kernel_rfl) (by kernel_rfl) (by kernel_rfl) (fun _ _ _ h => h) (yieldsIf_load_mid (by rfl) _ _ rfl _ _ rfl [Value.int .u8 129, .slice none 0 0, .slice PB k pd] _ (fun w hSw => hSw.2.1) Tryz.underlying68 rfl (sz3ol _ rfl)) hHeld ?_
   try simp only [Act.put, List.setIfInBounds_toArray, List.set_cons_zero, List.set_cons_succ]
   refine wpAnyH_ready (rs := [2]) (by kernel_rfl) (by simp) (AllReadyH.cons (o := { dst := some 26, op := .call { callee := .value (.func 88), args := #[.const (.int .u8 1), .tmp 25], argTypes := #[5, 9] }, type := 68, pos := "ref.go:46", after := #[{ on := 1, ground := .data }], guard := none }) rfl (fun K hK => ?_) AllReadyH.nil)
   go_simp
   refine (HST.out U).mono ?_
   rintro e v2 ⟨x1, y1, rfl, hat, hb⟩
   have HB_v2 := Lib.hid (chain HB_U.out hb)
   have HA_x1 := Lib.hid hat
   have HA_x5 := Lib.hid (HA_x5.out.on hb)
   clear hat hb
   unfold cell3
   go_simp
   refine hK.out _ _ (mkT _ HB_v2.out) (fun hHeld2 => ?_)
   clear hK K hHeld
   have hHeld := hHeld2
   clear hHeld2
   try simp only [Act.put, List.setIfInBounds_toArray, List.set_cons_zero, List.set_cons_succ]
   refine wpAnyH_ready (rs := [5]) (by kernel_rfl) (by simp) (AllReadyH.cons (o := { dst := some 29, op := .call { callee := .value (.func 86), args := #[.const (.int .u8 2), .tmp 28], argTypes := #[5, 23] }, type := 68, pos := "ref.go:46", after := #[{ on := 4, ground := .data }, { on := 2, ground := .chain }], guard := none }) rfl (fun K hK => ?_) AllReadyH.nil)
   go_simp
   refine (HN2.out v2).mono ?_
   rintro e v5 ⟨x2, y2, rfl, hat, hb⟩
   have HB_v5 := Lib.hid (chain HB_v2.out hb)
   have HA_x2 := Lib.hid hat
   have HA_x5 := Lib.hid (HA_x5.out.on hb)
   have HA_x1 := Lib.hid (HA_x1.out.on hb)
   clear hat hb
   unfold cell3
   go_simp
   refine hK.out _ _ (mkT _ HB_v5.out) (fun hHeld2 => ?_)
   clear hK K hHeld
   have hHeld := hHeld2
   clear hHeld2
   try simp only [Act.put, List.setIfInBounds_toArray, List.set_cons_zero, List.set_cons_succ]
   refine wpAnyH_ready (rs := [10]) (by kernel_rfl) (by simp) (AllReadyH.cons (o := { dst := some 34, op := .call { callee := .value (.func 86), args := #[.const (.int .u8 3), .tmp 33], argTypes := #[5, 23] }, type := 68, pos := "ref.go:46", after := #[{ on := 9, ground := .data }, { on := 5, ground := .chain }], guard := none }) rfl (fun K hK => ?_) AllReadyH.nil)
   go_simp
   refine (HN3.out v5).mono ?_
   rintro e v10 ⟨x3, y3, rfl, hat, hb⟩
   have HB_v10 := Lib.hid (chain HB_v5.out hb)
   have HA_x3 := Lib.hid hat
   have HA_x5 := Lib.hid (HA_x5.out.on hb)
   have HA_x1 := Lib.hid (HA_x1.out.on hb)
   have HA_x2 := Lib.hid (HA_x2.out.on hb)
   clear hat hb
   unfold cell3
   go_simp
   refine hK.out _ _ (mkT _ HB_v10.out) (fun hHeld2 => ?_)
   clear hK K hHeld
   have hHeld := hHeld2
   clear hHeld2
   try simp only [Act.put, List.setIfInBounds_toArray, List.set_cons_zero, List.set_cons_succ]
   refine wpAnyH_ready (rs := [15]) (by kernel_rfl) (by simp) (AllReadyH.cons (o := { dst := some 39, op := .call { callee := .value (.func 86), args := #[.const (.int .u8 4), .tmp 38], argTypes := #[5, 23] }, type := 68, pos := "ref.go:46", after := #[{ on := 14, ground := .data }, { on := 10, ground := .chain }], guard := none }) rfl (fun K hK => ?_) AllReadyH.nil)
   go_simp
   refine (HN4.out v10).mono ?_
   rintro e v15 ⟨x4, y4, rfl, hat, hb⟩
   have HB_v15 := Lib.hid (chain HB_v10.out hb)
   have HA_x4 := Lib.hid hat
   have HA_x5 := Lib.hid (HA_x5.out.on hb)
   have HA_x1 := Lib.hid (HA_x1.out.on hb)
   have HA_x2 := Lib.hid (HA_x2.out.on hb)
   have HA_x3 := Lib.hid (HA_x3.out.on hb)
   clear hat hb
   unfold cell3
   go_simp
   refine hK.out _ _ (mkT _ HB_v15.out) (fun hHeld2 => ?_)
   clear hK K hHeld
   have hHeld := hHeld2
   clear hHeld2
   try simp only [Act.put, List.setIfInBounds_toArray, List.set_cons_zero, List.set_cons_succ]
   refine wpAnyH_ready (rs := [17]) (by kernel_rfl) (by simp) (AllReadyH.cons (o := { dst := some 41, op := .buildSlice 66 5 #[(0, .tmp 26), (1, .tmp 29), (2, .tmp 34), (3, .tmp 39), (4, .tmp 40)], type := 66, pos := "ref.go:46", after := #[{ on := 2, ground := .data }, { on := 5, ground := .data }, { on := 10, ground := .data }, { on := 15, ground := .data }, { on := 16, ground := .data }], guard := none }) rfl (fun K hK => ?_) AllReadyH.nil)
   obtain ⟨A1, m1, k1, B1, n1, q1, rfl, rfl⟩ := HA_x1.out.slices
   obtain ⟨A2, m2, k2, B2, n2, q2, rfl, rfl⟩ := HA_x2.out.slices
   obtain ⟨A3, m3, k3, B3, n3, q3, rfl, rfl⟩ := HA_x3.out.slices
   obtain ⟨A4, m4, k4, B4, n4, q4, rfl, rfl⟩ := HA_x4.out.slices
   go_simp
   generalize hV : World.alloc v15 _ = y17
   have hb : Below v15.heap.size v15 y17 := by rw [← hV]; exact below_new _ _
   have hr5 := Lib.hid (show y17.heap[v15.heap.size]? = some (.cells #[.int .u8 ((tagO o1).toNat : Int), .slice A1 m1 k1, .slice B1 n1 q1, .int .u8 ((tagO o2).toNat : Int), .slice A2 m2 k2, .slice B2 n2 q2, .int .u8 ((tagO o3).toNat : Int), .slice A3 m3 k3, .slice B3 n3 q3, .int .u8 ((tagO o4).toNat : Int), .slice A4 m4 k4, .slice B4 n4 q4, .int .u8 ((tagO o5).toNat : Int), .slice none 0 0, .slice PB k pd] 68 (0, 0)) by rw [← hV, HT5.out]; exact heap_alloc_new _ _)
   have HB_y17 := Lib.hid (chain HB_v15.out hb)
   have HELS := Lib.hid (five_els2 (HA_x1.out.on hb) (HA_x2.out.on hb) (HA_x3.out.on hb) (HA_x4.out.on hb) (HA_x5.out.on hb) hr5.out)
   clear hV hb hr5
   refine hK.out _ _ (mkT _ HB_y17.out) (fun hHeld2 => ?_)
   clear hK K hHeld
   have hHeld := hHeld2
   clear hHeld2
   try simp only [Act.put, List.setIfInBounds_toArray, List.set_cons_zero, List.set_cons_succ]
   refine wpAnyH_ready (rs := [18]) (by kernel_rfl) (by simp) (AllReadyH.cons (o := { dst := some 42, op := .call { callee := .value (.func 87), args := #[.const (.int .u8 134), .tmp 41], argTypes := #[5, 66] }, type := 68, pos := "ref.go:46", after := #[{ on := 17, ground := .data }, { on := 15, ground := .chain }], guard := none }) rfl (fun K hK => ?_) AllReadyH.nil)
   go_simp
   refine (seq_ref 134 [o1, o2, o3, o4, o5] (show 5 ≤ 5000 by decide) HTOT.out _ 5 _ _ _ _ y17 HELS.out).mono ?_
   rintro e y18 ⟨x6, y6, rfl, hat, hb⟩
   have HB_y18 := Lib.hid (chain HB_y17.out hb)
   have HSZ11 : RowKit.Hid (w.heap.size + 1 < y17.heap.size) := Lib.hid (by have h1 := (Array.getElem?_eq_some_iff.1 HRU.out).1; have h2 := HB_y17.out.size; omega)
   have HAT := Lib.hid hat
   obtain ⟨A6, m6, k6, B6, n6, q6, rfl, rfl⟩ := hat.slices
   clear hat hb HELS
   unfold cell3
   simp only [tagO]
   go_simp
   refine hK.out _ _ (mkT _ HB_y18.out) (fun hHeld2 => ?_)
   clear hK K hHeld
   have hHeld := hHeld2
   clear hHeld2
   try simp only [Act.put, List.setIfInBounds_toArray, List.set_cons_zero, List.set_cons_succ]
   refine wpAnyH_ready (rs := [19]) (by kernel_rfl) (by simp) (AllReadyH.cons (o := { dst := none, op := .store 68 (.tmp 2) (.tmp 42), type := 0, pos := "ref.go:46", after := #[{ on := 18, ground := .data }, { on := 18, ground := .chain }, { on := 0, ground := .phase }, { on := 1, ground := .phase }, { on := 2, ground := .phase }, { on := 3, ground := .phase }, { on := 4, ground := .phase }, { on := 5, ground := .phase }, { on := 6, ground := .phase }, { on := 7, ground := .phase }, { on := 8, ground := .phase }, { on := 9, ground := .phase }, { on := 10, ground := .phase }, { on := 11, ground := .phase }, { on := 12, ground := .phase }, { on := 13, ground := .phase }, { on := 14, ground := .phase }, { on := 15, ground := .phase }, { on := 16, ground := .phase }, { on := 17, ground := .phase }, { on := 18, ground := .phase }], guard := none }) rfl (fun K hK => ?_) AllReadyH.nil)
   try rw [if_pos (by rfl)]
   have HR3 := Lib.hid (row_on HRU.out HB_y18.out)
   refine wp_store_mid 68 (.tmp 2) (.tmp 42) rfl (w.heap.size + 1) 0 #[.int .u8 134, .slice A6 m6 k6, .slice B6 n6 q6] rfl rfl (there_row HR3.out 3 (show 3 ≤ 3 by decide)) (sz3o _ _ _) (one3 _ _ _ rfl rfl rfl) ?_
   have HOO := Lib.hid (fun (b : Nat) (hb : b ≠ w.heap.size + 1) => heap_setCells_other [.int .u8 134, .slice A6 m6 k6, .slice B6 n6 q6] 0 y18 hb)
   have HR4 := Lib.hid (row_setCells HR3.out (cs := #[.int .u8 134, .slice A6 m6 k6, .slice B6 n6 q6]) rfl)
   have HB4 := Lib.hid (below_setCells [.int .u8 134, .slice A6 m6 k6, .slice B6 n6 q6] 0 y18 (chain HWR.out HB_y18.out) (show w.heap.size ≤ w.heap.size + 1 by omega))
   refine hK.out _ _ (mkR _ ((HOO.out w.heap.size (by omega)).trans (row_on HXU.out HB_y18.out)) ((HOO.out SB (by have := HSBN.out; omega)).trans (row_on HLU.out HB_y18.out))) (fun hHeld2 => ?_)
   clear hK K hHeld hHeld2
   try simp only [Act.put, List.setIfInBounds_toArray, List.set_cons_zero, List.set_cons_succ]
   refine wpAnyH_done (by kernel_rfl) ?_ _
   generalize World.setCells y18 _ _ _ = z9 at HR4 HB4 HOO ⊢
   clear mkT mkR
   go_wp2_with fail
   refine bodyPost_ret (v := .agg #[.int .u8 134, .slice A6 m6 k6, .slice B6 n6 q6]) (results_cell_row rfl _ _ (w.heap.size + 1) 68 _ (0, 0) _ rfl HR4.out Tryz.underlying68 rfl (sz3o _ _ _)) rfl ⟨_, _, rfl, HAT.out.to (fun g p u hc hR => ⟨?_, trivial⟩), HB4.out⟩
   have h1 := hR.1
   have h2 := HSZ11.out
   simp only [World.cell?] at hc ⊢
   rw [HOO.out g (by omega)]
   exact hc
end Sg
end Go.Proofs.YtcgffkkfeimifaaGreatDoor
