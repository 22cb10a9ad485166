import Derived.Test.YthfgdgcdicacpaaOcRD
namespace Go.Proofs.Ythfgdgcdicacpaa
open Go.RowKit Sha Oc
set_option linter.unusedVariables false
set_option linter.unusedSimpArgs false
attribute [local go_sem] Oper.semAt_some
theorem toomany_any (o : Oct) (hcn : cnt o ≤ 900000) (w : World) (x y : Value) (hat : At (fun _ => True) w o x y) :
  Calls Try.prog 70 #[.agg (cell3 o x y)] w (fun e w' => e = .returned (.bool (tmB o)) ∧ Below w.heap.size w w') := by
 obtain ⟨t, b, l⟩ := o
 exact toomany_of t b l hcn w x y hat
def allTop (pre : List El) : Prop := ∀ e ∈ pre, topB e.2.1 = true
def someBad (pre : List El) : Prop := ∃ e ∈ pre, topB e.2.1 = false
def AxE (S XB : Nat) (t : Value) (x : El) (a' : Act) (W : World) : Prop := ∃ Bx, S ≤ Bx ∧ W.heap[Bx]? = some (.cells #[.int .u8 ((tagO x.2.1).toNat : Int), .slice x.2.2.1.1 (bytO x.2.1).length x.2.2.1.2, .slice x.2.2.2.1 (kids x.2.1).length x.2.2.2.2] 63 (0, 0)) ∧
 a' = { tmps := #[t, .pointer (some ⟨S, 0, none⟩), .pointer (some ⟨S + 1, 0, none⟩), undef, .pointer (some ⟨Bx, 0, none⟩), t, .bool false, t, .func (.func 93) #[] #[.pointer (some ⟨XB, 0, none⟩)], .int .i64 (x.1 : Int), .agg #[.int .u8 ((tagO x.2.1).toNat : Int), .slice x.2.2.1.1 (bytO x.2.1).length x.2.2.1.2, .slice x.2.2.2.1 (kids x.2.1).length x.2.2.2.2], undef, undef, undef, undef, undef, undef], defers := [] }
theorem cells_own {B g : Nat} {W W' : World} {row : Option Nat} {cs : Array Value} {T : TypeId} {fr : Nat × Nat} (h : W.heap[g]? = some (.cells cs T fr)) (hg : W.grownBy W' row) (hr : ∀ r, row = some r → B ≤ r ∧ ∃ o : Obj, W.heap[r]? = some o ∧ o.isCells = false) : W'.heap[g]? = some (.cells cs T fr) :=
 (hg.block g (Array.getElem?_eq_some_iff.1 h).1 (fun e => by
  obtain ⟨_, o, ho, hc⟩ := hr g e.symm
  rw [h] at ho
  obtain rfl := Option.some.inj ho
  cases hc)).trans h
theorem keeps_below {B : Nat} {W W' : World} (hb : Below W.heap.size W W') : KeepsFrom B W W' := ⟨hb.size, fun k o _ h _ => (hb.block k (Array.getElem?_eq_some_iff.1 h).1).trans h⟩
theorem tmB_ck (o : Oct) (h : tmB o = true) : ckV o = 4 := by
 unfold tmB at h
 unfold ckV
 rw [if_pos (of_decide_eq_true h)]
theorem ck_tm (o : Oct) (h : tmB o = false) : cnt o ≤ 4000 ∧ ckV o = if shpB o = false then 8 else if 65536 < siz o then 4 else 0 := by
 unfold tmB at h
 have h1 := of_decide_eq_false h
 refine ⟨by omega, ?_⟩
 unfold ckV
 rw [if_neg h1]
set_option maxRecDepth 100000 in
set_option maxHeartbeats 8000000 in
theorem check_of (t : UInt8) (b : List UInt8) (l : List Oct) (hcn : cnt (.mk t b l) ≤ 900000) (htt : tot (.mk t b l) ≤ 400000) (w : World) (x y : Value) (hat : At (fun _ => True) w (.mk t b l) x y) :
  Calls Try.prog 45 #[.agg (cell3 (.mk t b l) x y)] w (fun e w' => e = .returned (.int .i64 (ckV (.mk t b l))) ∧ Below w.heap.size w w') := by
 obtain ⟨A, c, B, d, g, off, vb, vl, rfl, rfl, hc, hbm, hcn0, hs, hd, hdn, he⟩ := hat.els
 obtain ⟨o, ho⟩ : ∃ o, Oct.mk t b l = o := ⟨_, rfl⟩
 have htm := fun (V : World) (hb : Below w.heap.size w V) => toomany_any (.mk t b l) hcn V _ _ (hat.on hb)
 have hsize := fun (h5 : cnt (.mk t b l) ≤ 5000) (V : World) (hb : Below w.heap.size w V) => psize_all 5000 (.mk t b l) h5 (Nat.le_refl _) htt V _ _ (hat.on hb)
 have hst := fun (n X n0 n1 : Nat) (hn : n0 ≤ n1) (V : World) hX hw hat' => within_stops n X n0 n1 hn (.mk t b l) hcn A B c d V hX hw hat'
 have hlow := hat.lower (Nat.le_refl _)
 have HST := Lib.hid hst
 have HLOW := Lib.hid hlow
 have HTM := Lib.hid htm
 have HSI := Lib.hid hsize
 show Calls Try.prog 45 #[.agg #[.int .u8 (t.toNat : Int), .slice A b.length c, .slice B l.length d]] w _
 unfold cell3 at HTM HSI
 dsimp only [tagO, bytO, kids] at HST HLOW HTM HSI
 obtain ⟨m1, hm1⟩ : ∃ m, b.length = m := ⟨_, rfl⟩
 obtain ⟨m2, hm2⟩ : ∃ m, l.length = m := ⟨_, rfl⟩
 rw [hm1, hm2] at HST HLOW HTM HSI ⊢
 rw [ho] at HST HLOW HTM HSI ⊢
 have HCN : RowKit.Hid (cnt o ≤ 900000 ∧ tot o ≤ 400000) := Lib.hid (by rw [← ho]; exact ⟨hcn, htt⟩)
 clear hst hlow hat hc hbm hcn0 hs hd hdn he hm1 hm2 ho hcn htt htm hsize
 refine (callsIn_wide (n := 4)).1 ?_
 refine callsIn_of_wp_marks Try.func45 rfl trivial ?_ rfl
 simp only [Try.ntmps45, List.size_toArray, List.length_cons, List.length_nil, Nat.reduceAdd, Nat.reduceSub, Array.replicate_succ, Array.replicate_zero, List.push_toArray, List.append_toArray, List.nil_append, List.cons_append]
 obtain ⟨S, hS⟩ : ∃ S, w.heap.size = S := ⟨_, rfl⟩
 obtain ⟨V2, hV2⟩ : ∃ V2, (w.alloc (.cells #[.int .u8 (t.toNat : Int), .slice A m1 c, .slice B m2 d] 63)).alloc (.cells #[.int .i64 0] 28) = V2 := ⟨_, rfl⟩
 have hv2 : V2.heap[S]? = some (.cells #[.int .u8 (t.toNat : Int), .slice A m1 c, .slice B m2 d] 63 (0, 0)) := by
  rw [← hV2, ← hS]; exact heap_alloc2_old8 _ _ _
 have hr2 : V2.heap[S + 1]? = some (.cells #[.int .i64 0] 28 (0, 0)) := by
  rw [← hV2, ← hS]; exact heap_alloc2_new8 _ _ _
 have hb2 : Below w.heap.size w V2 := by
  rw [← hV2]
  exact ((Below.refl _ w).alloc (Nat.le_refl _) _).alloc (by simp) _
 have HV2 := Lib.hid hv2
 have HR2 := Lib.hid hr2
 have HB2 := Lib.hid hb2
 have HSW : RowKit.Hid (S ≤ w.heap.size ∧ w.heap.size ≤ S) := Lib.hid (by omega)
 have HTM2 := Lib.hid (HTM.out V2 hb2)
 have hlv := (Array.getElem?_eq_some_iff.1 hv2).1
 obtain ⟨_, cv0, cv1, cv2⟩ := facts3 hv2
 have hrgv := range3o cv0 cv1 cv2
 clear hv2 hr2 hb2 HTM
 rw [hS] at HB2 HLOW
 gi_wp2_with fail
 try rw [hV2]
 try simp only [hS]
 clear hlv cv0 cv1 cv2 hrgv
 refine ⟨trivial, (callsIn_wide.2 HTM2.out).mono ?_⟩
 rintro e w3 ⟨rfl, hb3⟩
 have HV3 := Lib.hid (row_on HV2.out hb3)
 have HR3 := Lib.hid (row_on HR2.out hb3)
 have HB3 : RowKit.Hid (Below S w w3) := Lib.hid (HB2.out.trans (hb3.mono (Nat.le_trans HSW.out.1 HB2.out.size)))
 clear hb3 HTM2 HV2 HR2 HB2 hV2
 have hlR := (Array.getElem?_eq_some_iff.1 HR3.out).1
 have cR := cell_of_one HR3.out
 have fR := free_of_one HR3.out
 have hlV := (Array.getElem?_eq_some_iff.1 HV3.out).1
 obtain ⟨_, cV0, cV1, cV2⟩ := facts3 HV3.out
 have hrgV := range3o cV0 cV1 cV2
 cases htb : tmB o with
 | true =>
  have hck := tmB_ck o htb
  have HCK := Lib.hid hck
  clear hck HST HSI htb
  gi_wp2_with fail
  have hre := one_setCell (u := .int .i64 4) HR3.out
  have hce := cell_of_one hre
  refine ⟨.int .i64 4, by simp [results, Try.results45, go_sem, hce], ?_, ?_⟩
  ·
   rw [HCK.out]
  ·
   exact (HB3.out.setCell (by show S ≤ S + 1; omega) _).mono HSW.out.2
 | false =>
  obtain ⟨h4000, hck⟩ := ck_tm o htb
  have HCK := Lib.hid hck
  have HC5 := Lib.hid h4000
  clear hck h4000 htb
  gi_wp2_with fail
  refine ⟨trivial, (callsIn_wide.2 (within_any _ _ _ _ _ _ _ _)).mono ?_⟩
  rintro e v4 ⟨rfl, rfl⟩
  clear hlR cR fR hlV cV0 cV1 cV2 hrgV
  obtain ⟨XB, hXB⟩ : ∃ XB, w3.heap.size = XB := ⟨_, rfl⟩
  obtain ⟨W0, hW0⟩ : ∃ W0, w3.alloc (.cells #[.int .u8 (t.toNat : Int), .slice A m1 c, .slice B m2 d] 63) = W0 := ⟨_, rfl⟩
  have hb4 : Below w3.heap.size w3 W0 := by rw [← hW0]; exact below_new _ _
  have hX0 : W0.heap[XB]? = some (.cells #[.int .u8 (t.toNat : Int), .slice A m1 c, .slice B m2 d] 63 (0, 0)) := by rw [← hW0, ← hXB]; exact heap_alloc_new _ _
  have HV4 := Lib.hid (row_on HV3.out hb4)
  have HR4 := Lib.hid (row_on HR3.out hb4)
  have hS3 : S + 1 < w3.heap.size := (Array.getElem?_eq_some_iff.1 HR3.out).1
  have HB4 : RowKit.Hid (Below S w W0) := Lib.hid (HB3.out.trans (hb4.mono (by omega)))
  have hz0 : W0.heap.size = XB + 1 := by rw [← hW0, ← hXB]; simp
  have HZ0 : RowKit.Hid (W0.heap.size = XB + 1 ∧ S + 1 < XB) := Lib.hid ⟨hz0, by omega⟩
  have hsq := HST.out 3 XB S (XB + 1) (by omega) W0 hX0 (by omega) (HLOW.out.low HB4.out)
  have HSQ := Lib.hid hsq
  clear hsq hX0 hb4 hS3 hz0 HST HLOW HV3 HR3 HB3
  gi_wp2_with fail
  try rw [hW0]
  try rw [hXB]
  clear hW0 hXB
  refine wpIn_rangeFunc_ownH rfl (by decide) (gf := 93) (lb := #[.pointer (some ⟨XB, 0, none⟩)]) rfl trivial (enters_of Try.func93 (by kernel_rfl) rfl) HSQ.out Kp8.trans (fun W l o o' hl h hc _ => kp8_put (by have := HZ0.out; omega) W l o o' (by have := HZ0.out; omega) h hc) (Below.refl _ _) (fun _ => rfl)
   (fun pre W => allTop pre ∧ W.heap[S + 1]? = some (.cells #[.int .i64 0] 28 (0, 0)) ∧ W.heap[S]? = some (.cells #[.int .u8 (t.toNat : Int), .slice A m1 c, .slice B m2 d] 63 (0, 0)) ∧ Below S w W)
   (fun cd pre W => cd = .ret ∧ someBad pre ∧ W.heap[S + 1]? = some (.cells #[.int .i64 8] 28 (0, 0)) ∧ Below S w W)
   (fun s V U row hs hg hr => ⟨hs.1, cells_own hs.2.1 hg hr, cells_own hs.2.2.1 hg hr, below_own hs.2.2.2 hg hr (by have := HZ0.out; omega) HSW.out.1⟩)
   (fun cd s V U row hs hg hr => ⟨hs.1, hs.2.1, cells_own hs.2.2.1 hg hr, below_own hs.2.2.2 hg hr (by have := HZ0.out; omega) HSW.out.1⟩)
   ⟨fun e he => (by cases he), HR4.out, HV4.out, HB4.out⟩
   (AxE S XB (.agg #[.int .u8 (t.toNat : Int), .slice A m1 c, .slice B m2 d])) (fun x a' s V U row hs hg hr => by obtain ⟨Bx, h1, h2, h3⟩ := hs; exact ⟨Bx, h1, cells_own h2 hg hr, h3⟩) ?assign ?body ?done ?stop
  case assign =>
   rintro lp pre ⟨dx, ox, ax, bx⟩ W K ⟨h1, h2, h3, h4⟩ hK
   have hsz : S ≤ W.heap.size := by have := (Array.getElem?_eq_some_iff.1 h2).1; omega
   gi_wp2
   exact hK _ _ (keeps_below (below_new W _)) (Kp8.of (below_new W _) hsz) ⟨h1, row_on h2 (below_new W _), row_on h3 (below_new W _), h4.trans ((below_new W _).mono hsz)⟩ ⟨W.heap.size, hsz, heap_alloc_new W _, rfl⟩
  case body =>
   rintro lp pre ⟨dx, ox, ax, bx⟩ a' W hl _ ⟨h1, h2, h3, h4⟩ ⟨Bx, hBx, hX, rfl⟩ hlen
   dsimp only at hX
   have hlX := (Array.getElem?_eq_some_iff.1 hX).1
   obtain ⟨_, cx0, cx1, cx2⟩ := facts3 hX
   have hrgX := range3o cx0 cx1 cx2
   have hsz : S ≤ W.heap.size := by have := (Array.getElem?_eq_some_iff.1 h2).1; omega
   have HS := Lib.hid (fun V => simple_any (tagO ox) ax.1 bx.1 (bytO ox).length (kids ox).length ax.2 bx.2 V)
   have H1 := Lib.hid h1
   have H2 := Lib.hid h2
   have H3 := Lib.hid h3
   have H4 := Lib.hid h4
   have HSZ := Lib.hid hsz
   clear h1 h2 h3 h4 hsz hlen
   gi_wp2_with fail
   refine ⟨trivial, (CallsIn.inRound lp (callsIn_wide.2 (HS.out W))).mono ?_⟩
   rintro e W2 ⟨rfl, hb2⟩
   have HB2 := Lib.hid hb2
   have HR5 := Lib.hid (row_on H2.out hb2)
   clear cx0 cx1 cx2 hrgX hlX hb2
   cases hq : okTop (tagO ox) (bytO ox).length (kids ox).length with
   | true =>
    have HQ : RowKit.Hid (topB ox = true) := Lib.hid hq
    clear hq
    gi_wp2_with fail
    refine ⟨keeps_below HB2.out, Kp8.of HB2.out HSZ.out, fun e he => ?_, HR5.out, row_on H3.out HB2.out, H4.out.trans (HB2.out.mono HSZ.out)⟩
    rcases List.mem_append.1 he with he | he
    ·
     exact H1.out e he
    ·
     obtain rfl := List.mem_singleton.1 he
     exact HQ.out
   | false =>
    have HQ : RowKit.Hid (topB ox = false) := Lib.hid hq
    have cR := cell_of_one HR5.out
    have fR := free_of_one HR5.out
    have lR := (Array.getElem?_eq_some_iff.1 HR5.out).1
    clear hq
    gi_wp2_with fail
    exact ⟨(keeps_below HB2.out).trans ((KeepsOthers.setCell _ _ _).from _), rfl, ⟨_, List.mem_append_right _ (List.mem_cons_self ..), HQ.out⟩, one_setCell HR5.out, (H4.out.trans (HB2.out.mono HSZ.out)).setCell (by show S ≤ S + 1; omega) _⟩
  case done =>
   rintro D xs W hD hxs ⟨h1, h2, h3, h4⟩ hK
   have hT : shpB o = true := by
    rw [vis_shp 1 o, ← hxs, List.all_eq_true]
    intro e he
    obtain ⟨a, ha, rfl⟩ := List.mem_map.1 he
    exact h1 a ha
   have hck := HCK.out
   rw [hT, if_neg (by decide)] at hck
   have HCK2 := Lib.hid hck
   have H2 := Lib.hid h2
   have H4 := Lib.hid h4
   have HK := Lib.hid hK
   have HD : RowKit.Hid (S + 1 < D) := Lib.hid (by have := HZ0.out; omega)
   have hlV := (Array.getElem?_eq_some_iff.1 h3).1
   obtain ⟨_, cV0, cV1, cV2⟩ := facts3 h3
   have hrgV := range3o cV0 cV1 cV2
   have HSZ := Lib.hid (HSI.out (by have := HC5.out; omega) W (h4.mono HSW.out.2))
   clear h1 h2 h3 h4 hxs hT hK hD hck HCK
   gi_wp2_with fail
   refine ⟨trivial, (callsIn_wide.2 HSZ.out).mono ?_⟩
   rintro e W2 ⟨rfl, hb2⟩
   have HR5 := Lib.hid (row_on H2.out hb2)
   have HK5 := Lib.hid ((hb2.block D (Array.getElem?_eq_some_iff.1 HK.out).1).trans HK.out)
   have HB5 : RowKit.Hid (Below S w W2) := Lib.hid (H4.out.trans (hb2.mono (by have := (Array.getElem?_eq_some_iff.1 H2.out).1; omega)))
   clear hlV cV0 cV1 cV2 hrgV hb2 HSZ
   obtain ⟨Z, hZ⟩ : ∃ Z, siz o = Z := ⟨_, rfl⟩
   rw [hZ] at HCK2 ⊢
   clear hZ
   have cR := cell_of_one HR5.out
   have fR := free_of_one HR5.out
   have lR := (Array.getElem?_eq_some_iff.1 HR5.out).1
   by_cases h65 : 65536 < Z
   ·
    have h65i : (65536 : Int) < (Z : Int) := by omega
    have hck := HCK2.out
    rw [if_pos h65] at hck
    have HCK3 := Lib.hid hck
    clear hck HCK2
    gi_wp2_with fail
    have hDk : (W2.setCell ⟨S + 1, 0, none⟩ (.int .i64 4)).heap[D]? = some (.deferred (some [])) := (Below.heap_setCell _ _ _ _ (by have := HD.out; show D ≠ S + 1; omega)).trans HK5.out
    have hre : ((W2.setCell ⟨S + 1, 0, none⟩ (.int .i64 4)).putObj D (.deferred none)).heap[S + 1]? = some (.cells #[.int .i64 4] 28 (0, 0)) := (World.putObj_heap_other (by have := HD.out; omega)).trans (one_setCell HR5.out)
    have hce := cell_of_one hre
    refine ⟨by simp, .inl ⟨_, _, rfl, run_takeDeferred hDk, ?_⟩⟩
    refine ⟨.int .i64 4, by simp [results, Try.results45, go_sem, hce], ?_, ?_⟩
    ·
     rw [HCK3.out]
    ·
     exact below_putO ((HB5.out.setCell (by show S ≤ S + 1; omega) _).mono HSW.out.2) (by have := HD.out; have := HSW.out; omega) _
   ·
    have h65i : ¬ (65536 : Int) < (Z : Int) := by omega
    have hck := HCK2.out
    rw [if_neg h65] at hck
    have HCK3 := Lib.hid hck
    clear hck HCK2
    gi_wp2_with fail
    have hDk : (W2.setCell ⟨S + 1, 0, none⟩ (.int .i64 0)).heap[D]? = some (.deferred (some [])) := (Below.heap_setCell _ _ _ _ (by have := HD.out; show D ≠ S + 1; omega)).trans HK5.out
    have hre : ((W2.setCell ⟨S + 1, 0, none⟩ (.int .i64 0)).putObj D (.deferred none)).heap[S + 1]? = some (.cells #[.int .i64 0] 28 (0, 0)) := (World.putObj_heap_other (by have := HD.out; omega)).trans (one_setCell HR5.out)
    have hce := cell_of_one hre
    refine ⟨by simp, .inl ⟨_, _, rfl, run_takeDeferred hDk, ?_⟩⟩
    refine ⟨.int .i64 0, by simp [results, Try.results45, go_sem, hce], ?_, ?_⟩
    ·
     rw [HCK3.out]
    ·
     exact below_putO ((HB5.out.setCell (by show S ≤ S + 1; omega) _).mono HSW.out.2) (by have := HD.out; have := HSW.out; omega) _
  case stop =>
   rintro D cd pre W hD hpre ⟨rfl, h2, h3, h4⟩ hK
   have hT : shpB o = false := by
    obtain ⟨r, hr⟩ := hpre
    obtain ⟨e, he, h2⟩ := h2
    rw [vis_shp 1 o, List.all_eq_false]
    exact ⟨prjE e, by rw [← hr]; exact List.mem_append_left _ (List.mem_map_of_mem he), by show ¬ topB e.2.1 = true; rw [h2]; decide⟩
   have hck := HCK.out
   rw [hT, if_pos rfl] at hck
   have HCK3 := Lib.hid hck
   have H3 := Lib.hid h3
   have H4 := Lib.hid h4
   have HK := Lib.hid hK
   have HD : RowKit.Hid (S + 1 < D) := Lib.hid (by have := HZ0.out; omega)
   clear h2 h3 h4 hpre hT hK hD hck HCK
   gi_wp2_with fail
   have hre : (W.putObj D (.deferred none)).heap[S + 1]? = some (.cells #[.int .i64 8] 28 (0, 0)) := (World.putObj_heap_other (by have := HD.out; omega)).trans H3.out
   have hce := cell_of_one hre
   refine ⟨by simp, .inl ⟨_, _, rfl, run_takeDeferred HK.out, ?_⟩⟩
   refine ⟨.int .i64 8, by simp [results, Try.results45, go_sem, hce], ?_, ?_⟩
   ·
    rw [HCK3.out]
   ·
    exact below_putO (H4.out.mono HSW.out.2) (by have := HD.out; have := HSW.out; omega) _
theorem check_any8 (o : Oct) (hcn : cnt o ≤ 900000) (htt : tot o ≤ 400000) (w : World) (x y : Value) (hat : At (fun _ => True) w o x y) :
  Calls Try.prog 45 #[.agg (cell3 o x y)] w (fun e w' => e = .returned (.int .i64 (ckV o)) ∧ Below w.heap.size w w') := by
 obtain ⟨t, b, l⟩ := o
 exact check_of t b l hcn htt w x y hat
end Go.Proofs.Ythfgdgcdicacpaa
