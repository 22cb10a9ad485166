/-
  OctetCodes: Encode and Decode of both sides. Written by wip/gen-oc27.py.
-/
import Derived.Test.YtlbchefdkdngnaaOcRMQ
import Derived.Test.YtlbchefdkdngnaaRows
namespace Go.Proofs.Ytlbchefdkdngnaa
open Go.ChangeShapes Go.WideShapes Go.ChangeAt Go.RowKit Sha Oc
set_option linter.unusedVariables false
set_option linter.unusedSimpArgs false
set_option maxRecDepth 100000
def encX (o : Oct) : List UInt8 := if ckV o = 0 then enc o else []
theorem encX_len (o : Oct) : (encX o).length ≤ 65536 := by
  unfold encX
  split
  · rename_i h
    have := ck_ok o h
    rw [siz_eq] at this
    omega
  · exact Nat.zero_le _
/-- Encode's answer, as one -/
def EncU (X : List UInt8) (E : Int) (w : World) (e : Ending) (w' : World) : Prop := Below w.heap.size w w' ∧ ∃ A c, e = .returned (.tuple #[.slice A X.length c, .int .i64 E]) ∧ X.length ≤ c ∧ (A = none → c = 0) ∧ SrcAt A X w' ∧ ∀ ga oa, A = some ⟨ga, oa, none⟩ → Rw w.heap.size w' ga
theorem enc_uni {o : Oct} {w : World} {e : Ending} {w' : World} (h : EncPost o w e w') : EncU (encX o) (ckV o) w e w' := by
  obtain ⟨hb, ⟨hk, v, rfl, hown⟩ | ⟨hk, rfl⟩⟩ := h
  · obtain ⟨A, c, rfl, h1, h2, h3, h4⟩ := own_rd3 hown
    have hX : encX o = enc o := if_pos hk
    exact ⟨hb, A, c, by rw [hX, hk], by rw [hX]; exact h1, h2, by rw [hX]; exact h3, h4⟩
  · have hX : encX o = [] := if_neg hk
    exact ⟨hb, none, 0, by rw [hX]; rfl, by rw [hX]; exact Nat.le_refl _, fun _ => rfl, by rw [hX]; exact fun e => absurd rfl e, fun _ _ e => by cases e⟩
theorem dec_small (b : List UInt8) : cnt (decV b).1 ≤ 4000 ∧ tot (decV b).1 ≤ 65536 := by
  rcases decV_cases b with ⟨o, h1, h2, h3⟩ | ⟨h1, _⟩ | ⟨h1, _⟩
  · rw [h1]
    have := ck_ok o h3
    have h4 := tot_enc o
    rw [siz_eq] at this
    exact ⟨this.1, by show tot o ≤ 65536; omega⟩
  · rw [h1]; decide
  · rw [h1]; decide
set_option maxHeartbeats 8000000 in
theorem codes8_true (w : World) (o : Oct) (x1 y1 : Value) (h1 : At (fun _ => True) w o x1 y1) (b : List UInt8) (A : Option Addr) (c : Nat) (hc : b.length ≤ c) (hcm : c ≤ 140737488355328) (hcn : A = none → c = 0) (hs : SrcAt A b w) :
    Calls Try.prog 5 #[.agg (cell3 o x1 y1), .slice A b.length c] w (fun e w' => e = .returned (.bool true) ∧ Below w.heap.size w w') := by
  have HG := Lib.hid (fun (V : World) (hb : Below w.heap.size w V) => great8_any o V x1 y1 (h1.on hb))
  have HTR := Lib.hid (fun (q1 : cnt o ≤ 5000) (q2 : tot o ≤ 100000) (V : World) (hb : Below w.heap.size w V) => twin_ref8 5000 o q1 (Nat.le_refl _) q2 V x1 y1 (h1.on hb))
  have HEP := Lib.hid (fun (q1 : cnt o ≤ 5000) (q2 : tot o ≤ 100000) (V : World) (hb : Below w.heap.size w V) => (encode_any o (by omega) (by omega) V x1 y1 (h1.on hb)).mono fun _ _ h => enc_uni h)
  have HER := Lib.hid (fun (q1 : cnt o ≤ 5000) (q2 : tot o ≤ 100000) (V : World) (hb : Below w.heap.size w V) => (encode_ref o q1 q2 V x1 y1 (h1.on hb)).mono fun _ _ h => enc_uni h)
  have HDP := Lib.hid (fun (q : b.length ≤ 100000) (V : World) (hb : Below w.heap.size w V) => decode_any b q A c hc hcn V (hs.on hb))
  have HDR := Lib.hid (fun (q : b.length ≤ 100000) (V : World) (hb : Below w.heap.size w V) => decode_ref b q A c hc hcm V (hs.on hb))
  have HRS := Lib.hid (fun (q1 : cnt o ≤ 10000) (q3 : tot o ≤ 1000000) (V : World) (hb : Below w.heap.size w V) (x' y' : Value) (h' : At (fun _ => True) V o x' y') => rsame_any 10000 o o q1 (Nat.le_refl _) q1 q3 q3 V x1 y1 x' y' (h1.on hb) h')
  unfold GtPost at HG
  unfold TwPost at HTR
  unfold EncU at HEP HER
  unfold DecPost at HDP HDR
  unfold EqPost at HRS
  obtain ⟨A1, m1, c1, B1, n1, d1, rfl, rfl⟩ := h1.slices
  obtain ⟨t1, ht1⟩ : ∃ t1 : Int, ((tagO o).toNat : Int) = t1 := ⟨_, rfl⟩
  obtain ⟨m, hm⟩ : ∃ m, b.length = m := ⟨_, rfl⟩
  have HT1 := Lib.hid ht1
  have HM := Lib.hid hm
  have HS := Lib.hid hs
  have HN := Lib.hid hcn
  unfold cell3 at HG HTR HEP HER HRS
  show Calls Try.prog 5 #[.agg #[.int .u8 ((tagO o).toNat : Int), .slice A1 m1 c1, .slice B1 n1 d1], .slice A b.length c] w _
  rw [ht1] at HG HTR HEP HER HRS ⊢
  rw [hm] at HDP HDR hc ⊢
  have HR0 := Lib.hid (heap_alloc_new w (.cells #[.int .u8 t1, .slice A1 m1 c1, .slice B1 n1 d1] 28))
  have HB0 := Lib.hid (below_new w (.cells #[.int .u8 t1, .slice A1 m1 c1, .slice B1 n1 d1] 28))
  have hm7 : (m : Int) ≤ 140737488355328 := by omega
  clear ht1 h1 hm hs hcn hc hcm
  go_enter Try.func5, Try.ntmps5
  go_upto_region 1 with (fail)
  generalize hV : World.alloc w _ = V at HR0 HB0 ⊢
  clear hV
  have hlp := (Array.getElem?_eq_some_iff.1 (HR0.out)).1
  obtain ⟨_, p0, p1, p2⟩ := facts3 (HR0.out)
  have hrp := range3o p0 p1 p2
  go_wp2_with fail
  refine (HG.out V HB0.out).mono ?_
  rintro e w1 ⟨g1, rfl, hgt1, hb1⟩
  have HP1 := Lib.hid (row_on HR0.out hb1)
  have HB1 := Lib.hid (chain HB0.out hb1)
  clear hb1 HR0 HB0 HG
  clear hlp p0 p1 p2 hrp
  cases g1 with
  | true =>
    clear hgt1
    go_wp2_with fail
    go_ret
    exact ⟨rfl, HB1.out⟩
  | false =>
    by_cases hbig : 70000 < m
    · have hbi : (70000 : Int) < (m : Int) := by omega
      clear hgt1 hbig
      go_wp2_with fail
      go_ret
      exact ⟨rfl, HB1.out⟩
    · have hbi : ¬ (70000 : Int) < (m : Int) := by omega
      have HMB := Lib.hid (show m ≤ 70000 by omega)
      obtain ⟨ca, _, ta⟩ := hgt1 (by first | rfl | trivial)
      have HCT := Lib.hid (And.intro ca ta)
      have HTR1 := Lib.hid (HTR.out (by omega) (by omega) w1 HB1.out)
      clear ca ta hgt1 HTR hbig
      have hlp := (Array.getElem?_eq_some_iff.1 (HP1.out)).1
      obtain ⟨_, p0, p1, p2⟩ := facts3 (HP1.out)
      have hrp := range3o p0 p1 p2
      go_wp2_with fail
      refine HTR1.out.mono ?_
      rintro e w2 ⟨xw, yw, rfl, hwas, hb2⟩
      obtain ⟨A3, m3, c3, B3, n3, d3, rfl, rfl⟩ := hwas.slices
      have HB2 := Lib.hid (chain HB1.out hb2)
      have HP2 := Lib.hid (row_on HP1.out hb2)
      have HWAS2 := Lib.hid hwas.any
      clear hb2 hwas HTR1 HP1 HB1
      clear hlp p0 p1 p2 hrp
      have HE1 : RowKit.Hid ((w2.alloc (.cells #[] 5)).ownsRow w2.heap.size 5 1 (.slice (some ⟨w2.heap.size, 0, none⟩) 0 0) 0 []) := Lib.hid (own_empty8 (heap_alloc_new w2 _) (Nat.le_refl _))
      have HSQ := Lib.hid (HS.out.on (chain HB2.out (below_new w2 (.cells #[] 5))))
      go_upto_region 4 with (at_builtin; go_loud (refine append_src_at rfl (.tmp 26) (.tmp 27) rfl w2.heap.size _ _ _ rfl HE1.out A b c m HM.out rfl HN.out HSQ.out (by have := HMB.out; omega) (by rw [World.size_alloc]; omega) ?_); intro v3 w3 hg3; have HG3 := Lib.hid hg3; clear hg3)
      have hb23 : Below w2.heap.size w2 w3 := (below_new w2 (.cells #[] 5)).trans (HG3.out.below HE1.out (by rw [World.size_alloc]; omega))
      have ho3 := HG3.out.own
      rw [Nat.zero_add, List.nil_append, ← HM.out] at ho3
      obtain ⟨A9, c9, hv9, _, h9n, h9s, _⟩ := own_rd3 ho3
      rw [HM.out] at hv9
      obtain rfl := hv9
      have hb34 := below_new w3 (.cells #[.int .u8 t1, .slice A3 m3 c3, .slice B3 n3 d3] 28)
      have hb24 := chain hb23 hb34
      have HB4 := Lib.hid (chain HB2.out hb24)
      have HP4 := Lib.hid (row_on HP2.out hb24)
      have HW4 := Lib.hid (heap_alloc_new w3 (.cells #[.int .u8 t1, .slice A3 m3 c3, .slice B3 n3 d3] 28))
      have HWAS4 := Lib.hid (HWAS2.out.on hb24)
      have HK4 := Lib.hid (h9s.on hb34)
      have HS4 := Lib.hid (HS.out.on (chain HB2.out hb24))
      clear hb23 ho3 h9n h9s hb34 hb24 HG3 HE1 HSQ HB2 HP2 HWAS2
      try rw [HM.out]
      obtain ⟨SB, hSB⟩ : ∃ SB, w3.heap.size = SB := ⟨_, rfl⟩
      rw [hSB] at HW4
      try rw [hSB]
      generalize hV4 : World.alloc w3 _ = w4 at HB4 HP4 HW4 HWAS4 HK4 HS4 ⊢
      clear hV4 hSB
      have hct := HCT.out
      have HEP4 := Lib.hid (HEP.out (by omega) (by omega))
      have HER4 := Lib.hid (HER.out (by omega) (by omega))
      have HDP4 := Lib.hid (HDP.out (by have := HMB.out; omega))
      have HDR4 := Lib.hid (HDR.out (by have := HMB.out; omega))
      clear hct HEP HER HDP HDR
      obtain ⟨X, hX⟩ : ∃ X, encX o = X := ⟨_, rfl⟩
      obtain ⟨E, hE⟩ : ∃ E, ckV o = E := ⟨_, rfl⟩
      rw [hX, hE] at HEP4 HER4
      have HXL : RowKit.Hid (X.length ≤ 65536) := Lib.hid (by rw [← hX]; exact encX_len o)
      have hds := dec_small b
      obtain ⟨D, hD⟩ : ∃ D, (decV b).1 = D := ⟨_, rfl⟩
      obtain ⟨F, hF⟩ : ∃ F, (decV b).2 = F := ⟨_, rfl⟩
      rw [hD, hF] at HDP4 HDR4
      rw [hD] at hds
      have HDS := Lib.hid hds
      unfold cell3 at HDP4 HDR4
      obtain ⟨dz, hdz⟩ : ∃ dz : Int, ((tagO D).toNat : Int) = dz := ⟨_, rfl⟩
      rw [hdz] at HDP4 HDR4
      have HDZ := Lib.hid hdz
      clear hX hE hds hD hF hdz
      have hlp := (Array.getElem?_eq_some_iff.1 (HP4.out)).1
      obtain ⟨_, p0, p1, p2⟩ := facts3 (HP4.out)
      have hrp := range3o p0 p1 p2
      go_wp2_with fail
      refine (HEP4.out w4 HB4.out).mono ?_
      rintro e w5 ⟨hb5, A5, c5, rfl, hxc, hxn, hxs, hxr⟩
      have HP5 := Lib.hid (row_on HP4.out hb5)
      have HB5 := Lib.hid (chain HB4.out hb5)
      have H45 := Lib.hid hb5
      have HXS := Lib.hid hxs
      have hxa : At (Rw w4.heap.size w5) w5 (.mk 0 X []) (.slice A5 X.length c5) (.slice none 0 0) := .mk 0 X [] A5 c5 none 0 0 0 (fun _ => undef) (fun _ => undef) hxc (by have := HXL.out; omega) hxn hxs (fun ga oa e _ => hxr ga oa e) (Nat.le_refl _) (by decide) (fun _ => rfl) (fun h => absurd rfl h) (fun k o h => by simp at h) (fun k o h => by simp at h) (fun k o h => by simp at h) (fun k o h => by simp at h)
      have HXA := Lib.hid hxa
      clear hxa
      clear hb5 hxs hxr hxc hxn HEP4
      clear hlp p0 p1 p2 hrp
      have hlp := (Array.getElem?_eq_some_iff.1 (HP5.out)).1
      obtain ⟨_, p0, p1, p2⟩ := facts3 (HP5.out)
      have hrp := range3o p0 p1 p2
      go_wp2_with fail
      refine (HER4.out w5 HB5.out).mono ?_
      rintro e w6 ⟨hb6, A6, c6, rfl, _, _, hys, _⟩
      have HB6 := Lib.hid (chain HB5.out hb6)
      have H46 := Lib.hid (chain H45.out hb6)
      have H56 := Lib.hid hb6
      have HYS := Lib.hid hys
      clear hb6 hys HER4 HP5
      clear hlp p0 p1 p2 hrp
      go_wp2_with fail
      refine (HDP4.out w6 HB6.out).mono ?_
      rintro e w7 ⟨hb7, xc, yc, rfl, hatc⟩
      obtain ⟨A7, m7, c7, B7, n7, d7, rfl, rfl⟩ := hatc.slices
      have hb8 := below_new w7 (.cells #[.int .u8 dz, .slice A7 m7 c7, .slice B7 n7 d7] 28)
      have H48 := Lib.hid (chain H46.out (chain hb7 hb8))
      have H68 := Lib.hid (chain hb7 hb8)
      have HB8 := Lib.hid (chain HB6.out (chain hb7 hb8))
      have HC8 := Lib.hid (heap_alloc_new w7 (.cells #[.int .u8 dz, .slice A7 m7 c7, .slice B7 n7 d7] 28))
      have HAC8 := Lib.hid (hatc.own (b' := w4.heap.size) hb8 H46.out.size)
      clear hb7 hb8 hatc HDP4
      obtain ⟨CB, hCB⟩ : ∃ CB, w7.heap.size = CB := ⟨_, rfl⟩
      rw [hCB] at HC8
      go_upto_region 7 with (fail)
      try rw [hCB]
      generalize hV8 : World.alloc w7 _ = w8 at H48 H68 HB8 HC8 HAC8 ⊢
      clear hV8 hCB
      go_wp2_with fail
      refine (HDR4.out w8 HB8.out).mono ?_
      rintro e w9 ⟨hb9, xd, yd, rfl, hatd⟩
      obtain ⟨A8, m8, c8, B8, n8, d8, rfl, rfl⟩ := hatd.slices
      have hb10 := below_new w9 (.cells #[.int .u8 dz, .slice A8 m8 c8, .slice B8 n8 d8] 28)
      have hbb := chain hb9 hb10
      have H410 := Lib.hid (chain H48.out hbb)
      have H610 := Lib.hid (chain H68.out hbb)
      have HB10 := Lib.hid (chain HB8.out hbb)
      have HC10 := Lib.hid (row_on HC8.out hbb)
      have HAC10 := Lib.hid (HAC8.out.own (b' := w4.heap.size) hbb (Nat.le_refl _))
      have HD10 := Lib.hid (heap_alloc_new w9 (.cells #[.int .u8 dz, .slice A8 m8 c8, .slice B8 n8 d8] 28))
      have HAD10 := Lib.hid (hatd.any.on hb10)
      clear hb9 hb10 hbb hatd HDR4 H48 H68 HB8 HC8 HAC8
      obtain ⟨DB, hDB⟩ : ∃ DB, w9.heap.size = DB := ⟨_, rfl⟩
      rw [hDB] at HD10
      go_upto_region 8 with (fail)
      try rw [hDB]
      generalize hV10 : World.alloc w9 _ = w10 at H410 H610 HB10 HC10 HAC10 HD10 HAD10 ⊢
      clear hV10 hDB
      have hsb := samebytes_any X X A5 A6 c5 c6 (by have := HXL.out; omega) (by have := HXL.out; omega) w10 (HXS.out.on (chain H56.out H610.out)) (HYS.out.on H610.out)
      rw [decide_eq_true rfl] at hsb
      have HSB := Lib.hid hsb
      have hsd := fun (V : World) (hb : Below w10.heap.size w10 V) => rsame_any 10000 D D (by have := HDS.out; omega) (Nat.le_refl _) (by have := HDS.out; omega) (by have := HDS.out; omega) (by have := HDS.out; omega) V _ _ _ _ (HAC10.out.any.on hb) (HAD10.out.on hb)
      unfold EqPost cell3 at hsd
      rw [eqO_self, HDZ.out] at hsd
      have HSD := Lib.hid hsd
      have HXA10 := Lib.hid (HXA.out.own (b' := w4.heap.size) (chain H56.out H610.out) (Nat.le_refl _))
      clear hsb hsd H56 H610 HXS HYS HXA H45 H46 HB5 HB6
      go_wp2_with fail
      refine HSB.out.mono ?_
      rintro e w11 ⟨rfl, hb11⟩
      have HC11 := Lib.hid (row_on HC10.out hb11)
      have HD11 := Lib.hid (row_on HD10.out hb11)
      have H11 := Lib.hid hb11
      clear hb11 HSB HC10 HD10
      have hlp := (Array.getElem?_eq_some_iff.1 (HC11.out)).1
      obtain ⟨_, p0, p1, p2⟩ := facts3 (HC11.out)
      have hrp := range3o p0 p1 p2
      have hlq := (Array.getElem?_eq_some_iff.1 (HD11.out)).1
      obtain ⟨_, q0, q1, q2⟩ := facts3 (HD11.out)
      have hrq := range3o q0 q1 q2
      go_wp2_with fail
      refine (HSD.out w11 H11.out).mono ?_
      rintro e w12 ⟨rfl, hb12⟩
      have H12 := Lib.hid (chain H11.out hb12)
      have HC12 := Lib.hid (row_on HC11.out hb12)
      have HXA12 := Lib.hid (HXA10.out.own (b' := w4.heap.size) H12.out (Nat.le_refl _))
      have HAC12 := Lib.hid (HAC10.out.own (b' := w4.heap.size) H12.out (Nat.le_refl _))
      have H412 := Lib.hid (chain H410.out H12.out)
      clear hb12 HC11 HD11 H11 HSD HXA10 HAC10 HAD10 H410
      clear hlp p0 p1 p2 hrp
      clear hlq q0 q1 q2 hrq
      obtain ⟨xl, hxl⟩ : ∃ xl, X.length = xl := ⟨_, rfl⟩
      have hxl5 : xl ≤ 65536 := by rw [← hxl]; exact HXL.out
      have HXL5 := Lib.hid hxl5
      rw [hxl] at HXA12
      try rw [hxl]
      try simp only [hxl]
      clear hxl hxl5
      go_wp2_with fail
      go_loopw [16] (fun i wr => ∃ k : Nat, k ≤ xl ∧ i = .int .i64 (k : Int) ∧ RowKit.Hid (Sp w4.heap.size w12 wr)) (fun i _ => xl - (intOf i).toNat)
      case atStart => exact ⟨0, by omega, rfl, Lib.hid (Sp.refl _ _)⟩
      case round =>
        obtain ⟨k, hk, rfl, HSP⟩ := hrel
        by_cases hlt : k < xl
        · have hki : (k : Int) < (xl : Int) := by omega
          have hm6 := HXL5.out
          obtain ⟨ga, oa, a, rfl, hnc, hcell, hgl, hfr, hset⟩ := spoil_byte HXA12.out HSP.out k hlt
          have HSET := Lib.hid hset
          clear hset
          go_wp2_with fail
          exact ⟨⟨k + 1, by omega, by go_num, Lib.hid (HSP.out.trans (HSET.out _ (by omega) (by omega)))⟩, by simp [intOf]; omega⟩
        · have hge : ¬ (k : Int) < (xl : Int) := by omega
          have HSZ : RowKit.Hid (w4.heap.size ≤ wr.heap.size) := Lib.hid (by have h1 := HSP.out.size; have h2 := H412.out.size; omega)
          go_upto_region 13 with (fail)
          clear hge hlt hk
          obtain ⟨_, p0, p1, p2⟩ := facts3 HC12.out
          rw [← HDZ.out] at p0
          obtain ⟨zt, e0⟩ := HSP.out.byte p0
          have e1 := HSP.out.keep p1
          have e2 := HSP.out.keep p2
          clear p0 p1 p2
          have hrg := range3o e0 e1 e2
          have hgl := World.block_lt_of_cell? _ _ e0
          obtain ⟨o', hat', hcn', htt', rfl⟩ := Oc.At.spoil HSP.out HAC12.out zt
          have hcall := spoil_all 10000 (Nat.le_refl _) w4.heap.size o' (by have := HDS.out; omega) (by have := HDS.out; omega) wr _ _ HSZ.out hat'
          have HCALL := Lib.hid hcall
          clear hcall hat' hcn' htt'
          go_wp2_with fail
          refine (HCALL.out).mono ?_
          rintro e wz ⟨rfl, hsp⟩
          have h4z : Below w4.heap.size w4 wz := H412.out.trans ((HSP.out.trans hsp).below (Nat.le_refl _))
          have hsm := HRS.out (by have := HCT.out; omega) (by have := HCT.out; omega) wz (chain HB4.out h4z) _ _ (HWAS4.out.on h4z)
          try rw [HT1.out] at hsm
          rw [eqO_self] at hsm
          have HSM := Lib.hid hsm
          have H4Z := Lib.hid h4z
          have HPE := Lib.hid (row_on HP4.out h4z)
          have HWE := Lib.hid (row_on HW4.out h4z)
          clear hsm h4z hsp e0 e1 e2 hrg hgl
          have hlp := (Array.getElem?_eq_some_iff.1 (HPE.out)).1
          obtain ⟨_, p0, p1, p2⟩ := facts3 (HPE.out)
          have hrp := range3o p0 p1 p2
          have hlr := (Array.getElem?_eq_some_iff.1 (HWE.out)).1
          obtain ⟨_, r0, r1, r2⟩ := facts3 (HWE.out)
          have hrr := range3o r0 r1 r2
          go_wp2_with fail
          refine HSM.out.mono ?_
          rintro e wy ⟨rfl, hby⟩
          have H4Y := Lib.hid (chain H4Z.out hby)
          have hsb := samebytes_any b b A A9 c c9 (by have h1 := HM.out; have h2 := HMB.out; omega) (by have h1 := HM.out; have h2 := HMB.out; omega) wy (HS4.out.on H4Y.out) (HK4.out.on H4Y.out)
          rw [decide_eq_true rfl, HM.out] at hsb
          have HSB := Lib.hid hsb
          clear hby hsb hlp p0 p1 p2 hrp hlr r0 r1 r2 hrr
          go_wp2_with fail
          refine HSB.out.mono ?_
          rintro e wx ⟨rfl, hbx⟩
          have HEND := Lib.hid (chain HB4.out (chain H4Y.out hbx))
          clear hbx
          go_wp2_with fail
          go_ret
          exact ⟨rfl, HEND.out⟩
/-! The row -/
set_option maxRecDepth 100000 in
theorem codes8_lifted (os : Os) (started : os.Started) (H : Type) (enc : TypeId × Value → H) :
    ReturnsInHanded {} Try.checked os 5 .any (Rows.octetCodesSpec.pre6 enc Try.prog Try.f5 Rows.octetCodesRow.domain false) (Rows.octetCodesSpec.post enc Try.prog Try.f5 false true false false) := by
  refine sized_of_change (C := Try.checked) Try.own started (by kernel_rfl) Try.func5 rfl
    (ChangeSpec.witness6 (enc := enc) (C := Try.checked) false ⟨#[], #[.agg #[.int .u8 0, .slice none 0 0, .slice none 0 0], .slice none 0 0], []⟩ 8 (by kernel_rfl) (by kernel_rfl) (by kernel_rfl) (by kernel_rfl)) ?_
  intro W base args ds gs before hval0 hW hwts
  have hval : ∀ (j : Nat) t v, Try.f5.params[j]? = some t → args[j]? = some v → Value.okWide Try.prog W .any base t v := hval0
  have hW' := hW
  obtain ⟨p, q, hA0, hV, rfl, hfz, hnd⟩ := hW
  have hA : DataW.TrodAll enc Try.prog W 0 (fun _ => true) true Try.f5.params.toList args.toList ds p := hA0
  have hwt : ∀ n ∈ DataW.weightsEach Try.prog Try.f5.params.toList ds, n ≤ 140737488355328 := hwts
  rw [Try.params5] at hA hval hwt
  obtain ⟨v0, vs0, d0, ds0, p0, q0, hargs, rfl, rfl, h0, r0⟩ := trodAll_cons hA
  obtain ⟨v1, vs1, d1, ds1, p1, q1, rfl, rfl, rfl, h1, r1⟩ := trodAll_cons r0
  obtain ⟨rfl, rfl, rfl⟩ := trodAll_nil r1
  obtain rfl : args = #[v0, v1] := by cases args; simp_all
  obtain ⟨rfl, rfl⟩ := trodVars_none hV
  obtain ⟨o0, x0, y0, rfl, hat0⟩ := open_oct (hval 0 28 v0 rfl rfl) h0 (fun n hn => hwt n (List.mem_append_left _ hn))
  obtain ⟨A1, l1, c1, rfl, hc1, hm1, hn1, hs1⟩ := open_bytes8 (hval 1 22 v1 rfl rfl) h1 (fun n hn => hwt n (List.mem_append_right _ (List.mem_append_left _ hn)))
  refine (codes8_true W o0 x0 y0 hat0 l1 A1 c1 hc1 hm1 hn1 hs1).mono fun e W' ⟨he, hg⟩ => ?_
  subst he
  exact ⟨_, rfl, law_post Try.laidOut (by kernel_rfl) (by kernel_rfl) hW' hg (trodAll_cons_mk (shut_bool Try.underlying4 _) trodAll_mk0) rfl rfl⟩

/-- the statement -/
theorem codes8_holds : Rows.OctetCodesSaid :=
  OpenClaim.holds_of_wide 5 Try.f5 rfl rfl rfl rfl rfl rfl rfl ⟨rfl, rfl, rfl, rfl, rfl⟩ rfl rfl rfl rfl rfl (by kernel_rfl) Try.func5 (by kernel_rfl)
    (of_decide_eq_true (by kernel_rfl)) (by unfold Func.isWrapper; rw [if_neg (of_decide_eq_false (by kernel_rfl))]; exact ⟨rfl, rfl⟩)
    (fun os started H enc _ => codes8_lifted os started H enc)
#print axioms codes8_holds
end Go.Proofs.Ytlbchefdkdngnaa
