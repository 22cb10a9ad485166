import Derived.Test.YtcgffkkfeimifaaGreatDoorOcRK
namespace Go.Proofs.YtcgffkkfeimifaaGreatDoor
open Go.RowKit Sha Oc
set_option linter.unusedVariables false
set_option linter.unusedSimpArgs false
end Go.Proofs.YtcgffkkfeimifaaGreatDoor
namespace Go.Proofs.YtcgffkkfeimifaaGreatDoor
open Go.RowKit Sha Oc
set_option linter.unusedVariables false
set_option linter.unusedSimpArgs false
theorem own_one8 {w : World} {b Y : Nat} {t : UInt8} (hY : w.heap[Y]? = some (.cells #[.int .u8 (t.toNat : Int)] 5 (0, 0))) (hb : b ≤ Y) : w.ownsRow b 5 1 (.slice (some ⟨Y, 0, none⟩) 1 1) 1 [.int .u8 (t.toNat : Int)] :=
 ⟨rfl, .inr ⟨Y, 1, #[.int .u8 (t.toNat : Int)], rfl, hb, hY, Nat.le_refl _, by decide, rfl, rfl⟩⟩
theorem own_weak {w : World} {b b' : Nat} {v : Value} {n : Nat} {xs : List Value} (h : w.ownsRow b 5 1 v n xs) (hb : b' ≤ b) : w.ownsRow b' 5 1 v n xs := by
 obtain ⟨h1, h2 | ⟨g, cap, cur, h3, h4, h5⟩⟩ := h
 ·
  exact ⟨h1, .inl h2⟩
 ·
  exact ⟨h1, .inr ⟨g, cap, cur, h3, Nat.le_trans hb h4, h5⟩⟩
def RpPost (o : Oct) (w : World) (e : Ending) (w' : World) : Prop := ∃ v, e = .returned v ∧ w'.ownsRow w.heap.size 5 1 v (enc o).length (bvals (enc o)) ∧ Below w.heap.size w w'
set_option maxRecDepth 100000 in
set_option maxHeartbeats 4000000 in
theorem rput_of (t : UInt8) (b : List UInt8) (l : List Oct) (hcn : cnt (.mk t b l) ≤ 5000) (hsz0 : siz (.mk t b l) ≤ 900000)
  (hW : ∀ (k : Nat) (o : Oct), l[k]? = some o → ∀ (V : World) (x y : Value), At (fun _ => True) V o x y → Calls Tryz.prog 46 #[.agg (cell3 o x y)] V (RpPost o V))
  (w : World) (x y : Value) (hat : At (fun _ => True) w (.mk t b l) x y) :
  Calls Tryz.prog 46 #[.agg (cell3 (.mk t b l) x y)] w (RpPost (.mk t b l) w) := by
 obtain ⟨A, c, B, d, g, off, vb, vl, rfl, rfl, hc, hbm, hcn0, hs, hd, hdn, he⟩ := hat.els
 have hsz : siz (.mk t b l) = 1 + (lenb (b.length + sizs l)).length + (b.length + sizs l) := by rw [siz]
 have hen : enc (.mk t b l) = [t] ++ lenb (b.length + sizs l) ++ (b ++ encs l) := by rw [enc, sizs_eq, List.singleton_append, List.cons_append]
 obtain ⟨Z, hZ⟩ : ∃ Z, b.length + sizs l = Z := ⟨_, rfl⟩
 obtain ⟨n, hn⟩ : ∃ n, l.length = n := ⟨_, rfl⟩
 obtain ⟨q, hq⟩ : ∃ q, b.length = q := ⟨_, rfl⟩
 have hll := len_cnts l
 rw [cnt] at hcn
 unfold RpPost at hW ⊢
 show Calls Tryz.prog 46 #[.agg #[.int .u8 (t.toNat : Int), .slice A b.length c, .slice B l.length d]] w _
 have hz5 : Z ≤ 1000000 := by rw [hsz, hZ] at hsz0; omega
 have hn5 : n ≤ 5000 := by omega
 have hq5 : q ≤ 900000 := by rw [hsz, hZ] at hsz0; omega
 have HLN := Lib.hid (fun V => length_ref Z (by omega) V)
 have HLB := Lib.hid (lenb_le Z)
 rw [hn, hq]
 rw [hen, hZ]
 obtain ⟨LL, hLL⟩ : ∃ LL, [t] ++ lenb Z ++ (b ++ encs l) = LL := ⟨_, rfl⟩
 have HLL := Lib.hid hLL
 rw [hLL]
 have HZ5 := Lib.hid hz5
 have HW := Lib.hid hW
 have HE := Lib.hid he
 have HN := Lib.hid hn
 have HQ := Lib.hid hq
 have HZ := Lib.hid hZ
 have HS := Lib.hid hs
 have HC0 := Lib.hid hcn0
 have HN5 := Lib.hid hn5
 have HQ5 := Lib.hid hq5
 obtain ⟨tz, htz⟩ : ∃ tz : Int, ((t.toNat : Nat) : Int) = tz := ⟨_, rfl⟩
 have HTZ := Lib.hid htz
 rw [htz]
 have HROW := Lib.hid (heap_alloc_new w (.cells #[.int .u8 tz, .slice A q c, .slice B n d] 68))
 have HB0 := Lib.hid (below_new w (.cells #[.int .u8 tz, .slice A q c, .slice B n d] 68))
 clear hW he hn hq hZ hs hcn0 hn5 hq5 hz5 hat hc hbm hd hdn hll hcn hsz hsz0 hen htz hLL
 go_enter Tryz.func46, Tryz.ntmps46
 go_upto_region 1 with (fail)
 generalize hV : World.alloc w _ = V at HROW HB0 ⊢
 clear hV
 have hle : w.heap.size ≤ V.heap.size := HB0.out.size
 have HLE := Lib.hid hle
 have hne : w.heap.size ≠ V.heap.size := by have := (Array.getElem?_eq_some_iff.1 HROW.out).1; omega
 have HE1 : RowKit.Hid ((V.alloc (.cells #[] 5)).ownsRow w.heap.size 5 1 (.slice (some ⟨V.heap.size, 0, none⟩) 0 0) 0 []) := Lib.hid (own_empty8 (heap_alloc_new V _) hle)
 have hb1 : Below V.heap.size V (V.alloc (.cells #[] 5)) := below_new V _
 have hrow1 := row_on HROW.out hb1
 have HG1 : RowKit.Hid (Gbx w.heap.size (V.alloc (.cells #[] 5)) (.slice (some ⟨V.heap.size, 0, none⟩) 0 0) w.heap.size (.cells #[.int .u8 tz, .slice A q c, .slice B n d] 68 (0, 0)) (V.alloc (.cells #[] 5)) (.slice (some ⟨V.heap.size, 0, none⟩) 0 0) 0 []) := Lib.hid ⟨Grw.refl HE1.out, hrow1, fun e => hne (Option.some.inj e)⟩
 have HB1 : RowKit.Hid (Below w.heap.size w (V.alloc (.cells #[] 5))) := Lib.hid (chain HB0.out hb1)
 have HS1 := Lib.hid (HS.out.on (chain HB0.out hb1))
 have hlt := (Array.getElem?_eq_some_iff.1 HROW.out).1
 obtain ⟨_, hc0, hc1, hc2⟩ := facts3 HROW.out
 obtain ⟨_, hd0, hd1, hd2⟩ := facts3 hrow1
 clear hle hne hb1 hrow1
 go_upto_region 2 with (at_builtin; go_loud (refine append_src_at rfl (.tmp 6) (.tmp 8) rfl w.heap.size _ _ _ rfl HE1.out A b c q HQ.out rfl HC0.out HS1.out (by have := HQ5.out; omega) HB1.out.size ?_); intro v1 w1 hg1; have HG2 := Lib.hid (HG1.out.app hg1); clear hg1)
 clear hlt hc0 hc1 hc2 hd0 hd1 hd2 HG1 HS1 HROW HS HC0
 generalize hV1 : World.alloc V _ = V1 at HE1 HB1 HG2
 clear hV1
 go_wp2_with fail
 go_loopw [3, 4] (fun vv ix wr => ∃ k : Nat, k ≤ n ∧ ix = .int .i64 (k : Int) ∧ RowKit.Hid (Gbx w.heap.size V1 (.slice (some ⟨V.heap.size, 0, none⟩) 0 0) w.heap.size (.cells #[.int .u8 tz, .slice A q c, .slice B n d] 68 (0, 0)) wr vv (q + sizs (l.take k)) (bvals b ++ bvals (encs (l.take k))))) (fun _ ix _ => n - (intOf ix).toNat)
 case atStart =>
  refine ⟨0, by omega, rfl, Lib.hid ?_⟩
  rw [List.take_zero, sizs, encs]
  simpa [bvals] using HG2.out
 case round =>
  clear HG2
  obtain ⟨k, hk, rfl, HG⟩ := hrel
  have hlt0 := (Array.getElem?_eq_some_iff.1 HG.out.row).1
  obtain ⟨_, hf0, hf1, hf2⟩ := facts3 HG.out.row
  have hbw : Below w.heap.size w wr := HB1.out.trans (HG.out.g.below HE1.out HB1.out.size)
  by_cases hlt : k < n
  ·
   have hki : (k : Int) < (n : Int) := by omega
   have hn5 := HN5.out
   obtain ⟨o, ho⟩ : ∃ o, l[k]? = some o := ⟨_, List.getElem?_eq_getElem (by rw [HN.out]; exact hlt)⟩
   have hBB := HE.out.hB (fun e => by rw [e] at ho; simp at ho)
   subst hBB
   have hew := HE.out.on hbw
   have hc0 := hew.h0 k o ho
   have hc1 := hew.h1 k o ho
   have hc2 := hew.h2 k o ho
   have hat := hew.hr k o ho
   obtain ⟨A1, m1, c1, B1, n1, d1, e1, e2⟩ := hat.slices
   rw [e1] at hc1 hat
   rw [e2] at hc2 hat
   have HTK : RowKit.Hid (sizs (l.take (k + 1)) = sizs (l.take k) + siz o ∧ bvals (encs (l.take (k + 1))) = bvals (encs (l.take k)) ++ bvals (enc o)) := Lib.hid (by
    rw [List.take_add_one, ho]
    show sizs (l.take k ++ [o]) = _ ∧ bvals (encs (l.take k ++ [o])) = _
    exact ⟨sizs_snoc _ _, by rw [encs_snoc, bvals_app]⟩)
   have hb6 : q + sizs (l.take k) + siz o ≤ 1000000 := by
    have h1 := HZ5.out
    have h2 := HTK.out.1
    have h5 := HZ.out
    have h6 := HQ.out
    have h3 : sizs (l.take (k + 1)) ≤ sizs l := by
     have h4 : sizs (l.take (k + 1)) + sizs (l.drop (k + 1)) = sizs l := by rw [← sizs_app, List.take_append_drop]
     omega
    omega
   have HB6 := Lib.hid hb6
   have HCALL := Lib.hid (HW.out k o ho wr _ _ hat)
   have HBW := Lib.hid hbw
   clear hew hat ho e1 e2 hb6 hbw
   unfold cell3 at HCALL
   go_wp2_with fail
   refine HCALL.out.mono ?_
   rintro e w2 ⟨v2, rfl, ho2, hb2⟩
   obtain ⟨A2, c2, rfl, _, h2n, h2s, _⟩ := own_rd3 ho2
   have HG3 := Lib.hid (HG.out.on hb2)
   have H2N := Lib.hid h2n
   have H2S := Lib.hid h2s
   have HSE := Lib.hid (siz_eq o)
   clear hc0 hc1 hc2 hlt0 hf0 hf1 hf2 ho2 h2n h2s hb2 HCALL
   go_upto_region 4 with (at_builtin; go_loud (refine append_src_at rfl (.tmp 17) (.tmp 23) rfl w.heap.size _ _ _ rfl HG3.out.g.own A2 (enc o) c2 _ rfl rfl H2N.out H2S.out (by have h1 := HB6.out; have h2 := HSE.out; omega) (Nat.le_trans HB1.out.size HG3.out.g.grown.size) ?_); intro v4 w4 hg4; have HG5 := Lib.hid (HG3.out.app hg4); clear hg4)
   go_wp2_with fail
   refine ⟨⟨k + 1, by omega, by go_num, Lib.hid ?_⟩, by simp [intOf]; omega⟩
   rw [HTK.out.1, HTK.out.2, ← Nat.add_assoc, ← List.append_assoc, HSE.out]
   exact HG5.out
  ·
   have hkk : k = n := by omega
   have hge : ¬ (k : Int) < (n : Int) := by omega
   have HKK := Lib.hid hkk
   have HBW := Lib.hid hbw
   clear hkk hbw
   go_upto_region 6 with (fail)
   clear hlt0 hf0 hf1 hf2 hge hlt hk
   have hgz : Gbx w.heap.size V1 (.slice (some ⟨V.heap.size, 0, none⟩) 0 0) w.heap.size (.cells #[.int .u8 tz, .slice A q c, .slice B n d] 68 (0, 0)) wr u3 Z (bvals (b ++ encs l)) := by
    have h1 := HG.out
    rw [HKK.out, List.take_of_length_le (by rw [HN.out]; exact Nat.le_refl _), ← bvals_app, show q + sizs l = Z by have h1 := HZ.out; have h2 := HQ.out; omega] at h1
    exact h1
   have hzl : Z = (b ++ encs l).length := by rw [List.length_append, ← sizs_eq]; exact HZ.out.symm
   obtain ⟨AZ, cZ, hvz, _, hzn, hzs, _⟩ := own_rd3 (by rw [← hzl]; exact hgz.g.own)
   have hob : ∀ j, u3.ownBlock = some j → w.heap.size ≤ j := fun j hj => (own_ge hgz.g.own hj).1
   rw [← hzl] at hvz
   obtain rfl := hvz
   obtain ⟨U, hU⟩ : ∃ U, wr.drew = U := ⟨_, rfl⟩
   have hbU : Below wr.heap.size wr U := by rw [← hU]; exact (Below.refl _ _).drew
   have HGU := Lib.hid (hgz.on hbU)
   have HZL := Lib.hid hzl
   have HZN := Lib.hid hzn
   have HBU : RowKit.Hid (Below w.heap.size w U) := Lib.hid (HBW.out.trans (hbU.mono HBW.out.size))
   have hrow := HGU.out.row
   have mkS : ∀ z, Below U.heap.size U z → z.cell? ⟨w.heap.size, 0, none⟩ = some (.int .u8 tz) := fun z hz => (facts3 (row_on hrow hz)).2.1
   have hS0 : wr.drew.cell? ⟨w.heap.size, 0, none⟩ = some (.int .u8 tz) := by rw [hU]; exact mkS _ (Below.refl _ _)
   have HZS := Lib.hid (fun (z : World) (hz : Below U.heap.size U z) => (hzs.on hbU).on hz)
   clear hgz hzl hzn hzs hob HG HKK hbU hrow HE HW
   refine wp_region_held_drew (S := fun z => z.cell? ⟨w.heap.size, 0, none⟩ = some (.int .u8 tz)) (by kernel_rfl) hS0 (fun hHeld => ?_)
   rw [hU] at hHeld ⊢
   clear hS0 hU
   refine wpAnyH_take (i := 0) (oi := { dst := some 25, op := .fieldAddr 68 (.tmp 1) 0, type := 0, pos := "ref.go:90", after := #[], guard := none }) (v := ?_) rfl (by kernel_rfl) (by kernel_rfl) (by kernel_rfl) (fun _ _ _ h => h) (Or.inl ⟨by rfl, ?_⟩) hHeld ?_
   rotate_left
   ·
    intro w hSw
    clear hSw
    go_simp
    try with_reducible rfl
   try simp only [Act.put, List.setIfInBounds_toArray, List.set_cons_zero, List.set_cons_succ]
   refine wpAnyH_take (i := 1) (oi := { dst := some 26, op := .load 5 (.tmp 25), type := 5, pos := "ref.go:90", after := #[{ on := 0, ground := .data }], guard := none }) (v := ?_) rfl (by kernel_rfl) (by kernel_rfl) (by kernel_rfl) (fun _ _ _ h => h) (Or.inl ⟨by rfl, ?_⟩) hHeld ?_
   rotate_left
   ·
    intro w hSw
    have hfc := hSw
    clear hSw
    go_simp
    try with_reducible rfl
   try simp only [Act.put, List.setIfInBounds_toArray, List.set_cons_zero, List.set_cons_succ]
   refine wpAnyH_take (i := 3) (oi := { dst := some 28, op := .move (.tmp 3), type := 34, pos := "ref.go:90", after := #[], guard := none }) (v := ?_) rfl (by kernel_rfl) (by kernel_rfl) (by kernel_rfl) (fun _ _ _ h => h) (Or.inl ⟨by rfl, ?_⟩) hHeld ?_
   rotate_left
   ·
    intro w hSw
    clear hSw
    go_simp
    try with_reducible rfl
   try simp only [Act.put, List.setIfInBounds_toArray, List.set_cons_zero, List.set_cons_succ]
   refine wpAnyH_take (i := 4) (oi := { dst := some 29, op := .call { callee := .builtin .len, args := #[.tmp 28], argTypes := #[34] }, type := 3, pos := "ref.go:90", after := #[{ on := 3, ground := .data }], guard := none }) (v := ?_) rfl (by kernel_rfl) (by kernel_rfl) (by kernel_rfl) (fun _ _ _ h => h) (Or.inl ⟨by rfl, ?_⟩) hHeld ?_
   rotate_left
   ·
    intro w hSw
    clear hSw
    go_simp
    try with_reducible rfl
   try simp only [Act.put, List.setIfInBounds_toArray, List.set_cons_zero, List.set_cons_succ]
   refine wpAnyH_ready (rs := [2, 5]) (by kernel_rfl) (by simp) (AllReadyH.cons (o := { dst := some 27, op := .buildSlice 34 1 #[(0, .tmp 26)], type := 34, pos := "ref.go:90", after := #[{ on := 1, ground := .data }], guard := none }) rfl (fun K hK => ?_) (AllReadyH.cons (o := { dst := some 30, op := .call { callee := .value (.func 85), args := #[.tmp 29], argTypes := #[3] }, type := 34, pos := "ref.go:90", after := #[{ on := 4, ground := .data }], guard := none }) rfl (fun K hK => ?_) AllReadyH.nil))
   ·
    go_simp
    generalize hq : World.alloc U _ = z1
    have hn : Below U.heap.size U z1 := by rw [← hq]; exact below_new _ _
    have hr : z1.heap[U.heap.size]? = some (.cells #[.int .u8 tz] 5 (0, 0)) := by rw [← hq]; exact heap_alloc_new _ _
    have hcb : Below U.heap.size U z1 := chain (Below.refl U.heap.size U) hn
    have O1 := own_one8 (b := U.heap.size) (t := t) (by rw [HTZ.out]; exact hr) (Below.refl U.heap.size U).size
    clear hq hr
    refine hK.out _ _ (mkS _ (hcb)) (fun hHeld2 => ?_)
    clear hK K hHeld
    have hHeld := hHeld2
    clear hHeld2
    try simp only [Act.put, List.setIfInBounds_toArray, List.set_cons_zero, List.set_cons_succ]
    refine wpAnyH_ready (rs := [5]) (by kernel_rfl) (by simp) (AllReadyH.cons (o := { dst := some 30, op := .call { callee := .value (.func 85), args := #[.tmp 29], argTypes := #[3] }, type := 34, pos := "ref.go:90", after := #[{ on := 4, ground := .data }], guard := none }) rfl (fun K hK => ?_) AllReadyH.nil)
    go_simp
    refine (HLN.out z1).mono ?_
    rintro e z2 ⟨vq, rfl, hoq, hq3⟩
    obtain ⟨Aq, cq, rfl, _, hqn, hqs, _⟩ := own_rd3 hoq
    have hcb2 : Below U.heap.size U z2 := chain hcb hq3
    go_simp
    refine hK.out _ _ (mkS _ (hcb2)) (fun hHeld2 => ?_)
    clear hK K hHeld
    have hHeld := hHeld2
    clear hHeld2
    try simp only [Act.put, List.setIfInBounds_toArray, List.set_cons_zero, List.set_cons_succ]
    refine wpAnyH_ready (rs := [6]) (by kernel_rfl) (by simp) (AllReadyH.cons (o := { dst := some 31, op := .call { callee := .builtin .append, args := #[.tmp 27, .tmp 30], argTypes := #[34, 34] }, type := 34, pos := "ref.go:90", after := #[{ on := 2, ground := .data }, { on := 5, ground := .data }, { on := 5, ground := .chain }], guard := none }) rfl (fun K hK => ?_) AllReadyH.nil)
    try rw [if_pos (by rfl)]
    have ow3 := ((Grw.refl O1).on hq3).own
    refine wp_append_src (.tmp 27) (.tmp 30) rfl U.heap.size (.slice (some ⟨U.heap.size, 0, none⟩) 1 1) 1 [.int .u8 (t.toNat : Int)] rfl ow3 Aq (lenb Z) cq _ rfl rfl hqn hqs (by have := HLB.out; omega) hcb2.size ?_
    intro v3 z3 o3 g3 l3
    have hb3 : Below U.heap.size U z3 := hcb2.grown g3 hcb2.size (fun j hj => (own_ge ow3 hj).1)
    have HO3 := Lib.hid (own_weak o3 HBU.out.size)
    have HB3 := Lib.hid hb3
    refine hK.out _ _ (mkS _ (hb3)) (fun hHeld2 => ?_)
    clear hK K hHeld
    have hHeld := hHeld2
    clear hHeld2
    try simp only [Act.put, List.setIfInBounds_toArray, List.set_cons_zero, List.set_cons_succ]
    refine wpAnyH_take (i := 7) (oi := { dst := some 5, op := .assign (.tmp 31), type := 34, pos := "ref.go:90", after := #[{ on := 6, ground := .data }, { on := 6, ground := .chain }, { on := 0, ground := .phase }, { on := 1, ground := .phase }, { on := 2, ground := .phase }, { on := 3, ground := .phase }, { on := 4, ground := .phase }, { on := 5, ground := .phase }, { on := 6, ground := .phase }], guard := none }) (v := ?_) rfl (by kernel_rfl) (by kernel_rfl) (by kernel_rfl) (fun _ _ _ h => h) (Or.inl ⟨by rfl, ?_⟩) hHeld ?_
    rotate_left
    ·
     intro w hSw
     clear hSw
     go_simp
     try with_reducible rfl
    try simp only [Act.put, List.setIfInBounds_toArray, List.set_cons_zero, List.set_cons_succ]
    refine wpAnyH_done (by kernel_rfl) ?_ _
    clear hHeld mkS
    have HG7 := Lib.hid (HGU.out.on hb3)
    go_wp2_with (at_builtin; go_loud (refine append_src_at rfl (.tmp 32) (.tmp 33) rfl w.heap.size _ _ _ rfl HO3.out AZ (b ++ encs l) cZ Z HZL.out.symm rfl HZN.out (HZS.out z3 HB3.out) (by have h1 := HLB.out; have h2 := HZ5.out; omega) (Nat.le_trans HBU.out.size HB3.out.size) ?_); intro v5 w5 hg5; have HG5 := Lib.hid hg5; clear hg5)
    go_ret
    refine ⟨v5, rfl, ?_, (HBU.out.trans (HB3.out.mono HBU.out.size)).trans (HG5.out.below HO3.out (Nat.le_trans HBU.out.size HB3.out.size))⟩
    have h5 := HG5.out.own
    have hf : 1 + (lenb Z).length + Z = LL.length ∧ [.int .u8 (t.toNat : Int)] ++ bvals (lenb Z) ++ bvals (b ++ encs l) = bvals LL := by
     exact ⟨by rw [← HLL.out, List.length_append, List.length_append, ← HZL.out]; rfl, by rw [← HLL.out, bvals_app ([t] ++ lenb Z), bvals_app [t]]; rfl⟩
    rw [hf.1, hf.2] at h5
    exact h5
   ·
    go_simp
    refine (HLN.out U).mono ?_
    rintro e z1 ⟨vq, rfl, hoq, hq3⟩
    obtain ⟨Aq, cq, rfl, _, hqn, hqs, _⟩ := own_rd3 hoq
    have hcb1 : Below U.heap.size U z1 := chain (Below.refl U.heap.size U) hq3
    go_simp
    refine hK.out _ _ (mkS _ (hcb1)) (fun hHeld2 => ?_)
    clear hK K hHeld
    have hHeld := hHeld2
    clear hHeld2
    try simp only [Act.put, List.setIfInBounds_toArray, List.set_cons_zero, List.set_cons_succ]
    refine wpAnyH_ready (rs := [2]) (by kernel_rfl) (by simp) (AllReadyH.cons (o := { dst := some 27, op := .buildSlice 34 1 #[(0, .tmp 26)], type := 34, pos := "ref.go:90", after := #[{ on := 1, ground := .data }], guard := none }) rfl (fun K hK => ?_) AllReadyH.nil)
    go_simp
    generalize hq : World.alloc z1 _ = z2
    have hn : Below z1.heap.size z1 z2 := by rw [← hq]; exact below_new _ _
    have hr : z2.heap[z1.heap.size]? = some (.cells #[.int .u8 tz] 5 (0, 0)) := by rw [← hq]; exact heap_alloc_new _ _
    have hcb : Below U.heap.size U z2 := chain hcb1 hn
    have O1 := own_one8 (b := U.heap.size) (t := t) (by rw [HTZ.out]; exact hr) hcb1.size
    clear hq hr
    refine hK.out _ _ (mkS _ (hcb)) (fun hHeld2 => ?_)
    clear hK K hHeld
    have hHeld := hHeld2
    clear hHeld2
    try simp only [Act.put, List.setIfInBounds_toArray, List.set_cons_zero, List.set_cons_succ]
    refine wpAnyH_ready (rs := [6]) (by kernel_rfl) (by simp) (AllReadyH.cons (o := { dst := some 31, op := .call { callee := .builtin .append, args := #[.tmp 27, .tmp 30], argTypes := #[34, 34] }, type := 34, pos := "ref.go:90", after := #[{ on := 2, ground := .data }, { on := 5, ground := .data }, { on := 5, ground := .chain }], guard := none }) rfl (fun K hK => ?_) AllReadyH.nil)
    try rw [if_pos (by rfl)]
    have ow3 := O1
    refine wp_append_src (.tmp 27) (.tmp 30) rfl U.heap.size (.slice (some ⟨z1.heap.size, 0, none⟩) 1 1) 1 [.int .u8 (t.toNat : Int)] rfl ow3 Aq (lenb Z) cq _ rfl rfl hqn (hqs.on hn) (by have := HLB.out; omega) hcb.size ?_
    intro v3 z3 o3 g3 l3
    have hb3 : Below U.heap.size U z3 := hcb.grown g3 hcb.size (fun j hj => (own_ge ow3 hj).1)
    have HO3 := Lib.hid (own_weak o3 HBU.out.size)
    have HB3 := Lib.hid hb3
    refine hK.out _ _ (mkS _ (hb3)) (fun hHeld2 => ?_)
    clear hK K hHeld
    have hHeld := hHeld2
    clear hHeld2
    try simp only [Act.put, List.setIfInBounds_toArray, List.set_cons_zero, List.set_cons_succ]
    refine wpAnyH_take (i := 7) (oi := { dst := some 5, op := .assign (.tmp 31), type := 34, pos := "ref.go:90", after := #[{ on := 6, ground := .data }, { on := 6, ground := .chain }, { on := 0, ground := .phase }, { on := 1, ground := .phase }, { on := 2, ground := .phase }, { on := 3, ground := .phase }, { on := 4, ground := .phase }, { on := 5, ground := .phase }, { on := 6, ground := .phase }], guard := none }) (v := ?_) rfl (by kernel_rfl) (by kernel_rfl) (by kernel_rfl) (fun _ _ _ h => h) (Or.inl ⟨by rfl, ?_⟩) hHeld ?_
    rotate_left
    ·
     intro w hSw
     clear hSw
     go_simp
     try with_reducible rfl
    try simp only [Act.put, List.setIfInBounds_toArray, List.set_cons_zero, List.set_cons_succ]
    refine wpAnyH_done (by kernel_rfl) ?_ _
    clear hHeld mkS
    have HG7 := Lib.hid (HGU.out.on hb3)
    go_wp2_with (at_builtin; go_loud (refine append_src_at rfl (.tmp 32) (.tmp 33) rfl w.heap.size _ _ _ rfl HO3.out AZ (b ++ encs l) cZ Z HZL.out.symm rfl HZN.out (HZS.out z3 HB3.out) (by have h1 := HLB.out; have h2 := HZ5.out; omega) (Nat.le_trans HBU.out.size HB3.out.size) ?_); intro v5 w5 hg5; have HG5 := Lib.hid hg5; clear hg5)
    go_ret
    refine ⟨v5, rfl, ?_, (HBU.out.trans (HB3.out.mono HBU.out.size)).trans (HG5.out.below HO3.out (Nat.le_trans HBU.out.size HB3.out.size))⟩
    have h5 := HG5.out.own
    have hf : 1 + (lenb Z).length + Z = LL.length ∧ [.int .u8 (t.toNat : Int)] ++ bvals (lenb Z) ++ bvals (b ++ encs l) = bvals LL := by
     exact ⟨by rw [← HLL.out, List.length_append, List.length_append, ← HZL.out]; rfl, by rw [← HLL.out, bvals_app ([t] ++ lenb Z), bvals_app [t]]; rfl⟩
    rw [hf.1, hf.2] at h5
    exact h5
theorem siz_mem (l : List Oct) (k : Nat) (o : Oct) (h : l[k]? = some o) : siz o ≤ sizs l := by
 have h2 : sizs (l.take (k + 1)) = sizs (l.take k) + siz o := by
  rw [List.take_add_one, h]
  exact sizs_snoc _ _
 have h4 : sizs (l.take (k + 1)) + sizs (l.drop (k + 1)) = sizs l := by rw [← sizs_app, List.take_append_drop]
 omega
theorem rput_all : ∀ (n : Nat) (o : Oct), cnt o ≤ n → n ≤ 5000 → siz o ≤ 900000 → ∀ (V : World) (x y : Value), At (fun _ => True) V o x y → Calls Tryz.prog 46 #[.agg (cell3 o x y)] V (RpPost o V) := fun n => by
 induction n with
 | zero => intro o h; have := cnt_pos o; omega
 | succ n ih =>
  intro o h hn hs V x y hat
  cases o with
  | mk t b l =>
   exact rput_of t b l (by omega) hs (fun k o ho V x y hat => ih o (by rw [cnt] at h; have := cnt_le l o (List.mem_of_getElem? ho); omega) (by omega) (by rw [siz] at hs; have := siz_mem l k o ho; omega) V x y hat) V x y hat
end Go.Proofs.YtcgffkkfeimifaaGreatDoor
namespace Go.Proofs.YtcgffkkfeimifaaGreatDoor
open Go.RowKit Sha Oc
set_option linter.unusedVariables false
set_option linter.unusedSimpArgs false
def hdV : List UInt8 → Option (UInt8 × Nat × Nat)
 | [] => none
 | t :: r => if t = 0 then none else (rdl r).map fun p => (t, 1 + p.1, p.2)
end Go.Proofs.YtcgffkkfeimifaaGreatDoor
namespace Go.Proofs.YtcgffkkfeimifaaGreatDoor
open Go.RowKit Sha Oc
set_option linter.unusedVariables false
set_option linter.unusedSimpArgs false
set_option maxRecDepth 100000
end Go.Proofs.YtcgffkkfeimifaaGreatDoor
namespace Go.Proofs.YtcgffkkfeimifaaGreatDoor
open Go.RowKit Sha Oc
set_option linter.unusedVariables false
set_option linter.unusedSimpArgs false
set_option maxRecDepth 100000
end Go.Proofs.YtcgffkkfeimifaaGreatDoor
namespace Go.Proofs.YtcgffkkfeimifaaGreatDoor
open Go.RowKit Sha Oc
set_option linter.unusedVariables false
set_option linter.unusedSimpArgs false
set_option maxRecDepth 100000
end Go.Proofs.YtcgffkkfeimifaaGreatDoor
