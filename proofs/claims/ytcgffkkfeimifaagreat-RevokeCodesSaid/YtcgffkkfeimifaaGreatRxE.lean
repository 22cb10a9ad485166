import Derived.Test.YtcgffkkfeimifaaGreatRxD
import Derived.Test.YtcgffkkfeimifaaGreatSgJP
import Derived.Deep.RegionHeld3
namespace Go.Proofs.YtcgffkkfeimifaaGreat
namespace Sg
open Go.RowKit Sha Oc
set_option linter.unusedVariables false
set_option linter.unusedSimpArgs false
set_option maxRecDepth 100000 in
set_option maxHeartbeats 4000000 in
theorem whole_ref (l : Rl) (p : Mp) (hf : Fit l) (w : World) (h : RlAt l p w) :
  Calls Tryz.prog 21 #[.agg (rlC l p)] w (SnPost (rlV l) w) := by
 have HC1 := Lib.hid (fun (V : World) (hb : Below w.heap.size w V) => value_ref l p hf V (h.on hb).ser)
 have hidx := hf.idx
 have hcs := hf.cs.1
 have hps := hf.ps.1
 have hc2 := fun (V : World) (hb : Below w.heap.size w V) => sigval_ref l.sg.idx.toNat l.sg.cs l.sg.ps p.CA p.PA p.cc p.pc (by omega) (by omega) V (h.on hb).cs (h.on hb).ps
 have e1 : ((l.sg.idx.toNat : Nat) : Int) = l.sg.idx := by omega
 rw [e1] at hc2
 have HTOT : RowKit.Hid (∀ o ∈ [rbv (rbOf l), sgv (sgOf l.sg)], cnt o ≤ 5000 ∧ tot o ≤ 100000) := Lib.hid (by
  have a1 := val_small (fit_ck hf).2.2.1
  have a2 := (fit_ck hf).2.2.2
  have a3 : cnt (rlV l) = 1 + (cnt (rbv (rbOf l)) + (cnt (sgv (sgOf l.sg)) + 0)) := by unfold rlV rwv Oc.seq; rw [cnt, cnts, cnts, cnts]
  have a4 : tot (rlV l) = 0 + (tot (rbv (rbOf l)) + (tot (sgv (sgOf l.sg)) + 0)) := by unfold rlV rwv Oc.seq; rw [tot, tots, tots, tots, List.length_nil]
  have a5 := cnt_enc (rlV l)
  have a6 := tot_enc (rlV l)
  intro o ho
  simp only [List.mem_cons, List.not_mem_nil, or_false] at ho
  rcases ho with rfl | rfl <;> omega)
 have hV0 : rlV l = .mk 135 [] [rbv (rbOf l), sgv (sgOf l.sg)] := rfl
 have hS0 : (Oct.mk 131 [] [.mk 1 (nb l.sg.idx.toNat) [], .mk 2 l.sg.cs.flatten [], .mk 3 l.sg.ps.flatten []]) = sgv (sgOf l.sg) := rfl
 rw [hS0] at hc2
 have HC2 := Lib.hid hc2
 rw [hV0]
 obtain ⟨o1, ho1⟩ : ∃ o, rbv (rbOf l) = o := ⟨_, rfl⟩
 obtain ⟨o2, ho2⟩ : ∃ o, sgv (sgOf l.sg) = o := ⟨_, rfl⟩
 rw [ho1] at HC1 HTOT
 rw [ho2] at HC2 HTOT
 rw [ho1, ho2]
 unfold rlC at HC1 ⊢
 obtain ⟨c0, g0⟩ : ∃ c : Value, .string l.iss = c := ⟨_, rfl⟩
 obtain ⟨c1, g1⟩ : ∃ c : Value, .int .u64 l.num = c := ⟨_, rfl⟩
 obtain ⟨c2, g2⟩ : ∃ c : Value, .int .i64 l.fr = c := ⟨_, rfl⟩
 obtain ⟨c3, g3⟩ : ∃ c : Value, .int .i64 l.tt = c := ⟨_, rfl⟩
 obtain ⟨c4, g4⟩ : ∃ c : Value, .slice p.SA l.ser.length p.sc = c := ⟨_, rfl⟩
 obtain ⟨c5, g5⟩ : ∃ c : Value, .int .i64 l.sg.idx = c := ⟨_, rfl⟩
 obtain ⟨c6, g6⟩ : ∃ c : Value, .slice p.CA l.sg.cs.length p.cc = c := ⟨_, rfl⟩
 obtain ⟨c7, g7⟩ : ∃ c : Value, .slice p.PA l.sg.ps.length p.pc = c := ⟨_, rfl⟩
 rw [g0, g1, g2, g3, g4, g5, g6, g7] at HC1
 rw [g5, g6, g7] at HC2
 rw [g0, g1, g2, g3, g4, g5, g6, g7]
 clear hc2 hV0 hS0 ho1 ho2 g0 g1 g2 g3 g4 g5 g6 g7 hidx hcs hps e1 hf h l p
 obtain ⟨hw0, hra, hrb⟩ := two_rows w (.cells #[c0, c1, c2, c3, c4, c5, c6, c7] 30) (.cells #[.int .u8 0, .slice none 0 0, .slice none 0 0] 50)
 go_enter Tryz.func21, Tryz.ntmps21
 go_upto_region 1 with (fail)
 generalize World.alloc (World.alloc w _) _ = V at hw0 hra hrb ⊢
 have mkS : ∀ z : World, z.heap[w.heap.size]? = some (.cells #[c0, c1, c2, c3, c4, c5, c6, c7] 30 (0, 0)) → (fun (z : World) => z.rangeAt w.heap.size 0 [c0, c1, c2, c3, c4, c5, c6, c7] ∧ z.rangeAt w.heap.size 5 [c5, c6, c7]) z := fun z h => range53 h
 refine wp_region_held_drew (S := fun (z : World) => z.rangeAt w.heap.size 0 [c0, c1, c2, c3, c4, c5, c6, c7] ∧ z.rangeAt w.heap.size 5 [c5, c6, c7]) (by kernel_rfl) (mkS _ (by exact hra)) (fun hHeld => ?_)
 generalize hU : World.drew V = U at hHeld ⊢
 have hbU : Below V.heap.size V U := by rw [← hU]; exact (Below.refl _ _).drew
 clear hU
 have HWR := Lib.hid (chain hw0 hbU)
 have HSG := Lib.hid (row_on hra hbU)
 have HRU := Lib.hid (row_on hrb hbU)
 have HB_U := Lib.hid (Below.refl U.heap.size U)
 clear hw0 hra hrb hbU
 refine wpAnyH_take (i := 0) (oi := { dst := some 3, op := .load 30 (.tmp 1), type := 30, pos := "ref.go:51", after := #[], guard := none }) (v := .agg ([c0, c1, c2, c3, c4, c5, c6, c7]).toArray) rfl (by kernel_rfl) (by kernel_rfl) (by kernel_rfl) (fun _ _ _ h => h) (yieldsIf_load_mid (by rfl) _ _ rfl _ _ rfl [c0, c1, c2, c3, c4, c5, c6, c7] _ (fun w hSw => hSw.1) Tryz.underlying30 rfl (sz8l _ rfl)) hHeld ?_
 try simp only [Act.put, List.setIfInBounds_toArray, List.set_cons_zero, List.set_cons_succ]
 refine wpAnyH_take (i := 2) (oi := { dst := some 5, op := .fieldAddr 30 (.tmp 1) 4, type := 0, pos := "ref.go:51", after := #[], guard := none }) (v := ?_) rfl (by kernel_rfl) (by kernel_rfl) (by kernel_rfl) (fun _ _ _ h => h) (Or.inl ⟨by rfl, ?_⟩) hHeld ?_
 rotate_left
 ·
  intro w hSw
  clear hSw
  go_simp
  try with_reducible rfl
 try simp only [Act.put, List.setIfInBounds_toArray, List.set_cons_zero, List.set_cons_succ]
 refine wpAnyH_take (i := 3) (oi := { dst := some 6, op := .load 28 (.tmp 5), type := 28, pos := "ref.go:51", after := #[{ on := 2, ground := .data }], guard := none }) (v := .agg ([c5, c6, c7]).toArray) rfl (by kernel_rfl) (by kernel_rfl) (by kernel_rfl) (fun _ _ _ h => h) (yieldsIf_load_mid (by rfl) _ _ rfl _ _ rfl [c5, c6, c7] _ (fun w hSw => hSw.2) Tryz.underlying28 rfl (sz3s _ _ _)) hHeld ?_
 try simp only [Act.put, List.setIfInBounds_toArray, List.set_cons_zero, List.set_cons_succ]
 refine wpAnyH_ready (rs := [1]) (by kernel_rfl) (by simp) (AllReadyH.cons (o := { dst := some 4, op := .call { callee := .value (.func 22), args := #[.tmp 3], argTypes := #[30] }, type := 50, pos := "ref.go:51", after := #[{ on := 0, ground := .data }], guard := none }) rfl (fun K hK => ?_) AllReadyH.nil)
 go_simp
 refine (HC1.out U (chain HWR.out HB_U.out)).mono ?_
 rintro e z1 ⟨x1, y1, rfl, hat, hb⟩
 have HB_z1 := Lib.hid (chain HB_U.out hb)
 have HA_x1 := Lib.hid hat
 clear hat hb
 unfold cell3
 go_simp
 refine hK.out _ _ (mkS _ (row_on HSG.out HB_z1.out)) (fun hHeld2 => ?_)
 clear hK K hHeld
 have hHeld := hHeld2
 clear hHeld2
 try simp only [Act.put, List.setIfInBounds_toArray, List.set_cons_zero, List.set_cons_succ]
 refine wpAnyH_ready (rs := [4]) (by kernel_rfl) (by simp) (AllReadyH.cons (o := { dst := some 7, op := .call { callee := .value (.func 50), args := #[.tmp 6], argTypes := #[28] }, type := 50, pos := "ref.go:51", after := #[{ on := 3, ground := .data }, { on := 1, ground := .chain }], guard := none }) rfl (fun K hK => ?_) AllReadyH.nil)
 go_simp
 refine (HC2.out z1 (chain HWR.out HB_z1.out)).mono ?_
 rintro e z4 ⟨x2, y2, rfl, hat, hb⟩
 have HB_z4 := Lib.hid (chain HB_z1.out hb)
 have HA_x2 := Lib.hid hat
 have HA_x1 := Lib.hid (HA_x1.out.on hb)
 clear hat hb
 unfold cell3
 go_simp
 refine hK.out _ _ (mkS _ (row_on HSG.out HB_z4.out)) (fun hHeld2 => ?_)
 clear hK K hHeld
 have hHeld := hHeld2
 clear hHeld2
 try simp only [Act.put, List.setIfInBounds_toArray, List.set_cons_zero, List.set_cons_succ]
 refine wpAnyH_ready (rs := [5]) (by kernel_rfl) (by simp) (AllReadyH.cons (o := { dst := some 8, op := .buildSlice 48 2 #[(0, .tmp 4), (1, .tmp 7)], type := 48, pos := "ref.go:51", after := #[{ on := 1, ground := .data }, { on := 4, ground := .data }], guard := none }) rfl (fun K hK => ?_) AllReadyH.nil)
 obtain ⟨A1, m1, k1, B1, n1, q1, rfl, rfl⟩ := HA_x1.out.slices
 obtain ⟨A2, m2, k2, B2, n2, q2, rfl, rfl⟩ := HA_x2.out.slices
 go_simp
 generalize hV : World.alloc z4 _ = z5
 have hb : Below z4.heap.size z4 z5 := by rw [← hV]; exact below_new _ _
 have hr5 := Lib.hid (show z5.heap[z4.heap.size]? = some (.cells #[.int .u8 ((tagO o1).toNat : Int), .slice A1 m1 k1, .slice B1 n1 q1, .int .u8 ((tagO o2).toNat : Int), .slice A2 m2 k2, .slice B2 n2 q2] 50 (0, 0)) by rw [← hV]; exact heap_alloc_new _ _)
 have HB_z5 := Lib.hid (chain HB_z4.out hb)
 have HELS := Lib.hid (two_els2 (HA_x1.out.on hb) (HA_x2.out.on hb) hr5.out)
 clear hV hb hr5
 refine hK.out _ _ (mkS _ (row_on HSG.out HB_z5.out)) (fun hHeld2 => ?_)
 clear hK K hHeld
 have hHeld := hHeld2
 clear hHeld2
 try simp only [Act.put, List.setIfInBounds_toArray, List.set_cons_zero, List.set_cons_succ]
 refine wpAnyH_ready (rs := [6]) (by kernel_rfl) (by simp) (AllReadyH.cons (o := { dst := some 9, op := .call { callee := .value (.func 49), args := #[.const (.int .u8 135), .tmp 8], argTypes := #[5, 48] }, type := 50, pos := "ref.go:51", after := #[{ on := 5, ground := .data }, { on := 4, ground := .chain }], guard := none }) rfl (fun K hK => ?_) AllReadyH.nil)
 go_simp
 refine (seq_ref 135 [o1, o2] (show 2 ≤ 5000 by decide) HTOT.out _ 2 _ _ _ _ z5 HELS.out).mono ?_
 rintro e z6 ⟨x6, y6, rfl, hat, hb⟩
 have HB_z6 := Lib.hid (chain HB_z5.out hb)
 have HSZ11 : RowKit.Hid (w.heap.size + 1 < z5.heap.size) := Lib.hid (by have h1 := (Array.getElem?_eq_some_iff.1 HRU.out).1; have h2 := HB_z5.out.size; omega)
 have HAT := Lib.hid hat
 obtain ⟨A6, m6, k6, B6, n6, q6, rfl, rfl⟩ := hat.slices
 clear hat hb HELS
 unfold cell3
 simp only [tagO]
 go_simp
 refine hK.out _ _ (mkS _ (row_on HSG.out HB_z6.out)) (fun hHeld2 => ?_)
 clear hK K hHeld
 have hHeld := hHeld2
 clear hHeld2
 try simp only [Act.put, List.setIfInBounds_toArray, List.set_cons_zero, List.set_cons_succ]
 refine wpAnyH_ready (rs := [7]) (by kernel_rfl) (by simp) (AllReadyH.cons (o := { dst := none, op := .store 50 (.tmp 2) (.tmp 9), type := 0, pos := "ref.go:51", after := #[{ on := 6, ground := .data }, { on := 6, ground := .chain }, { on := 0, ground := .phase }, { on := 1, ground := .phase }, { on := 2, ground := .phase }, { on := 3, ground := .phase }, { on := 4, ground := .phase }, { on := 5, ground := .phase }, { on := 6, ground := .phase }], guard := none }) rfl (fun K hK => ?_) AllReadyH.nil)
 try rw [if_pos (by rfl)]
 have HR3 := Lib.hid (row_on HRU.out HB_z6.out)
 refine wp_store_mid 50 (.tmp 2) (.tmp 9) rfl (w.heap.size + 1) 0 #[.int .u8 135, .slice A6 m6 k6, .slice B6 n6 q6] rfl rfl (there_row HR3.out 3 (show 3 ≤ 3 by decide)) (sz3o _ _ _) (one3 _ _ _ rfl rfl rfl) ?_
 have HOO := Lib.hid (fun (b : Nat) (hb : b ≠ w.heap.size + 1) => heap_setCells_other [.int .u8 135, .slice A6 m6 k6, .slice B6 n6 q6] 0 z6 hb)
 have HR4 := Lib.hid (row_setCells HR3.out (cs := #[.int .u8 135, .slice A6 m6 k6, .slice B6 n6 q6]) rfl)
 have HB4 := Lib.hid (below_setCells [.int .u8 135, .slice A6 m6 k6, .slice B6 n6 q6] 0 z6 (chain HWR.out HB_z6.out) (show w.heap.size ≤ w.heap.size + 1 by omega))
 refine hK.out _ _ (mkS _ ((HOO.out w.heap.size (by omega)).trans (row_on HSG.out HB_z6.out))) (fun hHeld2 => ?_)
 clear hK K hHeld hHeld2
 try simp only [Act.put, List.setIfInBounds_toArray, List.set_cons_zero, List.set_cons_succ]
 refine wpAnyH_done (by kernel_rfl) ?_ _
 generalize World.setCells z6 _ _ _ = z9 at HR4 HB4 HOO ⊢
 clear mkS
 go_wp2_with fail
 refine bodyPost_ret (v := .agg #[.int .u8 135, .slice A6 m6 k6, .slice B6 n6 q6]) (results_cell_row rfl _ _ (w.heap.size + 1) 50 _ (0, 0) _ rfl HR4.out Tryz.underlying50 rfl (sz3o _ _ _)) rfl ⟨_, _, rfl, HAT.out.to (fun g p u hc hR => ⟨?_, trivial⟩), HB4.out⟩
 have h1 := hR.1
 have h2 := HSZ11.out
 simp only [World.cell?] at hc ⊢
 rw [HOO.out g (by omega)]
 exact hc
set_option maxRecDepth 100000 in
set_option maxHeartbeats 4000000 in
theorem rbody_ref (l : Rl) (p : Mp) (hz : l.iss.size ≤ maxLen) (hw : Wf l) (w : World) (h : RlAt l p w) : Calls Tryz.prog 8 #[.agg (rlC l p)] w (EbPost (rbv (rbOf l)) (rvC l) w) := by
 have hck := fun (V : World) (hb : Below w.heap.size w V) => lchk_ref l p V hz (h.on hb).ser
 have hva := fun (h0 : rvC l = 0) (V : World) (hb : Below w.heap.size w V) => value_ref l p (hw.fit h0) V (h.on hb).ser
 have hpt := fun (h0 : rvC l = 0) (V : World) (x y : Value) (hat : At (fun _ => True) V (rbv (rbOf l)) x y) => rput_all 5000 (rbv (rbOf l)) (by have a := fit_ck (hw.fit h0); have b := cnt_enc (rbv (rbOf l)); omega) (Nat.le_refl _) (by have a := fit_ck (hw.fit h0); have b := siz_eq (rbv (rbOf l)); omega) V x y hat
 obtain ⟨o, ho⟩ : ∃ o, rbv (rbOf l) = o := ⟨_, rfl⟩
 obtain ⟨E, hE⟩ : ∃ E, rvC l = E := ⟨_, rfl⟩
 rw [ho] at hva hpt ⊢
 rw [hE] at hck hva hpt ⊢
 unfold RpPost at hpt
 unfold rlC at hck hva ⊢
 obtain ⟨c0, g0⟩ : ∃ c : Value, .string l.iss = c := ⟨_, rfl⟩
 obtain ⟨c1, g1⟩ : ∃ c : Value, .int .u64 l.num = c := ⟨_, rfl⟩
 obtain ⟨c2, g2⟩ : ∃ c : Value, .int .i64 l.fr = c := ⟨_, rfl⟩
 obtain ⟨c3, g3⟩ : ∃ c : Value, .int .i64 l.tt = c := ⟨_, rfl⟩
 obtain ⟨c4, g4⟩ : ∃ c : Value, .slice p.SA l.ser.length p.sc = c := ⟨_, rfl⟩
 obtain ⟨c5, g5⟩ : ∃ c : Value, .int .i64 l.sg.idx = c := ⟨_, rfl⟩
 obtain ⟨c6, g6⟩ : ∃ c : Value, .slice p.CA l.sg.cs.length p.cc = c := ⟨_, rfl⟩
 obtain ⟨c7, g7⟩ : ∃ c : Value, .slice p.PA l.sg.ps.length p.pc = c := ⟨_, rfl⟩
 rw [g0, g1, g2, g3, g4, g5, g6, g7] at hck hva ⊢
 have HCK := Lib.hid hck
 have HVA := Lib.hid hva
 have HPT := Lib.hid hpt
 have HR0 := Lib.hid (heap_alloc_new w (.cells #[c0, c1, c2, c3, c4, c5, c6, c7] 30))
 have HB0 := Lib.hid (below_new w (.cells #[c0, c1, c2, c3, c4, c5, c6, c7] 30))
 clear hck hva hpt ho hE g0 g1 g2 g3 g4 g5 g6 g7 hz hw h l p
 go_enter Tryz.func8, Tryz.ntmps8
 go_upto_region 1 with (fail)
 generalize hV : World.alloc w _ = V at HR0 HB0 ⊢
 clear hV
 obtain ⟨hl0, f0, f1, f2, f3, f4, f5, f6, f7⟩ := facts8 HR0.out
 go_wp2_with fail
 refine (HCK.out V HB0.out).mono ?_
 rintro e w1 ⟨rfl, hb1⟩
 have HR1 := Lib.hid (row_on HR0.out hb1)
 have HB1 := Lib.hid (chain HB0.out hb1)
 clear hl0 f0 f1 f2 f3 f4 f5 f6 f7 hb1 HR0 HB0 HCK
 by_cases h0 : E = 0
 ·
  have HVA1 := Lib.hid (HVA.out h0)
  have HPT1 := Lib.hid (HPT.out h0)
  clear HVA HPT
  subst h0
  obtain ⟨hl0, f0, f1, f2, f3, f4, f5, f6, f7⟩ := facts8 HR1.out
  go_wp2_with fail
  refine (HVA1.out w1 HB1.out).mono ?_
  rintro e w2 ⟨x2, y2, rfl, hat, hb2⟩
  have HB2 := Lib.hid (chain HB1.out hb2)
  have HPT2 := Lib.hid (HPT1.out w2 x2 y2 hat)
  obtain ⟨A2, m2, k2, B2, n2, q2, rfl, rfl⟩ := hat.slices
  clear hl0 f0 f1 f2 f3 f4 f5 f6 f7 hb2 hat HPT1
  unfold cell3 at HPT2 ⊢
  go_wp2_with fail
  refine HPT2.out.mono ?_
  rintro e w3 ⟨v3, rfl, hown, hb3⟩
  have HB3 := Lib.hid (chain HB2.out hb3)
  have HO := Lib.hid (own_base8 hown HB2.out.size)
  clear hown hb3 HPT2
  go_wp2_with fail
  go_ret2
  exact ⟨HB3.out, .inl ⟨rfl, v3, rfl, HO.out⟩⟩
 ·
  go_wp2_with fail
  go_ret2
  exact ⟨HB1.out, .inr ⟨h0, rfl⟩⟩
set_option maxRecDepth 100000 in
set_option maxHeartbeats 4000000 in
theorem rencode_ref (l : Rl) (p : Mp) (hz : l.iss.size ≤ maxLen) (hw : Wf l) (w : World) (h : RlAt l p w) : Calls Tryz.prog 6 #[.agg (rlC l p)] w (EbPost (rlV l) (rvC l) w) := by
 have hck := fun (V : World) (hb : Below w.heap.size w V) => lchk_ref l p V hz (h.on hb).ser
 have hva := fun (h0 : rvC l = 0) (V : World) (hb : Below w.heap.size w V) => whole_ref l p (hw.fit h0) V (h.on hb)
 have hpt := fun (h0 : rvC l = 0) (V : World) (x y : Value) (hat : At (fun _ => True) V (rlV l) x y) => rput_all 5000 (rlV l) (by have a := fit_ck (hw.fit h0); have b := cnt_enc (rlV l); omega) (Nat.le_refl _) (by have a := fit_ck (hw.fit h0); have b := siz_eq (rlV l); omega) V x y hat
 obtain ⟨o, ho⟩ : ∃ o, rlV l = o := ⟨_, rfl⟩
 obtain ⟨E, hE⟩ : ∃ E, rvC l = E := ⟨_, rfl⟩
 rw [ho] at hva hpt ⊢
 rw [hE] at hck hva hpt ⊢
 unfold RpPost at hpt
 unfold rlC at hck hva ⊢
 obtain ⟨c0, g0⟩ : ∃ c : Value, .string l.iss = c := ⟨_, rfl⟩
 obtain ⟨c1, g1⟩ : ∃ c : Value, .int .u64 l.num = c := ⟨_, rfl⟩
 obtain ⟨c2, g2⟩ : ∃ c : Value, .int .i64 l.fr = c := ⟨_, rfl⟩
 obtain ⟨c3, g3⟩ : ∃ c : Value, .int .i64 l.tt = c := ⟨_, rfl⟩
 obtain ⟨c4, g4⟩ : ∃ c : Value, .slice p.SA l.ser.length p.sc = c := ⟨_, rfl⟩
 obtain ⟨c5, g5⟩ : ∃ c : Value, .int .i64 l.sg.idx = c := ⟨_, rfl⟩
 obtain ⟨c6, g6⟩ : ∃ c : Value, .slice p.CA l.sg.cs.length p.cc = c := ⟨_, rfl⟩
 obtain ⟨c7, g7⟩ : ∃ c : Value, .slice p.PA l.sg.ps.length p.pc = c := ⟨_, rfl⟩
 rw [g0, g1, g2, g3, g4, g5, g6, g7] at hck hva ⊢
 have HCK := Lib.hid hck
 have HVA := Lib.hid hva
 have HPT := Lib.hid hpt
 have HR0 := Lib.hid (heap_alloc_new w (.cells #[c0, c1, c2, c3, c4, c5, c6, c7] 30))
 have HB0 := Lib.hid (below_new w (.cells #[c0, c1, c2, c3, c4, c5, c6, c7] 30))
 clear hck hva hpt ho hE g0 g1 g2 g3 g4 g5 g6 g7 hz hw h l p
 go_enter Tryz.func6, Tryz.ntmps6
 go_upto_region 1 with (fail)
 generalize hV : World.alloc w _ = V at HR0 HB0 ⊢
 clear hV
 obtain ⟨hl0, f0, f1, f2, f3, f4, f5, f6, f7⟩ := facts8 HR0.out
 go_wp2_with fail
 refine (HCK.out V HB0.out).mono ?_
 rintro e w1 ⟨rfl, hb1⟩
 have HR1 := Lib.hid (row_on HR0.out hb1)
 have HB1 := Lib.hid (chain HB0.out hb1)
 clear hl0 f0 f1 f2 f3 f4 f5 f6 f7 hb1 HR0 HB0 HCK
 by_cases h0 : E = 0
 ·
  have HVA1 := Lib.hid (HVA.out h0)
  have HPT1 := Lib.hid (HPT.out h0)
  clear HVA HPT
  subst h0
  obtain ⟨hl0, f0, f1, f2, f3, f4, f5, f6, f7⟩ := facts8 HR1.out
  go_wp2_with fail
  refine (HVA1.out w1 HB1.out).mono ?_
  rintro e w2 ⟨x2, y2, rfl, hat, hb2⟩
  have HB2 := Lib.hid (chain HB1.out hb2)
  have HPT2 := Lib.hid (HPT1.out w2 x2 y2 hat)
  obtain ⟨A2, m2, k2, B2, n2, q2, rfl, rfl⟩ := hat.slices
  clear hl0 f0 f1 f2 f3 f4 f5 f6 f7 hb2 hat HPT1
  unfold cell3 at HPT2 ⊢
  go_wp2_with fail
  refine HPT2.out.mono ?_
  rintro e w3 ⟨v3, rfl, hown, hb3⟩
  have HB3 := Lib.hid (chain HB2.out hb3)
  have HO := Lib.hid (own_base8 hown HB2.out.size)
  clear hown hb3 HPT2
  go_wp2_with fail
  go_ret2
  exact ⟨HB3.out, .inl ⟨rfl, v3, rfl, HO.out⟩⟩
 ·
  go_wp2_with fail
  go_ret2
  exact ⟨HB1.out, .inr ⟨h0, rfl⟩⟩
end Sg
end Go.Proofs.YtcgffkkfeimifaaGreat
