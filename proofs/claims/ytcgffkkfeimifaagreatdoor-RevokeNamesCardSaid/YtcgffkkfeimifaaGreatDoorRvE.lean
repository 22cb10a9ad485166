import Derived.Test.YtcgffkkfeimifaaGreatDoorRvD
import Derived.Deep.RegionHeld3
namespace Go.Proofs.YtcgffkkfeimifaaGreatDoor
namespace Sg
open Go.RowKit Sha Oc
set_option linter.unusedVariables false
set_option linter.unusedSimpArgs false
theorem sz3s (a b c : Value) : (Tryz.prog.info? 30).map (·.size) = some ([a, b, c] : List Value).length := by
 show _ = some 3
 kernel_rfl
theorem range53 {V : World} {M : Nat} {a b c d e f g h : Value} {T : TypeId} (H : V.heap[M]? = some (.cells #[a, b, c, d, e, f, g, h] T (0, 0))) : V.rangeAt M 0 [a, b, c, d, e, f, g, h] ∧ V.rangeAt M 5 [f, g, h] :=
 ⟨row_range (cs := [a, b, c, d, e, f, g, h]) H, range3 H⟩
theorem sigval_any (l : Rl) (m : Mp) (hf : Fit l) (w : World) (h1 : Shs m.CA l.sg.cs w) (h2 : Shs m.PA l.sg.ps w) : Calls Tryz.prog 31 #[.agg #[.int .i64 l.sg.idx, .slice m.CA l.sg.cs.length m.cc, .slice m.PA l.sg.ps.length m.pc]] w (SnPost (sgv (sgOf l.sg)) w) := by
 have g1 := hf.idx
 have g2 := hf.cs.1
 have g3 := hf.ps.1
 have hb := sig_val l.sg.idx.toNat l.sg.cs l.sg.ps m.CA m.PA m.cc m.pc (by omega) (by omega) w h1 h2
 have e1 : ((l.sg.idx.toNat : Nat) : Int) = l.sg.idx := by omega
 rw [e1] at hb
 exact hb
theorem val_small {o : Oct} {n : Nat} (h : (enc o).length ≤ n) : cnt o ≤ n ∧ tot o ≤ n := by
 have := cnt_enc o
 have := tot_enc o
 omega
set_option maxRecDepth 100000 in
set_option maxHeartbeats 4000000 in
theorem encode_rev (l : Rl) (m : Mp) (hz : l.iss.size ≤ maxLen) (hw : Wf l) (w : World) (h : RlAt l m w) : Calls Tryz.prog 9 #[.agg (rlC l m)] w (EbPost (rlV l) (rvC l) w) := by
 have hck := fun (V : World) (hb : Below w.heap.size w V) => lchk_any l m V hz (h.on hb).ser
 have hbv := fun (h0 : rvC l = 0) (V : World) (hb : Below w.heap.size w V) => bodyval_any l m (hw.fit h0) V (h.on hb).ser
 have hsv := fun (h0 : rvC l = 0) (V : World) (hb : Below w.heap.size w V) => sigval_any l m (hw.fit h0) V (h.on hb).cs (h.on hb).ps
 have hcv := fun (h0 : rvC l = 0) => (fit_ck (hw.fit h0)).2.1
 have hen := fun (h0 : rvC l = 0) (V : World) (x y : Value) (hat : At (fun _ => True) V (rlV l) x y) => encode_any (rlV l) (by have := val_small (fit_ck (hw.fit h0)).2.2.2; omega) (by have := val_small (fit_ck (hw.fit h0)).2.2.2; omega) V x y hat
 have htot : rvC l = 0 → ∀ o ∈ [rbv (rbOf l), sgv (sgOf l.sg)], cnt o ≤ 5000 ∧ tot o ≤ 100000 := fun h0 => by
  have hf := hw.fit h0
  have a1 := val_small (fit_ck hf).2.2.1
  have a2 := (fit_ck hf).2.2.2
  have a3 : cnt (rlV l) = 1 + (cnt (rbv (rbOf l)) + (cnt (sgv (sgOf l.sg)) + 0)) := by unfold rlV rwv Oc.seq; rw [cnt, cnts, cnts, cnts]
  have a4 : tot (rlV l) = 0 + (tot (rbv (rbOf l)) + (tot (sgv (sgOf l.sg)) + 0)) := by unfold rlV rwv Oc.seq; rw [tot, tots, tots, tots, List.length_nil]
  have a5 := cnt_enc (rlV l)
  have a6 := tot_enc (rlV l)
  intro o ho
  simp only [List.mem_cons, List.not_mem_nil, or_false] at ho
  rcases ho with rfl | rfl <;> omega
 have hV0 : rlV l = .mk 135 [] [rbv (rbOf l), sgv (sgOf l.sg)] := rfl
 rw [hV0] at hen hcv ⊢
 obtain ⟨o1, ho1⟩ : ∃ o, rbv (rbOf l) = o := ⟨_, rfl⟩
 obtain ⟨o2, ho2⟩ : ∃ o, sgv (sgOf l.sg) = o := ⟨_, rfl⟩
 obtain ⟨E, hE⟩ : ∃ E, rvC l = E := ⟨_, rfl⟩
 rw [ho1] at hbv hen hcv htot ⊢
 rw [ho2] at hsv hen hcv htot ⊢
 rw [hE] at hck hbv hsv hen hcv htot ⊢
 unfold rlC at hck hbv ⊢
 obtain ⟨c0, g0⟩ : ∃ c : Value, .string l.iss = c := ⟨_, rfl⟩
 obtain ⟨c1, g1⟩ : ∃ c : Value, .int .u64 l.num = c := ⟨_, rfl⟩
 obtain ⟨c2, g2⟩ : ∃ c : Value, .int .i64 l.fr = c := ⟨_, rfl⟩
 obtain ⟨c3, g3⟩ : ∃ c : Value, .int .i64 l.tt = c := ⟨_, rfl⟩
 obtain ⟨c4, g4⟩ : ∃ c : Value, .slice m.SA l.ser.length m.sc = c := ⟨_, rfl⟩
 obtain ⟨c5, g5⟩ : ∃ c : Value, .int .i64 l.sg.idx = c := ⟨_, rfl⟩
 obtain ⟨c6, g6⟩ : ∃ c : Value, .slice m.CA l.sg.cs.length m.cc = c := ⟨_, rfl⟩
 obtain ⟨c7, g7⟩ : ∃ c : Value, .slice m.PA l.sg.ps.length m.pc = c := ⟨_, rfl⟩
 rw [g0, g1, g2, g3, g4, g5, g6, g7] at hck hbv ⊢
 rw [g5, g6, g7] at hsv
 have HCK := Lib.hid hck
 have HBV := Lib.hid hbv
 have HSV := Lib.hid hsv
 have HEN := Lib.hid hen
 have HCV := Lib.hid hcv
 have HTOT := Lib.hid htot
 have HR0 := Lib.hid (heap_alloc_new w (.cells #[c0, c1, c2, c3, c4, c5, c6, c7] 32))
 have HB0 := Lib.hid (below_new w (.cells #[c0, c1, c2, c3, c4, c5, c6, c7] 32))
 clear hck hbv hsv hen hcv htot ho1 ho2 hE hV0 g0 g1 g2 g3 g4 g5 g6 g7 hz hw h l m
 go_enter Tryz.func9, Tryz.ntmps9
 go_upto_region 1 with (fail)
 generalize hV : World.alloc w _ = V at HR0 HB0 ⊢
 clear hV
 obtain ⟨hl0, f0, f1, f2, f3, f4, f5, f6, f7⟩ := facts8 HR0.out
 go_wp2_with fail
 refine (HCK.out V HB0.out).mono ?_
 rintro e w1 ⟨rfl, hb1⟩
 have HR1 := Lib.hid (row_on HR0.out hb1)
 have HB1 := Lib.hid (chain HB0.out hb1)
 clear hl0 f0 f1 f2 f3 f4 f5 f6 f7 hb1
 by_cases h0 : E = 0
 ·
  have HBV1 := Lib.hid (HBV.out h0)
  have HSV1 := Lib.hid (HSV.out h0)
  have HEN1 := Lib.hid (HEN.out h0)
  have HCV1 := Lib.hid (HCV.out h0)
  have HTOT1 := Lib.hid (HTOT.out h0)
  clear HBV HSV HEN HCV HTOT
  subst h0
  go_upto_region 4 with (fail)
  refine wp_region_held_drew (S := fun z => z.rangeAt w.heap.size 0 [c0, c1, c2, c3, c4, c5, c6, c7] ∧ z.rangeAt w.heap.size 5 [c5, c6, c7]) (by kernel_rfl) (range53 HR1.out) (fun hHeld => ?_)
  generalize hU : World.drew w1 = U at hHeld ⊢
  have hbU : Below w1.heap.size w1 U := by rw [← hU]; exact (Below.refl _ _).drew
  clear hU
  have HW_U := Lib.hid (chain HB1.out hbU)
  have HSG := Lib.hid (row_on HR1.out hbU)
  have mkS : ∀ z, Below U.heap.size U z → (fun z => z.rangeAt w.heap.size 0 [c0, c1, c2, c3, c4, c5, c6, c7] ∧ z.rangeAt w.heap.size 5 [c5, c6, c7]) z := fun z hz => range53 (row_on HSG.out hz)
  have HB_U := Lib.hid (Below.refl U.heap.size U)
  clear hbU
  refine wpAnyH_take (i := 0) (oi := { dst := some 10, op := .load 32 (.tmp 1), type := 32, pos := "revoke.go:58", after := #[], guard := none }) (v := .agg ([c0, c1, c2, c3, c4, c5, c6, c7]).toArray) rfl (by kernel_rfl) (by kernel_rfl) (by kernel_rfl) (fun _ _ _ h => h) (yieldsIf_load_mid (by rfl) _ _ rfl _ _ rfl [c0, c1, c2, c3, c4, c5, c6, c7] _ (fun w hSw => hSw.1) Tryz.underlying32 rfl (sz8l _ rfl)) hHeld ?_
  try simp only [Act.put, List.setIfInBounds_toArray, List.set_cons_zero, List.set_cons_succ]
  refine wpAnyH_take (i := 2) (oi := { dst := some 12, op := .fieldAddr 32 (.tmp 1) 4, type := 0, pos := "revoke.go:58", after := #[], guard := none }) (v := ?_) rfl (by kernel_rfl) (by kernel_rfl) (by kernel_rfl) (fun _ _ _ h => h) (Or.inl ⟨by rfl, ?_⟩) hHeld ?_
  rotate_left
  ·
   intro w hSw
   clear hSw
   go_simp
   try with_reducible rfl
  try simp only [Act.put, List.setIfInBounds_toArray, List.set_cons_zero, List.set_cons_succ]
  refine wpAnyH_take (i := 3) (oi := { dst := some 13, op := .load 30 (.tmp 12), type := 30, pos := "revoke.go:58", after := #[{ on := 2, ground := .data }], guard := none }) (v := .agg ([c5, c6, c7]).toArray) rfl (by kernel_rfl) (by kernel_rfl) (by kernel_rfl) (fun _ _ _ h => h) (yieldsIf_load_mid (by rfl) _ _ rfl _ _ rfl [c5, c6, c7] _ (fun w hSw => hSw.2) Tryz.underlying30 rfl (sz3s _ _ _)) hHeld ?_
  try simp only [Act.put, List.setIfInBounds_toArray, List.set_cons_zero, List.set_cons_succ]
  refine wpAnyH_ready (rs := [1]) (by kernel_rfl) (by simp) (AllReadyH.cons (o := { dst := some 11, op := .call { callee := .value (.func 30), args := #[.tmp 10], argTypes := #[32] }, type := 68, pos := "revoke.go:58", after := #[{ on := 0, ground := .data }], guard := none }) rfl (fun K hK => ?_) AllReadyH.nil)
  go_simp
  refine (HBV1.out U HW_U.out).mono ?_
  rintro e z1 ⟨x1, y1, rfl, hat, hb⟩
  have HB_z1 := Lib.hid (chain HB_U.out hb)
  have HW_z1 := Lib.hid (chain HW_U.out hb)
  have HA_x1 := Lib.hid hat
  clear hat hb
  unfold cell3
  go_simp
  refine hK.out _ _ (mkS _ HB_z1.out) (fun hHeld2 => ?_)
  clear hK K hHeld
  have hHeld := hHeld2
  clear hHeld2
  try simp only [Act.put, List.setIfInBounds_toArray, List.set_cons_zero, List.set_cons_succ]
  refine wpAnyH_ready (rs := [4]) (by kernel_rfl) (by simp) (AllReadyH.cons (o := { dst := some 14, op := .call { callee := .value (.func 31), args := #[.tmp 13], argTypes := #[30] }, type := 68, pos := "revoke.go:58", after := #[{ on := 3, ground := .data }, { on := 1, ground := .chain }], guard := none }) rfl (fun K hK => ?_) AllReadyH.nil)
  go_simp
  refine (HSV1.out z1 HW_z1.out).mono ?_
  rintro e z4 ⟨x2, y2, rfl, hat, hb⟩
  have HB_z4 := Lib.hid (chain HB_z1.out hb)
  have HW_z4 := Lib.hid (chain HW_z1.out hb)
  have HA_x2 := Lib.hid hat
  have HA_x1 := Lib.hid (HA_x1.out.on hb)
  clear hat hb
  unfold cell3
  go_simp
  refine hK.out _ _ (mkS _ HB_z4.out) (fun hHeld2 => ?_)
  clear hK K hHeld
  have hHeld := hHeld2
  clear hHeld2
  try simp only [Act.put, List.setIfInBounds_toArray, List.set_cons_zero, List.set_cons_succ]
  refine wpAnyH_ready (rs := [5]) (by kernel_rfl) (by simp) (AllReadyH.cons (o := { dst := some 15, op := .buildSlice 66 2 #[(0, .tmp 11), (1, .tmp 14)], type := 66, pos := "revoke.go:58", after := #[{ on := 1, ground := .data }, { on := 4, ground := .data }], guard := none }) rfl (fun K hK => ?_) AllReadyH.nil)
  obtain ⟨A1, m1, k1, B1, n1, q1, rfl, rfl⟩ := HA_x1.out.slices
  obtain ⟨A2, m2, k2, B2, n2, q2, rfl, rfl⟩ := HA_x2.out.slices
  go_simp
  generalize hV : World.alloc z4 _ = z5
  have hb : Below z4.heap.size z4 z5 := by rw [← hV]; exact below_new _ _
  have hr5 := Lib.hid (show z5.heap[z4.heap.size]? = some (.cells #[.int .u8 ((tagO o1).toNat : Int), .slice A1 m1 k1, .slice B1 n1 q1, .int .u8 ((tagO o2).toNat : Int), .slice A2 m2 k2, .slice B2 n2 q2] 68 (0, 0)) by rw [← hV]; exact heap_alloc_new _ _)
  have HB_z5 := Lib.hid (chain HB_z4.out hb)
  have HW_z5 := Lib.hid (chain HW_z4.out hb)
  have HELS := Lib.hid (two_els2 (HA_x1.out.on hb) (HA_x2.out.on hb) hr5.out)
  clear hV hb hr5
  refine hK.out _ _ (mkS _ HB_z5.out) (fun hHeld2 => ?_)
  clear hK K hHeld
  have hHeld := hHeld2
  clear hHeld2
  try simp only [Act.put, List.setIfInBounds_toArray, List.set_cons_zero, List.set_cons_succ]
  refine wpAnyH_ready (rs := [6]) (by kernel_rfl) (by simp) (AllReadyH.cons (o := { dst := some 16, op := .call { callee := .value (.func 29), args := #[.const (.int .u8 135), .tmp 15], argTypes := #[5, 66] }, type := 68, pos := "revoke.go:58", after := #[{ on := 5, ground := .data }, { on := 4, ground := .chain }], guard := none }) rfl (fun K hK => ?_) AllReadyH.nil)
  go_simp
  refine (seq_any 135 [o1, o2] (show 2 ≤ 5000 by decide) HTOT1.out _ 2 _ _ _ _ z5 HELS.out).mono ?_
  rintro e z6 ⟨x3, y3, rfl, hat, hb⟩
  have HB_z6 := Lib.hid (chain HB_z5.out hb)
  have HW_z6 := Lib.hid (chain HW_z5.out hb)
  have HEN2 := Lib.hid (HEN1.out z6 x3 y3 hat.any)
  clear hat hb HELS
  unfold cell3
  go_simp
  refine hK.out _ _ (mkS _ HB_z6.out) (fun hHeld2 => ?_)
  clear hK K hHeld
  have hHeld := hHeld2
  clear hHeld2
  try simp only [Act.put, List.setIfInBounds_toArray, List.set_cons_zero, List.set_cons_succ]
  refine wpAnyH_ready (rs := [7]) (by kernel_rfl) (by simp) (AllReadyH.cons (o := { dst := some 17, op := .call { callee := .value (.func 28), args := #[.tmp 16], argTypes := #[68] }, type := 35, pos := "revoke.go:58", after := #[{ on := 6, ground := .data }, { on := 6, ground := .chain }], guard := none }) rfl (fun K hK => ?_) AllReadyH.nil)
  go_simp
  refine HEN2.out.mono ?_
  rintro e z7 ⟨hb, ⟨h1, v, rfl, hown⟩ | ⟨h1, rfl⟩⟩
  rotate_left
  ·
   exact absurd HCV1.out h1
  have HB_z7 := Lib.hid (chain HB_z6.out hb)
  have HW_z7 := Lib.hid (chain HW_z6.out hb)
  have HO := Lib.hid (own_base hown HW_z6.out.size)
  clear hb hown h1 HEN2
  go_simp
  refine hK.out _ _ (mkS _ HB_z7.out) (fun hHeld2 => ?_)
  clear hK K hHeld
  have hHeld := hHeld2
  clear hHeld2
  try simp only [Act.put, List.setIfInBounds_toArray, List.set_cons_zero, List.set_cons_succ]
  refine wpAnyH_take (i := 8) (oi := { dst := some 18, op := .extract (.tmp 17) 0, type := 34, pos := "revoke.go:58", after := #[{ on := 7, ground := .data }], guard := none }) (v := ?_) rfl (by kernel_rfl) (by kernel_rfl) (by kernel_rfl) (fun _ _ _ h => h) (Or.inl ⟨by rfl, ?_⟩) hHeld ?_
  rotate_left
  ·
   intro w hSw
   clear hSw
   go_simp
   try with_reducible rfl
  try simp only [Act.put, List.setIfInBounds_toArray, List.set_cons_zero, List.set_cons_succ]
  refine wpAnyH_take (i := 9) (oi := { dst := some 19, op := .extract (.tmp 17) 1, type := 24, pos := "revoke.go:58", after := #[{ on := 7, ground := .data }], guard := none }) (v := ?_) rfl (by kernel_rfl) (by kernel_rfl) (by kernel_rfl) (fun _ _ _ h => h) (Or.inl ⟨by rfl, ?_⟩) hHeld ?_
  rotate_left
  ·
   intro w hSw
   clear hSw
   go_simp
   try with_reducible rfl
  try simp only [Act.put, List.setIfInBounds_toArray, List.set_cons_zero, List.set_cons_succ]
  refine wpAnyH_take (i := 10) (oi := { dst := some 2, op := .assign (.tmp 18), type := 34, pos := "revoke.go:58", after := #[{ on := 8, ground := .data }, { on := 7, ground := .chain }, { on := 0, ground := .phase }, { on := 1, ground := .phase }, { on := 2, ground := .phase }, { on := 3, ground := .phase }, { on := 4, ground := .phase }, { on := 5, ground := .phase }, { on := 6, ground := .phase }, { on := 7, ground := .phase }, { on := 8, ground := .phase }, { on := 9, ground := .phase }], guard := none }) (v := ?_) rfl (by kernel_rfl) (by kernel_rfl) (by kernel_rfl) (fun _ _ _ h => h) (Or.inl ⟨by rfl, ?_⟩) hHeld ?_
  rotate_left
  ·
   intro w hSw
   clear hSw
   go_simp
   try with_reducible rfl
  try simp only [Act.put, List.setIfInBounds_toArray, List.set_cons_zero, List.set_cons_succ]
  refine wpAnyH_take (i := 11) (oi := { dst := some 3, op := .assign (.tmp 19), type := 24, pos := "revoke.go:58", after := #[{ on := 9, ground := .data }, { on := 10, ground := .chain }, { on := 0, ground := .phase }, { on := 1, ground := .phase }, { on := 2, ground := .phase }, { on := 3, ground := .phase }, { on := 4, ground := .phase }, { on := 5, ground := .phase }, { on := 6, ground := .phase }, { on := 7, ground := .phase }, { on := 8, ground := .phase }, { on := 9, ground := .phase }, { on := 10, ground := .phase }], guard := none }) (v := ?_) rfl (by kernel_rfl) (by kernel_rfl) (by kernel_rfl) (fun _ _ _ h => h) (Or.inl ⟨by rfl, ?_⟩) hHeld ?_
  rotate_left
  ·
   intro w hSw
   clear hSw
   go_simp
   try with_reducible rfl
  try simp only [Act.put, List.setIfInBounds_toArray, List.set_cons_zero, List.set_cons_succ]
  refine wpAnyH_done (by kernel_rfl) ?_ _
  go_wp2_with fail
  go_ret2
  exact ⟨HW_z7.out, .inl ⟨rfl, v, rfl, HO.out⟩⟩

 ·
  have h0i : (E != 0) = true := by simp [h0]
  have H0 := Lib.hid h0
  clear h0
  go_wp2_with fail
  go_ret2
  exact ⟨HB1.out, .inr ⟨H0.out, rfl⟩⟩
end Sg
end Go.Proofs.YtcgffkkfeimifaaGreatDoor
