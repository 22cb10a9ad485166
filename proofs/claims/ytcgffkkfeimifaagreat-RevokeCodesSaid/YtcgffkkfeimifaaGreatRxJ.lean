import Derived.Test.YtcgffkkfeimifaaGreatRxKL
import Derived.Deep.RegionHeld3
namespace Go.Proofs.YtcgffkkfeimifaaGreat
namespace Sg
open Go.RowKit Sha Oc
set_option linter.unusedVariables false
set_option linter.unusedSimpArgs false
set_option maxRecDepth 100000 in
set_option maxHeartbeats 40000000 in
theorem refdecode_any (b : List UInt8) (hb : b.length ≤ 20000) (A : Option Addr) (c : Nat) (hc : b.length ≤ c) (hcm : c ≤ 140737488355328) (hA : A = none → c = 0) (w : World) (hs : SrcAt A b w) :
  Calls Tryz.prog 10 #[.slice A b.length c] w (RvdPost (rvD b) w) := by
 have hd := fun (V : World) (hB : Below w.heap.size w V) => decode_ref b (by omega) A c hc hcm V (srcAt_on8 hs hB)
 have HSRC := Lib.hid (fun (V : World) (hB : Below w.heap.size w V) => srcAt_on8 hs hB)
 obtain ⟨n, hn⟩ : ∃ n, b.length = n := ⟨_, rfl⟩
 obtain ⟨v, hv⟩ : ∃ v, (decV b).1 = v := ⟨_, rfl⟩
 obtain ⟨e2, he2⟩ : ∃ e2, (decV b).2 = e2 := ⟨_, rfl⟩
 have hgood : e2 = 0 → cnt v ≤ 4000 ∧ tot v ≤ 65536 := fun h0 => by
  obtain ⟨q1, q2⟩ := decV_only b v (Prod.ext hv (he2.trans h0))
  have h3 := ((ckV_good _).1 q2)
  unfold good at h3
  have h2 := tot_enc v
  omega
 have hr := rvD_ref b
 rw [he2, hv] at hr
 obtain ⟨r, hr0⟩ : ∃ r, rvD b = r := ⟨_, rfl⟩
 rw [hr0] at hr ⊢
 unfold DecPost at hd
 rw [hn, hv, he2] at hd
 rw [hn]
 have HD := Lib.hid hd
 have HRES := Lib.hid hr
 have HGD := Lib.hid hgood
 have HNB := Lib.hid hn
 have HNB2 := Lib.hid (show b.length ≤ 1000000 by omega)
 have HR0 := Lib.hid (heap_alloc_new w (.cells #[.string ⟨#[]⟩, .int .u64 0, .int .i64 0, .int .i64 0, .slice none 0 0, .int .i64 0, .slice none 0 0, .slice none 0 0] 30))
 have HB0 := Lib.hid (below_new w (.cells #[.string ⟨#[]⟩, .int .u64 0, .int .i64 0, .int .i64 0, .slice none 0 0, .int .i64 0, .slice none 0 0, .slice none 0 0] 30))
 clear hd hr hr0 hv he2 hn hc hcm hA hs hgood
 go_enter Tryz.func10, Tryz.ntmps10
 go_upto_region 1 with (fail)
 generalize hV : World.alloc w _ = V at HR0 HB0 ⊢
 clear hV
 obtain ⟨hl0, f0, f1, f2, f3, f4, f5, f6, f7⟩ := facts8 HR0.out
 go_wp2_with fail
 refine (HD.out V HB0.out).mono ?_
 rintro e w1 ⟨hb1, x1, y1, rfl, hat⟩
 have HR1 := Lib.hid (row_on HR0.out hb1)
 have HB1 := Lib.hid (chain HB0.out hb1)
 have HA1 := Lib.hid hat
 clear hl0 f0 f1 f2 f3 f4 f5 f6 f7 hb1 hat
 obtain ⟨AV, mv, cv, BV, nv, dv, rfl, rfl⟩ := HA1.out.slices
 unfold cell3
 go_upto_region 2 with (fail)
 obtain ⟨X4, hX4⟩ : ∃ X4, w1.heap.size = X4 := ⟨_, rfl⟩
 obtain ⟨tz, htz⟩ : ∃ tz : Int, ((tagO v).toNat : Int) = tz := ⟨_, rfl⟩
 have ho2 := heap_alloc_new w1 (.cells #[.int .u8 tz, .slice AV mv cv, .slice BV nv dv] 50)
 have hb2 := below_new w1 (.cells #[.int .u8 tz, .slice AV mv cv, .slice BV nv dv] 50)
 rw [htz]
 rw [hX4] at ho2 ⊢
 generalize World.alloc w1 _ = V2 at ho2 hb2 ⊢
 have HO2 := Lib.hid ho2
 have HR2 := Lib.hid (row_on HR1.out hb2)
 have HB2 := Lib.hid (chain HB1.out hb2)
 have HA2 := Lib.hid (HA1.out.any.on hb2)
 clear ho2 hb2 hX4 htz HR1 HB1 HA1 HR0 HB0 HD
 by_cases h0 : e2 = 0
 ·
  obtain ⟨hcn, htt⟩ := HGD.out h0
  have HRES1 := Lib.hid (show r = if rvC (rfL v) = 0 ∧ enc (rlV (rfL v)) = b then (rfL v, 0) else (rl0, 12) by rw [HRES.out, h0]; simp)
  clear HGD HRES
  subst h0
  have hkv := (kids_le v).1
  have HAV0 := Lib.hid (fun (V : World) (x y : Value) (h : At (fun _ => True) V v x y) => at10_ref v 0 (by omega) V x y h)
  have HAV1 := Lib.hid (fun (V : World) (x y : Value) (h : At (fun _ => True) V v x y) => at10_ref v 1 (by omega) V x y h)
  have b0 := kid_le v 0
  have b1 := kid_le v 1
  have b2 := kid_le (kid v 1) 1
  have b3 := kid_le (kid v 1) 2
  have b4 := kids_le (kid (kid v 1) 1)
  have b5 := kids_le (kid (kid v 1) 2)
  have b6 := kids_le (kid v 1)
  have b7 := kids_le (kid v 0)
  have HRS := Lib.hid (fun (V : World) (x y : Value) (h : At (fun _ => True) V (kid v 1) x y) => readsig_ref (kid v 1) (by omega) (by omega) (by omega) V x y h)
  have haf := fun (k : Nat) (V : World) (x y : Value) (h : At (fun _ => True) V (kid v 0) x y) => at10_ref (kid v 0) k (by omega) V x y h
  have HAF0 := Lib.hid (haf 0)
  have HAF1 := Lib.hid (haf 1)
  have HAF2 := Lib.hid (haf 2)
  have HAF3 := Lib.hid (haf 3)
  have HAF4 := Lib.hid (fun (V0 : World) (x y : Value) (h : At (fun _ => True) V0 (kid v 0) x y) (V : World) (hb : Below V0.heap.size V0 V) => at10_from (kid v 0) 4 (by omega) V0 x y h V hb)
  have b8 := kid_le (kid v 0) 4
  have b9 := kids_le (kid (kid v 0) 4)
  have b10 := kid_le (kid v 0) 0
  have b11 := kids_le (kid (kid v 0) 0)
  have HN4 := Lib.hid (show (kids (kid (kid v 0) 4)).length ≤ 4900 ∧ (bytO (kid (kid v 0) 0)).length ≤ 100000 ∧ (bytO (kid (kid v 1) 1)).length ≤ 1000000 ∧ (bytO (kid (kid v 1) 2)).length ≤ 1000000 by
   have q1 := kids_le (kid (kid v 1) 1)
   have q2 := kids_le (kid (kid v 1) 2)
   omega)
  have HWF := Lib.hid (rfL_wf v)
  unfold AtPost at HAV0 HAV1 HAF0 HAF1 HAF2 HAF3
  unfold RgPost at HRS
  clear haf b0 b1 b2 b3 b4 b5 b6 b7 b8 b9 b10 b11 hkv hcn htt
  obtain ⟨L, hL⟩ : ∃ L, rfL v = L := ⟨_, rfl⟩
  rw [hL] at HRES1 HWF
  obtain ⟨f, hf⟩ : ∃ o, kid v 0 = o := ⟨_, rfl⟩
  obtain ⟨sv, hsv⟩ : ∃ o, kid v 1 = o := ⟨_, rfl⟩
  rw [hf] at HAV0 HAF0 HAF1 HAF2 HAF3 HAF4 HN4
  rw [hsv] at HAV1 HRS HN4
  obtain ⟨g0, hg0⟩ : ∃ o, kid f 0 = o := ⟨_, rfl⟩
  obtain ⟨g1, hg1⟩ : ∃ o, kid f 1 = o := ⟨_, rfl⟩
  obtain ⟨g2, hg2⟩ : ∃ o, kid f 2 = o := ⟨_, rfl⟩
  obtain ⟨g3, hg3⟩ : ∃ o, kid f 3 = o := ⟨_, rfl⟩
  obtain ⟨g4, hg4⟩ : ∃ o, kid f 4 = o := ⟨_, rfl⟩
  obtain ⟨s0, hs0⟩ : ∃ o, kid sv 0 = o := ⟨_, rfl⟩
  obtain ⟨s1, hs1⟩ : ∃ o, kid sv 1 = o := ⟨_, rfl⟩
  obtain ⟨s2, hs2⟩ : ∃ o, kid sv 2 = o := ⟨_, rfl⟩
  rw [hg0] at HAF0
  rw [hg1] at HAF1
  rw [hg2] at HAF2
  rw [hg3] at HAF3
  rw [hg0, hg4, hs1, hs2] at HN4
  rw [hg4] at HAF4
  rw [hs0, hs1, hs2] at HRS
  have HLL := Lib.hid (show L = ⟨⟨(bytO g0).toArray⟩, nmR g1 2, smR (nmR g2 3) maxT, smR (nmR g3 4) maxT, (kids g4).map (fun o => nmR o 5), ⟨smR (nmR s0 1) 1000, chO (bytO s1), chO (bytO s2)⟩⟩ by
   rw [← hL]
   unfold rfL
   rw [hf, hsv, hg0, hg1, hg2, hg3, hg4, hs0, hs1, hs2])
  clear hL hf hsv hg0 hg1 hg2 hg3 hg4 hs0 hs1 hs2
  have hfd2 : ∀ (a b c : Value) (w : World), (Instr.field 50 (.agg #[a, b, c]) 2).run Tryz.prog w = .ok c w := fun _ _ _ _ => by first | rfl | kernel_rfl
  have hfd1 : ∀ (a b c : Value) (w : World), (Instr.field 50 (.agg #[a, b, c]) 1).run Tryz.prog w = .ok b w := fun _ _ _ _ => by first | rfl | kernel_rfl
  obtain ⟨hl0, c0, c1, c2⟩ := facts3 HO2.out
  have hrg := range3o c0 c1 c2
  go_upto_region 4 with (fail)
  go_wp2_with fail
  refine (HAV0.out V2 _ _ HA2.out).mono ?_
  rintro e w3 ⟨xf, yf, rfl, hat, hb3⟩
  have HFA := Lib.hid hat
  have HVA := Lib.hid (HA2.out.on hb3)
  have HR3 := Lib.hid (row_on HR2.out hb3)
  have HO3 := Lib.hid (row_on HO2.out hb3)
  have HB3 := Lib.hid (chain HB2.out hb3)
  obtain ⟨AF, mf, cf, BF, nf, df, rfl, rfl⟩ := hat.slices
  clear hat hb3 hl0 c0 c1 c2 hrg HR2 HO2 HB2 HA2
  unfold cell3
  go_upto_region 5 with (fail)
  obtain ⟨U, hU⟩ : ∃ U, w3.drew = U := ⟨_, rfl⟩
  have hbU : Below w3.heap.size w3 U := by rw [← hU]; exact (Below.refl _ _).drew
  have HFA := Lib.hid (HFA.out.on hbU)
  have HVA := Lib.hid (HVA.out.on hbU)
  have HRU := Lib.hid (row_on HR3.out hbU)
  have HOU := Lib.hid (row_on HO3.out hbU)
  have HBU := Lib.hid (chain HB3.out hbU)
  have HBC := Lib.hid (Below.refl U.heap.size U)
  have mkS : ∀ z : World, Below U.heap.size U z → (fun (z : World) => z.cell? ⟨X4, 2, none⟩ = some (.slice BV nv dv)) z := fun z hz => (facts3 (row_on HOU.out hz)).2.2.2
  have hS0 : (fun (z : World) => z.cell? ⟨X4, 2, none⟩ = some (.slice BV nv dv)) w3.drew := by rw [hU]; exact mkS _ HBC.out
  clear hbU HR3 HO3 HB3
  go_cut [7] (fun s7 wx => ∃ (M : Nat) (C1 C2 : Option Addr) (k1 k2 : Nat), s7 = .pointer (some ⟨M, 0, none⟩) ∧ U.heap.size ≤ M ∧ wx.heap[M]? = some (.cells #[.string ⟨(bytO g0).toArray⟩, .int .u64 (nmR g1 2), .int .i64 0, .int .i64 0, .slice none 0 0, .int .i64 (smR (nmR s0 1) 1000), .slice C1 ((bytO s1).length / 16) k1, .slice C2 ((bytO s2).length / 16) k2] 30 (0, 0)) ∧ Shs C1 (chO (bytO s1)) wx ∧ Shs C2 (chO (bytO s2)) wx ∧ Below U.heap.size U wx)
  case first =>
   refine wp_region_held_drew (S := fun (z : World) => z.cell? ⟨X4, 2, none⟩ = some (.slice BV nv dv)) (by kernel_rfl) hS0 (fun hHeld => ?_)
   rw [hU] at hHeld ⊢
   clear hS0 hU
   refine wpAnyH_take (i := 0) (oi := { dst := some 22, op := .move (.tmp 6), type := 48, pos := "ref.go:79", after := #[], guard := none }) (v := ?_) rfl (by kernel_rfl) (by kernel_rfl) (by kernel_rfl) (fun _ _ _ h => h) (Or.inl ⟨by rfl, ?_⟩) hHeld ?_
   rotate_left
   ·
    intro w hSw
    clear hSw
    go_simp
    try with_reducible rfl
   try simp only [Act.put, List.setIfInBounds_toArray, List.set_cons_zero, List.set_cons_succ]
   refine wpAnyH_take (i := 4) (oi := { dst := some 26, op := .move (.tmp 6), type := 48, pos := "ref.go:79", after := #[], guard := none }) (v := ?_) rfl (by kernel_rfl) (by kernel_rfl) (by kernel_rfl) (fun _ _ _ h => h) (Or.inl ⟨by rfl, ?_⟩) hHeld ?_
   rotate_left
   ·
    intro w hSw
    clear hSw
    go_simp
    try with_reducible rfl
   try simp only [Act.put, List.setIfInBounds_toArray, List.set_cons_zero, List.set_cons_succ]
   refine wpAnyH_take (i := 7) (oi := { dst := some 29, op := .fieldAddr 50 (.tmp 4) 2, type := 0, pos := "ref.go:79", after := #[], guard := none }) (v := ?_) rfl (by kernel_rfl) (by kernel_rfl) (by kernel_rfl) (fun _ _ _ h => h) (Or.inl ⟨by rfl, ?_⟩) hHeld ?_
   rotate_left
   ·
    intro w hSw
    clear hSw
    go_simp
    try with_reducible rfl
   try simp only [Act.put, List.setIfInBounds_toArray, List.set_cons_zero, List.set_cons_succ]
   refine wpAnyH_take (i := 8) (oi := { dst := some 30, op := .load 48 (.tmp 29), type := 48, pos := "ref.go:79", after := #[{ on := 7, ground := .data }], guard := none }) (v := ?_) rfl (by kernel_rfl) (by kernel_rfl) (by kernel_rfl) (fun _ _ _ h => h) (Or.inl ⟨by rfl, ?_⟩) hHeld ?_
   rotate_left
   ·
    intro w hSw
    have hfc0 := hSw
    clear hSw
    go_simp
    try with_reducible rfl
   try simp only [Act.put, List.setIfInBounds_toArray, List.set_cons_zero, List.set_cons_succ]
   refine wpAnyH_ready (rs := [1, 12]) (by kernel_rfl) (by simp) (AllReadyH.cons (o := { dst := some 23, op := .call { callee := .value (.func 26), args := #[.tmp 22, .const (.int .i64 0)], argTypes := #[48, 3] }, type := 50, pos := "ref.go:79", after := #[{ on := 0, ground := .data }], guard := none }) rfl (fun K hK => ?_) (AllReadyH.cons (o := { dst := some 7, op := .alloc 30, type := 0, pos := "ref.go:79", after := #[], guard := none }) rfl (fun K hK => ?_) AllReadyH.nil))
   ·
    go_simp
    refine (HAF0.out U _ _ HFA.out).mono ?_
    rintro e z1 ⟨x1, y1, rfl, hat, hb⟩
    obtain ⟨A1, c1, B1, n1, d1, rfl, rfl, hcn1, hs1⟩ := at_open hat
    have HSS0 := Lib.hid hs1
    have HCN1 := Lib.hid hcn1
    have HBC := Lib.hid (chain HBC.out hb)
    have HFA := Lib.hid (HFA.out.on hb)
    have HVA := Lib.hid (HVA.out.on hb)
    have HSS := HSS0
    clear hat hb hs1 hcn1 HSS0
    unfold cell3
    go_simp
    refine hK.out _ _ (mkS _ HBC.out) (fun hHeld2 => ?_)
    clear hK K hHeld
    have hHeld := hHeld2
    clear hHeld2
    try simp only [Act.put, List.setIfInBounds_toArray, List.set_cons_zero, List.set_cons_succ]
    refine wpAnyH_take (i := 2) (oi := { dst := some 24, op := .field 50 (.tmp 23) 1, type := 31, pos := "ref.go:79", after := #[{ on := 1, ground := .data }], guard := none }) (v := ?_) rfl (by kernel_rfl) (by kernel_rfl) (by kernel_rfl) (fun _ _ _ h => h) (Or.inl ⟨by rfl, ?_⟩) hHeld ?_
    rotate_left
    ·
     intro w hSw
     clear hSw
     go_simp
     try with_reducible rfl
    try simp only [Act.put, List.setIfInBounds_toArray, List.set_cons_zero, List.set_cons_succ]
    refine wpAnyH_ready (rs := [3, 5, 12]) (by kernel_rfl) (by simp) (AllReadyH.cons (o := { dst := some 25, op := .convert 31 9 (.tmp 24), type := 9, pos := "ref.go:79", after := #[{ on := 2, ground := .data }], guard := none }) rfl (fun K hK => ?_) (AllReadyH.cons (o := { dst := some 27, op := .call { callee := .value (.func 26), args := #[.tmp 26, .const (.int .i64 1)], argTypes := #[48, 3] }, type := 50, pos := "ref.go:79", after := #[{ on := 4, ground := .data }, { on := 1, ground := .chain }], guard := none }) rfl (fun K hK => ?_) (AllReadyH.cons (o := { dst := some 7, op := .alloc 30, type := 0, pos := "ref.go:79", after := #[], guard := none }) rfl (fun K hK => ?_) AllReadyH.nil)))
    ·
     have hcv := conv_back (bytO g0) A1 c1 z1 HCN1.out HSS.out
     go_simp
     clear hcv
     refine hK.out _ _ (mkS _ HBC.out) (fun hHeld2 => ?_)
     clear hK K hHeld
     have hHeld := hHeld2
     clear hHeld2
     try simp only [Act.put, List.setIfInBounds_toArray, List.set_cons_zero, List.set_cons_succ]
     refine wpAnyH_ready (rs := [5, 12]) (by kernel_rfl) (by simp) (AllReadyH.cons (o := { dst := some 27, op := .call { callee := .value (.func 26), args := #[.tmp 26, .const (.int .i64 1)], argTypes := #[48, 3] }, type := 50, pos := "ref.go:79", after := #[{ on := 4, ground := .data }, { on := 1, ground := .chain }], guard := none }) rfl (fun K hK => ?_) (AllReadyH.cons (o := { dst := some 7, op := .alloc 30, type := 0, pos := "ref.go:79", after := #[], guard := none }) rfl (fun K hK => ?_) AllReadyH.nil))
     ·
      go_simp
      refine (HAF1.out z1 _ _ HFA.out).mono ?_
      rintro e z5 ⟨x2, y2, rfl, hat, hb⟩
      have HBC := Lib.hid (chain HBC.out hb)
      have HFA := Lib.hid (HFA.out.on hb)
      have HVA := Lib.hid (HVA.out.on hb)
      have HG1 := Lib.hid hat
      clear hat hb
      obtain ⟨A2, m2, c2, B2, n2, d2, rfl, rfl⟩ := HG1.out.slices
      unfold cell3
      go_simp
      refine hK.out _ _ (mkS _ HBC.out) (fun hHeld2 => ?_)
      clear hK K hHeld
      have hHeld := hHeld2
      clear hHeld2
      try simp only [Act.put, List.setIfInBounds_toArray, List.set_cons_zero, List.set_cons_succ]
      refine wpAnyH_ready (rs := [6, 12]) (by kernel_rfl) (by simp) (AllReadyH.cons (o := { dst := some 28, op := .call { callee := .value (.func 27), args := #[.tmp 27, .const (.int .u8 2)], argTypes := #[50, 5] }, type := 22, pos := "ref.go:79", after := #[{ on := 5, ground := .data }, { on := 5, ground := .chain }], guard := none }) rfl (fun K hK => ?_) (AllReadyH.cons (o := { dst := some 7, op := .alloc 30, type := 0, pos := "ref.go:79", after := #[], guard := none }) rfl (fun K hK => ?_) AllReadyH.nil))
      ·
       go_simp
       have hc := number10_ref g1 2 z5 _ _ HG1.out
       unfold cell3 at hc
       refine hc.mono ?_
       clear hc
       rintro e z6 ⟨rfl, hb⟩
       have HBC := Lib.hid (chain HBC.out hb)
       have HFA := Lib.hid (HFA.out.on hb)
       have HVA := Lib.hid (HVA.out.on hb)
       have HG1 := Lib.hid (HG1.out.on hb)
       clear hb HG1
       go_simp
       refine hK.out _ _ (mkS _ HBC.out) (fun hHeld2 => ?_)
       clear hK K hHeld
       have hHeld := hHeld2
       clear hHeld2
       try simp only [Act.put, List.setIfInBounds_toArray, List.set_cons_zero, List.set_cons_succ]
       refine wpAnyH_ready (rs := [9, 12]) (by kernel_rfl) (by simp) (AllReadyH.cons (o := { dst := some 31, op := .call { callee := .value (.func 26), args := #[.tmp 30, .const (.int .i64 1)], argTypes := #[48, 3] }, type := 50, pos := "ref.go:79", after := #[{ on := 8, ground := .data }, { on := 6, ground := .chain }], guard := none }) rfl (fun K hK => ?_) (AllReadyH.cons (o := { dst := some 7, op := .alloc 30, type := 0, pos := "ref.go:79", after := #[], guard := none }) rfl (fun K hK => ?_) AllReadyH.nil))
       ·
        go_simp
        refine (HAV1.out z6 _ _ HVA.out).mono ?_
        rintro e z9 ⟨x3, y3, rfl, hat, hb⟩
        have HBC := Lib.hid (chain HBC.out hb)
        have HFA := Lib.hid (HFA.out.on hb)
        have HVA := Lib.hid (HVA.out.on hb)
        have HG3 := Lib.hid hat
        clear hat hb
        obtain ⟨A3, m3, c3, B3, n3, d3, rfl, rfl⟩ := HG3.out.slices
        unfold cell3
        go_simp
        refine hK.out _ _ (mkS _ HBC.out) (fun hHeld2 => ?_)
        clear hK K hHeld
        have hHeld := hHeld2
        clear hHeld2
        try simp only [Act.put, List.setIfInBounds_toArray, List.set_cons_zero, List.set_cons_succ]
        refine wpAnyH_ready (rs := [10, 12]) (by kernel_rfl) (by simp) (AllReadyH.cons (o := { dst := some 32, op := .call { callee := .value (.func 28), args := #[.tmp 31], argTypes := #[50] }, type := 28, pos := "ref.go:79", after := #[{ on := 9, ground := .data }, { on := 9, ground := .chain }], guard := none }) rfl (fun K hK => ?_) (AllReadyH.cons (o := { dst := some 7, op := .alloc 30, type := 0, pos := "ref.go:79", after := #[], guard := none }) rfl (fun K hK => ?_) AllReadyH.nil))
        ·
         go_simp
         have hc := HRS.out z9 _ _ HG3.out
         unfold cell3 at hc
         refine hc.mono ?_
         clear hc
         rintro e z10 ⟨C1, C2, k1, k2, rfl, hn1, hn2, hsh1, hsh2, hb⟩
         have HBC := Lib.hid (chain HBC.out hb)
         have HFA := Lib.hid (HFA.out.on hb)
         have HVA := Lib.hid (HVA.out.on hb)
         have HG3 := Lib.hid (HG3.out.on hb)
         have HSH1 := Lib.hid hsh1
         have HSH2 := Lib.hid hsh2
         clear hb hsh1 hsh2 hn1 hn2 HG3
         go_simp
         refine hK.out _ _ (mkS _ HBC.out) (fun hHeld2 => ?_)
         clear hK K hHeld
         have hHeld := hHeld2
         clear hHeld2
         try simp only [Act.put, List.setIfInBounds_toArray, List.set_cons_zero, List.set_cons_succ]
         refine wpAnyH_take (i := 11) (oi := { dst := some 33, op := .build 30 #[(0, .tmp 25), (1, .tmp 28), (4, .tmp 32)], type := 30, pos := "ref.go:79", after := #[{ on := 3, ground := .data }, { on := 6, ground := .data }, { on := 10, ground := .data }], guard := none }) (v := ?_) rfl (by kernel_rfl) (by kernel_rfl) (by kernel_rfl) (fun _ _ _ h => h) (Or.inl ⟨by rfl, ?_⟩) hHeld ?_
         rotate_left
         ·
          intro w hSw
          clear hSw
          go_simp
          try with_reducible rfl
         try simp only [Act.put, List.setIfInBounds_toArray, List.set_cons_zero, List.set_cons_succ]
         refine wpAnyH_ready (rs := [12]) (by kernel_rfl) (by simp) (AllReadyH.cons (o := { dst := some 7, op := .alloc 30, type := 0, pos := "ref.go:79", after := #[], guard := none }) rfl (fun K hK => ?_) AllReadyH.nil)
         go_simp
         have hmr := heap_alloc_new z10 (.cells #[.string ⟨#[]⟩, .int .u64 0, .int .i64 0, .int .i64 0, .slice none 0 0, .int .i64 0, .slice none 0 0, .slice none 0 0] 30)
         have hb := below_new z10 (.cells #[.string ⟨#[]⟩, .int .u64 0, .int .i64 0, .int .i64 0, .slice none 0 0, .int .i64 0, .slice none 0 0, .slice none 0 0] 30)
         obtain ⟨M, hM⟩ : ∃ M, z10.heap.size = M := ⟨_, rfl⟩
         have HMU := Lib.hid (show U.heap.size ≤ M by have := HBC.out.size; omega)
         rw [hM] at hmr ⊢
         generalize World.alloc z10 _ = z12 at hmr hb ⊢
         have HBC := Lib.hid (chain HBC.out hb)
         have HFA := Lib.hid (HFA.out.on hb)
         have HVA := Lib.hid (HVA.out.on hb)
         have HSH1 := Lib.hid (HSH1.out.on hb)
         have HSH2 := Lib.hid (HSH2.out.on hb)
         have HMR := Lib.hid hmr
         clear hb hmr hM
         refine hK.out _ _ (mkS _ HBC.out) (fun hHeld2 => ?_)
         clear hK K hHeld
         have hHeld := hHeld2
         clear hHeld2
         try simp only [Act.put, List.setIfInBounds_toArray, List.set_cons_zero, List.set_cons_succ]
         refine wpAnyH_ready (rs := [13]) (by kernel_rfl) (by simp) (AllReadyH.cons (o := o13d) rfl (fun K hK => ?_) AllReadyH.nil)
         try rw [if_pos (by rfl)]
         refine wp_store_mid 30 (.tmp 7) (.tmp 33) rfl M 0 #[.string ⟨(bytO g0).toArray⟩, .int .u64 (nmR g1 2), .int .i64 0, .int .i64 0, .slice none 0 0, .int .i64 (smR (nmR s0 1) 1000), .slice C1 ((bytO s1).length / 16) k1, .slice C2 ((bytO s2).length / 16) k2] rfl rfl (there_row HMR.out 8 (show 8 ≤ 8 by decide)) (sz8 _ rfl) (one8 _ _ _ _ _ _ _ _ rfl rfl rfl rfl rfl rfl rfl rfl) ?_
         have HFIN := Lib.hid (fin8 (R := [.string ⟨(bytO g0).toArray⟩, .int .u64 (nmR g1 2), .int .i64 0, .int .i64 0, .slice none 0 0, .int .i64 (smR (nmR s0 1) 1000), .slice C1 ((bytO s1).length / 16) k1, .slice C2 ((bytO s2).length / 16) k2]) HMR.out (by decide) (row_setCells HMR.out (cs := _) rfl) HSH1.out HSH2.out HBC.out HMU.out)
         refine hK.out _ _ (mkS _ HFIN.out.2.2.2.2) (fun hHeld2 => ?_)
         clear hK K hHeld hHeld2
         try simp only [Act.put, List.setIfInBounds_toArray, List.set_cons_zero, List.set_cons_succ]
         refine wpAnyH_done (by kernel_rfl) ?_ _
         go_wp2_with fail
         go_meet
         exact ⟨M, C1, C2, k1, k2, rfl, HFIN.out⟩
        ·
         go_simp
         have hmr := heap_alloc_new z9 (.cells #[.string ⟨#[]⟩, .int .u64 0, .int .i64 0, .int .i64 0, .slice none 0 0, .int .i64 0, .slice none 0 0, .slice none 0 0] 30)
         have hb := below_new z9 (.cells #[.string ⟨#[]⟩, .int .u64 0, .int .i64 0, .int .i64 0, .slice none 0 0, .int .i64 0, .slice none 0 0, .slice none 0 0] 30)
         obtain ⟨M, hM⟩ : ∃ M, z9.heap.size = M := ⟨_, rfl⟩
         have HMU := Lib.hid (show U.heap.size ≤ M by have := HBC.out.size; omega)
         rw [hM] at hmr ⊢
         generalize World.alloc z9 _ = z12 at hmr hb ⊢
         have HBC := Lib.hid (chain HBC.out hb)
         have HFA := Lib.hid (HFA.out.on hb)
         have HVA := Lib.hid (HVA.out.on hb)
         have HG3 := Lib.hid (HG3.out.on hb)
         have HMR := Lib.hid hmr
         clear hb hmr hM
         refine hK.out _ _ (mkS _ HBC.out) (fun hHeld2 => ?_)
         clear hK K hHeld
         have hHeld := hHeld2
         clear hHeld2
         try simp only [Act.put, List.setIfInBounds_toArray, List.set_cons_zero, List.set_cons_succ]
         refine wpAnyH_ready (rs := [10]) (by kernel_rfl) (by simp) (AllReadyH.cons (o := { dst := some 32, op := .call { callee := .value (.func 28), args := #[.tmp 31], argTypes := #[50] }, type := 28, pos := "ref.go:79", after := #[{ on := 9, ground := .data }, { on := 9, ground := .chain }], guard := none }) rfl (fun K hK => ?_) AllReadyH.nil)
         go_simp
         have hc := HRS.out z12 _ _ HG3.out
         unfold cell3 at hc
         refine hc.mono ?_
         clear hc
         rintro e z10 ⟨C1, C2, k1, k2, rfl, hn1, hn2, hsh1, hsh2, hb⟩
         have HBC := Lib.hid (chain HBC.out hb)
         have HFA := Lib.hid (HFA.out.on hb)
         have HVA := Lib.hid (HVA.out.on hb)
         have HMR := Lib.hid (row_on HMR.out hb)
         have HG3 := Lib.hid (HG3.out.on hb)
         have HSH1 := Lib.hid hsh1
         have HSH2 := Lib.hid hsh2
         clear hb hsh1 hsh2 hn1 hn2 HG3
         go_simp
         refine hK.out _ _ (mkS _ HBC.out) (fun hHeld2 => ?_)
         clear hK K hHeld
         have hHeld := hHeld2
         clear hHeld2
         try simp only [Act.put, List.setIfInBounds_toArray, List.set_cons_zero, List.set_cons_succ]
         refine wpAnyH_take (i := 11) (oi := { dst := some 33, op := .build 30 #[(0, .tmp 25), (1, .tmp 28), (4, .tmp 32)], type := 30, pos := "ref.go:79", after := #[{ on := 3, ground := .data }, { on := 6, ground := .data }, { on := 10, ground := .data }], guard := none }) (v := ?_) rfl (by kernel_rfl) (by kernel_rfl) (by kernel_rfl) (fun _ _ _ h => h) (Or.inl ⟨by rfl, ?_⟩) hHeld ?_
         rotate_left
         ·
          intro w hSw
          clear hSw
          go_simp
          try with_reducible rfl
         try simp only [Act.put, List.setIfInBounds_toArray, List.set_cons_zero, List.set_cons_succ]
         refine wpAnyH_ready (rs := [13]) (by kernel_rfl) (by simp) (AllReadyH.cons (o := o13d) rfl (fun K hK => ?_) AllReadyH.nil)
         try rw [if_pos (by rfl)]
         refine wp_store_mid 30 (.tmp 7) (.tmp 33) rfl M 0 #[.string ⟨(bytO g0).toArray⟩, .int .u64 (nmR g1 2), .int .i64 0, .int .i64 0, .slice none 0 0, .int .i64 (smR (nmR s0 1) 1000), .slice C1 ((bytO s1).length / 16) k1, .slice C2 ((bytO s2).length / 16) k2] rfl rfl (there_row HMR.out 8 (show 8 ≤ 8 by decide)) (sz8 _ rfl) (one8 _ _ _ _ _ _ _ _ rfl rfl rfl rfl rfl rfl rfl rfl) ?_
         have HFIN := Lib.hid (fin8 (R := [.string ⟨(bytO g0).toArray⟩, .int .u64 (nmR g1 2), .int .i64 0, .int .i64 0, .slice none 0 0, .int .i64 (smR (nmR s0 1) 1000), .slice C1 ((bytO s1).length / 16) k1, .slice C2 ((bytO s2).length / 16) k2]) HMR.out (by decide) (row_setCells HMR.out (cs := _) rfl) HSH1.out HSH2.out HBC.out HMU.out)
         refine hK.out _ _ (mkS _ HFIN.out.2.2.2.2) (fun hHeld2 => ?_)
         clear hK K hHeld hHeld2
         try simp only [Act.put, List.setIfInBounds_toArray, List.set_cons_zero, List.set_cons_succ]
         refine wpAnyH_done (by kernel_rfl) ?_ _
         go_wp2_with fail
         go_meet
         exact ⟨M, C1, C2, k1, k2, rfl, HFIN.out⟩
       ·
        go_simp
        have hmr := heap_alloc_new z6 (.cells #[.string ⟨#[]⟩, .int .u64 0, .int .i64 0, .int .i64 0, .slice none 0 0, .int .i64 0, .slice none 0 0, .slice none 0 0] 30)
        have hb := below_new z6 (.cells #[.string ⟨#[]⟩, .int .u64 0, .int .i64 0, .int .i64 0, .slice none 0 0, .int .i64 0, .slice none 0 0, .slice none 0 0] 30)
        obtain ⟨M, hM⟩ : ∃ M, z6.heap.size = M := ⟨_, rfl⟩
        have HMU := Lib.hid (show U.heap.size ≤ M by have := HBC.out.size; omega)
        rw [hM] at hmr ⊢
        generalize World.alloc z6 _ = z12 at hmr hb ⊢
        have HBC := Lib.hid (chain HBC.out hb)
        have HFA := Lib.hid (HFA.out.on hb)
        have HVA := Lib.hid (HVA.out.on hb)
        have HMR := Lib.hid hmr
        clear hb hmr hM
        refine hK.out _ _ (mkS _ HBC.out) (fun hHeld2 => ?_)
        clear hK K hHeld
        have hHeld := hHeld2
        clear hHeld2
        try simp only [Act.put, List.setIfInBounds_toArray, List.set_cons_zero, List.set_cons_succ]
        refine wpAnyH_ready (rs := [9]) (by kernel_rfl) (by simp) (AllReadyH.cons (o := { dst := some 31, op := .call { callee := .value (.func 26), args := #[.tmp 30, .const (.int .i64 1)], argTypes := #[48, 3] }, type := 50, pos := "ref.go:79", after := #[{ on := 8, ground := .data }, { on := 6, ground := .chain }], guard := none }) rfl (fun K hK => ?_) AllReadyH.nil)
        go_simp
        refine (HAV1.out z12 _ _ HVA.out).mono ?_
        rintro e z9 ⟨x3, y3, rfl, hat, hb⟩
        have HBC := Lib.hid (chain HBC.out hb)
        have HFA := Lib.hid (HFA.out.on hb)
        have HVA := Lib.hid (HVA.out.on hb)
        have HMR := Lib.hid (row_on HMR.out hb)
        have HG3 := Lib.hid hat
        clear hat hb
        obtain ⟨A3, m3, c3, B3, n3, d3, rfl, rfl⟩ := HG3.out.slices
        unfold cell3
        go_simp
        refine hK.out _ _ (mkS _ HBC.out) (fun hHeld2 => ?_)
        clear hK K hHeld
        have hHeld := hHeld2
        clear hHeld2
        try simp only [Act.put, List.setIfInBounds_toArray, List.set_cons_zero, List.set_cons_succ]
        refine wpAnyH_ready (rs := [10]) (by kernel_rfl) (by simp) (AllReadyH.cons (o := { dst := some 32, op := .call { callee := .value (.func 28), args := #[.tmp 31], argTypes := #[50] }, type := 28, pos := "ref.go:79", after := #[{ on := 9, ground := .data }, { on := 9, ground := .chain }], guard := none }) rfl (fun K hK => ?_) AllReadyH.nil)
        go_simp
        have hc := HRS.out z9 _ _ HG3.out
        unfold cell3 at hc
        refine hc.mono ?_
        clear hc
        rintro e z10 ⟨C1, C2, k1, k2, rfl, hn1, hn2, hsh1, hsh2, hb⟩
        have HBC := Lib.hid (chain HBC.out hb)
        have HFA := Lib.hid (HFA.out.on hb)
        have HVA := Lib.hid (HVA.out.on hb)
        have HMR := Lib.hid (row_on HMR.out hb)
        have HG3 := Lib.hid (HG3.out.on hb)
        have HSH1 := Lib.hid hsh1
        have HSH2 := Lib.hid hsh2
        clear hb hsh1 hsh2 hn1 hn2 HG3
        go_simp
        refine hK.out _ _ (mkS _ HBC.out) (fun hHeld2 => ?_)
        clear hK K hHeld
        have hHeld := hHeld2
        clear hHeld2
        try simp only [Act.put, List.setIfInBounds_toArray, List.set_cons_zero, List.set_cons_succ]
        refine wpAnyH_take (i := 11) (oi := { dst := some 33, op := .build 30 #[(0, .tmp 25), (1, .tmp 28), (4, .tmp 32)], type := 30, pos := "ref.go:79", after := #[{ on := 3, ground := .data }, { on := 6, ground := .data }, { on := 10, ground := .data }], guard := none }) (v := ?_) rfl (by kernel_rfl) (by kernel_rfl) (by kernel_rfl) (fun _ _ _ h => h) (Or.inl ⟨by rfl, ?_⟩) hHeld ?_
        rotate_left
        ·
         intro w hSw
         clear hSw
         go_simp
         try with_reducible rfl
        try simp only [Act.put, List.setIfInBounds_toArray, List.set_cons_zero, List.set_cons_succ]
        refine wpAnyH_ready (rs := [13]) (by kernel_rfl) (by simp) (AllReadyH.cons (o := o13d) rfl (fun K hK => ?_) AllReadyH.nil)
        try rw [if_pos (by rfl)]
        refine wp_store_mid 30 (.tmp 7) (.tmp 33) rfl M 0 #[.string ⟨(bytO g0).toArray⟩, .int .u64 (nmR g1 2), .int .i64 0, .int .i64 0, .slice none 0 0, .int .i64 (smR (nmR s0 1) 1000), .slice C1 ((bytO s1).length / 16) k1, .slice C2 ((bytO s2).length / 16) k2] rfl rfl (there_row HMR.out 8 (show 8 ≤ 8 by decide)) (sz8 _ rfl) (one8 _ _ _ _ _ _ _ _ rfl rfl rfl rfl rfl rfl rfl rfl) ?_
        have HFIN := Lib.hid (fin8 (R := [.string ⟨(bytO g0).toArray⟩, .int .u64 (nmR g1 2), .int .i64 0, .int .i64 0, .slice none 0 0, .int .i64 (smR (nmR s0 1) 1000), .slice C1 ((bytO s1).length / 16) k1, .slice C2 ((bytO s2).length / 16) k2]) HMR.out (by decide) (row_setCells HMR.out (cs := _) rfl) HSH1.out HSH2.out HBC.out HMU.out)
        refine hK.out _ _ (mkS _ HFIN.out.2.2.2.2) (fun hHeld2 => ?_)
        clear hK K hHeld hHeld2
        try simp only [Act.put, List.setIfInBounds_toArray, List.set_cons_zero, List.set_cons_succ]
        refine wpAnyH_done (by kernel_rfl) ?_ _
        go_wp2_with fail
        go_meet
        exact ⟨M, C1, C2, k1, k2, rfl, HFIN.out⟩
      ·
       go_simp
       have hmr := heap_alloc_new z5 (.cells #[.string ⟨#[]⟩, .int .u64 0, .int .i64 0, .int .i64 0, .slice none 0 0, .int .i64 0, .slice none 0 0, .slice none 0 0] 30)
       have hb := below_new z5 (.cells #[.string ⟨#[]⟩, .int .u64 0, .int .i64 0, .int .i64 0, .slice none 0 0, .int .i64 0, .slice none 0 0, .slice none 0 0] 30)
       obtain ⟨M, hM⟩ : ∃ M, z5.heap.size = M := ⟨_, rfl⟩
       have HMU := Lib.hid (show U.heap.size ≤ M by have := HBC.out.size; omega)
       rw [hM] at hmr ⊢
       generalize World.alloc z5 _ = z12 at hmr hb ⊢
       have HBC := Lib.hid (chain HBC.out hb)
       have HFA := Lib.hid (HFA.out.on hb)
       have HVA := Lib.hid (HVA.out.on hb)
       have HG1 := Lib.hid (HG1.out.on hb)
       have HMR := Lib.hid hmr
       clear hb hmr hM
       refine hK.out _ _ (mkS _ HBC.out) (fun hHeld2 => ?_)
       clear hK K hHeld
       have hHeld := hHeld2
       clear hHeld2
       try simp only [Act.put, List.setIfInBounds_toArray, List.set_cons_zero, List.set_cons_succ]
       refine wpAnyH_ready (rs := [6]) (by kernel_rfl) (by simp) (AllReadyH.cons (o := { dst := some 28, op := .call { callee := .value (.func 27), args := #[.tmp 27, .const (.int .u8 2)], argTypes := #[50, 5] }, type := 22, pos := "ref.go:79", after := #[{ on := 5, ground := .data }, { on := 5, ground := .chain }], guard := none }) rfl (fun K hK => ?_) AllReadyH.nil)
       go_simp
       have hc := number10_ref g1 2 z12 _ _ HG1.out
       unfold cell3 at hc
       refine hc.mono ?_
       clear hc
       rintro e z6 ⟨rfl, hb⟩
       have HBC := Lib.hid (chain HBC.out hb)
       have HFA := Lib.hid (HFA.out.on hb)
       have HVA := Lib.hid (HVA.out.on hb)
       have HMR := Lib.hid (row_on HMR.out hb)
       have HG1 := Lib.hid (HG1.out.on hb)
       clear hb HG1
       go_simp
       refine hK.out _ _ (mkS _ HBC.out) (fun hHeld2 => ?_)
       clear hK K hHeld
       have hHeld := hHeld2
       clear hHeld2
       try simp only [Act.put, List.setIfInBounds_toArray, List.set_cons_zero, List.set_cons_succ]
       refine wpAnyH_ready (rs := [9]) (by kernel_rfl) (by simp) (AllReadyH.cons (o := { dst := some 31, op := .call { callee := .value (.func 26), args := #[.tmp 30, .const (.int .i64 1)], argTypes := #[48, 3] }, type := 50, pos := "ref.go:79", after := #[{ on := 8, ground := .data }, { on := 6, ground := .chain }], guard := none }) rfl (fun K hK => ?_) AllReadyH.nil)
       go_simp
       refine (HAV1.out z6 _ _ HVA.out).mono ?_
       rintro e z9 ⟨x3, y3, rfl, hat, hb⟩
       have HBC := Lib.hid (chain HBC.out hb)
       have HFA := Lib.hid (HFA.out.on hb)
       have HVA := Lib.hid (HVA.out.on hb)
       have HMR := Lib.hid (row_on HMR.out hb)
       have HG3 := Lib.hid hat
       clear hat hb
       obtain ⟨A3, m3, c3, B3, n3, d3, rfl, rfl⟩ := HG3.out.slices
       unfold cell3
       go_simp
       refine hK.out _ _ (mkS _ HBC.out) (fun hHeld2 => ?_)
       clear hK K hHeld
       have hHeld := hHeld2
       clear hHeld2
       try simp only [Act.put, List.setIfInBounds_toArray, List.set_cons_zero, List.set_cons_succ]
       refine wpAnyH_ready (rs := [10]) (by kernel_rfl) (by simp) (AllReadyH.cons (o := { dst := some 32, op := .call { callee := .value (.func 28), args := #[.tmp 31], argTypes := #[50] }, type := 28, pos := "ref.go:79", after := #[{ on := 9, ground := .data }, { on := 9, ground := .chain }], guard := none }) rfl (fun K hK => ?_) AllReadyH.nil)
       go_simp
       have hc := HRS.out z9 _ _ HG3.out
       unfold cell3 at hc
       refine hc.mono ?_
       clear hc
       rintro e z10 ⟨C1, C2, k1, k2, rfl, hn1, hn2, hsh1, hsh2, hb⟩
       have HBC := Lib.hid (chain HBC.out hb)
       have HFA := Lib.hid (HFA.out.on hb)
       have HVA := Lib.hid (HVA.out.on hb)
       have HMR := Lib.hid (row_on HMR.out hb)
       have HG3 := Lib.hid (HG3.out.on hb)
       have HSH1 := Lib.hid hsh1
       have HSH2 := Lib.hid hsh2
       clear hb hsh1 hsh2 hn1 hn2 HG3
       go_simp
       refine hK.out _ _ (mkS _ HBC.out) (fun hHeld2 => ?_)
       clear hK K hHeld
       have hHeld := hHeld2
       clear hHeld2
       try simp only [Act.put, List.setIfInBounds_toArray, List.set_cons_zero, List.set_cons_succ]
       refine wpAnyH_take (i := 11) (oi := { dst := some 33, op := .build 30 #[(0, .tmp 25), (1, .tmp 28), (4, .tmp 32)], type := 30, pos := "ref.go:79", after := #[{ on := 3, ground := .data }, { on := 6, ground := .data }, { on := 10, ground := .data }], guard := none }) (v := ?_) rfl (by kernel_rfl) (by kernel_rfl) (by kernel_rfl) (fun _ _ _ h => h) (Or.inl ⟨by rfl, ?_⟩) hHeld ?_
       rotate_left
       ·
        intro w hSw
        clear hSw
        go_simp
        try with_reducible rfl
       try simp only [Act.put, List.setIfInBounds_toArray, List.set_cons_zero, List.set_cons_succ]
       refine wpAnyH_ready (rs := [13]) (by kernel_rfl) (by simp) (AllReadyH.cons (o := o13d) rfl (fun K hK => ?_) AllReadyH.nil)
       try rw [if_pos (by rfl)]
       refine wp_store_mid 30 (.tmp 7) (.tmp 33) rfl M 0 #[.string ⟨(bytO g0).toArray⟩, .int .u64 (nmR g1 2), .int .i64 0, .int .i64 0, .slice none 0 0, .int .i64 (smR (nmR s0 1) 1000), .slice C1 ((bytO s1).length / 16) k1, .slice C2 ((bytO s2).length / 16) k2] rfl rfl (there_row HMR.out 8 (show 8 ≤ 8 by decide)) (sz8 _ rfl) (one8 _ _ _ _ _ _ _ _ rfl rfl rfl rfl rfl rfl rfl rfl) ?_
       have HFIN := Lib.hid (fin8 (R := [.string ⟨(bytO g0).toArray⟩, .int .u64 (nmR g1 2), .int .i64 0, .int .i64 0, .slice none 0 0, .int .i64 (smR (nmR s0 1) 1000), .slice C1 ((bytO s1).length / 16) k1, .slice C2 ((bytO s2).length / 16) k2]) HMR.out (by decide) (row_setCells HMR.out (cs := _) rfl) HSH1.out HSH2.out HBC.out HMU.out)
       refine hK.out _ _ (mkS _ HFIN.out.2.2.2.2) (fun hHeld2 => ?_)
       clear hK K hHeld hHeld2
       try simp only [Act.put, List.setIfInBounds_toArray, List.set_cons_zero, List.set_cons_succ]
       refine wpAnyH_done (by kernel_rfl) ?_ _
       go_wp2_with fail
       go_meet
       exact ⟨M, C1, C2, k1, k2, rfl, HFIN.out⟩
     ·
      go_simp
      have hmr := heap_alloc_new z1 (.cells #[.string ⟨#[]⟩, .int .u64 0, .int .i64 0, .int .i64 0, .slice none 0 0, .int .i64 0, .slice none 0 0, .slice none 0 0] 30)
      have hb := below_new z1 (.cells #[.string ⟨#[]⟩, .int .u64 0, .int .i64 0, .int .i64 0, .slice none 0 0, .int .i64 0, .slice none 0 0, .slice none 0 0] 30)
      obtain ⟨M, hM⟩ : ∃ M, z1.heap.size = M := ⟨_, rfl⟩
      have HMU := Lib.hid (show U.heap.size ≤ M by have := HBC.out.size; omega)
      rw [hM] at hmr ⊢
      generalize World.alloc z1 _ = z12 at hmr hb ⊢
      have HBC := Lib.hid (chain HBC.out hb)
      have HFA := Lib.hid (HFA.out.on hb)
      have HVA := Lib.hid (HVA.out.on hb)
      have HMR := Lib.hid hmr
      clear hb hmr hM
      refine hK.out _ _ (mkS _ HBC.out) (fun hHeld2 => ?_)
      clear hK K hHeld
      have hHeld := hHeld2
      clear hHeld2
      try simp only [Act.put, List.setIfInBounds_toArray, List.set_cons_zero, List.set_cons_succ]
      refine wpAnyH_ready (rs := [5]) (by kernel_rfl) (by simp) (AllReadyH.cons (o := { dst := some 27, op := .call { callee := .value (.func 26), args := #[.tmp 26, .const (.int .i64 1)], argTypes := #[48, 3] }, type := 50, pos := "ref.go:79", after := #[{ on := 4, ground := .data }, { on := 1, ground := .chain }], guard := none }) rfl (fun K hK => ?_) AllReadyH.nil)
      go_simp
      refine (HAF1.out z12 _ _ HFA.out).mono ?_
      rintro e z5 ⟨x2, y2, rfl, hat, hb⟩
      have HBC := Lib.hid (chain HBC.out hb)
      have HFA := Lib.hid (HFA.out.on hb)
      have HVA := Lib.hid (HVA.out.on hb)
      have HMR := Lib.hid (row_on HMR.out hb)
      have HG1 := Lib.hid hat
      clear hat hb
      obtain ⟨A2, m2, c2, B2, n2, d2, rfl, rfl⟩ := HG1.out.slices
      unfold cell3
      go_simp
      refine hK.out _ _ (mkS _ HBC.out) (fun hHeld2 => ?_)
      clear hK K hHeld
      have hHeld := hHeld2
      clear hHeld2
      try simp only [Act.put, List.setIfInBounds_toArray, List.set_cons_zero, List.set_cons_succ]
      refine wpAnyH_ready (rs := [6]) (by kernel_rfl) (by simp) (AllReadyH.cons (o := { dst := some 28, op := .call { callee := .value (.func 27), args := #[.tmp 27, .const (.int .u8 2)], argTypes := #[50, 5] }, type := 22, pos := "ref.go:79", after := #[{ on := 5, ground := .data }, { on := 5, ground := .chain }], guard := none }) rfl (fun K hK => ?_) AllReadyH.nil)
      go_simp
      have hc := number10_ref g1 2 z5 _ _ HG1.out
      unfold cell3 at hc
      refine hc.mono ?_
      clear hc
      rintro e z6 ⟨rfl, hb⟩
      have HBC := Lib.hid (chain HBC.out hb)
      have HFA := Lib.hid (HFA.out.on hb)
      have HVA := Lib.hid (HVA.out.on hb)
      have HMR := Lib.hid (row_on HMR.out hb)
      have HG1 := Lib.hid (HG1.out.on hb)
      clear hb HG1
      go_simp
      refine hK.out _ _ (mkS _ HBC.out) (fun hHeld2 => ?_)
      clear hK K hHeld
      have hHeld := hHeld2
      clear hHeld2
      try simp only [Act.put, List.setIfInBounds_toArray, List.set_cons_zero, List.set_cons_succ]
      refine wpAnyH_ready (rs := [9]) (by kernel_rfl) (by simp) (AllReadyH.cons (o := { dst := some 31, op := .call { callee := .value (.func 26), args := #[.tmp 30, .const (.int .i64 1)], argTypes := #[48, 3] }, type := 50, pos := "ref.go:79", after := #[{ on := 8, ground := .data }, { on := 6, ground := .chain }], guard := none }) rfl (fun K hK => ?_) AllReadyH.nil)
      go_simp
      refine (HAV1.out z6 _ _ HVA.out).mono ?_
      rintro e z9 ⟨x3, y3, rfl, hat, hb⟩
      have HBC := Lib.hid (chain HBC.out hb)
      have HFA := Lib.hid (HFA.out.on hb)
      have HVA := Lib.hid (HVA.out.on hb)
      have HMR := Lib.hid (row_on HMR.out hb)
      have HG3 := Lib.hid hat
      clear hat hb
      obtain ⟨A3, m3, c3, B3, n3, d3, rfl, rfl⟩ := HG3.out.slices
      unfold cell3
      go_simp
      refine hK.out _ _ (mkS _ HBC.out) (fun hHeld2 => ?_)
      clear hK K hHeld
      have hHeld := hHeld2
      clear hHeld2
      try simp only [Act.put, List.setIfInBounds_toArray, List.set_cons_zero, List.set_cons_succ]
      refine wpAnyH_ready (rs := [10]) (by kernel_rfl) (by simp) (AllReadyH.cons (o := { dst := some 32, op := .call { callee := .value (.func 28), args := #[.tmp 31], argTypes := #[50] }, type := 28, pos := "ref.go:79", after := #[{ on := 9, ground := .data }, { on := 9, ground := .chain }], guard := none }) rfl (fun K hK => ?_) AllReadyH.nil)
      go_simp
      have hc := HRS.out z9 _ _ HG3.out
      unfold cell3 at hc
      refine hc.mono ?_
      clear hc
      rintro e z10 ⟨C1, C2, k1, k2, rfl, hn1, hn2, hsh1, hsh2, hb⟩
      have HBC := Lib.hid (chain HBC.out hb)
      have HFA := Lib.hid (HFA.out.on hb)
      have HVA := Lib.hid (HVA.out.on hb)
      have HMR := Lib.hid (row_on HMR.out hb)
      have HG3 := Lib.hid (HG3.out.on hb)
      have HSH1 := Lib.hid hsh1
      have HSH2 := Lib.hid hsh2
      clear hb hsh1 hsh2 hn1 hn2 HG3
      go_simp
      refine hK.out _ _ (mkS _ HBC.out) (fun hHeld2 => ?_)
      clear hK K hHeld
      have hHeld := hHeld2
      clear hHeld2
      try simp only [Act.put, List.setIfInBounds_toArray, List.set_cons_zero, List.set_cons_succ]
      refine wpAnyH_take (i := 11) (oi := { dst := some 33, op := .build 30 #[(0, .tmp 25), (1, .tmp 28), (4, .tmp 32)], type := 30, pos := "ref.go:79", after := #[{ on := 3, ground := .data }, { on := 6, ground := .data }, { on := 10, ground := .data }], guard := none }) (v := ?_) rfl (by kernel_rfl) (by kernel_rfl) (by kernel_rfl) (fun _ _ _ h => h) (Or.inl ⟨by rfl, ?_⟩) hHeld ?_
      rotate_left
      ·
       intro w hSw
       clear hSw
       go_simp
       try with_reducible rfl
      try simp only [Act.put, List.setIfInBounds_toArray, List.set_cons_zero, List.set_cons_succ]
      refine wpAnyH_ready (rs := [13]) (by kernel_rfl) (by simp) (AllReadyH.cons (o := o13d) rfl (fun K hK => ?_) AllReadyH.nil)
      try rw [if_pos (by rfl)]
      refine wp_store_mid 30 (.tmp 7) (.tmp 33) rfl M 0 #[.string ⟨(bytO g0).toArray⟩, .int .u64 (nmR g1 2), .int .i64 0, .int .i64 0, .slice none 0 0, .int .i64 (smR (nmR s0 1) 1000), .slice C1 ((bytO s1).length / 16) k1, .slice C2 ((bytO s2).length / 16) k2] rfl rfl (there_row HMR.out 8 (show 8 ≤ 8 by decide)) (sz8 _ rfl) (one8 _ _ _ _ _ _ _ _ rfl rfl rfl rfl rfl rfl rfl rfl) ?_
      have HFIN := Lib.hid (fin8 (R := [.string ⟨(bytO g0).toArray⟩, .int .u64 (nmR g1 2), .int .i64 0, .int .i64 0, .slice none 0 0, .int .i64 (smR (nmR s0 1) 1000), .slice C1 ((bytO s1).length / 16) k1, .slice C2 ((bytO s2).length / 16) k2]) HMR.out (by decide) (row_setCells HMR.out (cs := _) rfl) HSH1.out HSH2.out HBC.out HMU.out)
      refine hK.out _ _ (mkS _ HFIN.out.2.2.2.2) (fun hHeld2 => ?_)
      clear hK K hHeld hHeld2
      try simp only [Act.put, List.setIfInBounds_toArray, List.set_cons_zero, List.set_cons_succ]
      refine wpAnyH_done (by kernel_rfl) ?_ _
      go_wp2_with fail
      go_meet
      exact ⟨M, C1, C2, k1, k2, rfl, HFIN.out⟩
    ·
     go_simp
     refine (HAF1.out z1 _ _ HFA.out).mono ?_
     rintro e z5 ⟨x2, y2, rfl, hat, hb⟩
     have HBC := Lib.hid (chain HBC.out hb)
     have HFA := Lib.hid (HFA.out.on hb)
     have HVA := Lib.hid (HVA.out.on hb)
     have HSS := Lib.hid (srcAt_on8 HSS.out hb)
     have HG1 := Lib.hid hat
     clear hat hb
     obtain ⟨A2, m2, c2, B2, n2, d2, rfl, rfl⟩ := HG1.out.slices
     unfold cell3
     go_simp
     refine hK.out _ _ (mkS _ HBC.out) (fun hHeld2 => ?_)
     clear hK K hHeld
     have hHeld := hHeld2
     clear hHeld2
     try simp only [Act.put, List.setIfInBounds_toArray, List.set_cons_zero, List.set_cons_succ]
     refine wpAnyH_ready (rs := [3, 6, 12]) (by kernel_rfl) (by simp) (AllReadyH.cons (o := { dst := some 25, op := .convert 31 9 (.tmp 24), type := 9, pos := "ref.go:79", after := #[{ on := 2, ground := .data }], guard := none }) rfl (fun K hK => ?_) (AllReadyH.cons (o := { dst := some 28, op := .call { callee := .value (.func 27), args := #[.tmp 27, .const (.int .u8 2)], argTypes := #[50, 5] }, type := 22, pos := "ref.go:79", after := #[{ on := 5, ground := .data }, { on := 5, ground := .chain }], guard := none }) rfl (fun K hK => ?_) (AllReadyH.cons (o := { dst := some 7, op := .alloc 30, type := 0, pos := "ref.go:79", after := #[], guard := none }) rfl (fun K hK => ?_) AllReadyH.nil)))
     ·
      have hcv := conv_back (bytO g0) A1 c1 z5 HCN1.out HSS.out
      go_simp
      clear hcv
      refine hK.out _ _ (mkS _ HBC.out) (fun hHeld2 => ?_)
      clear hK K hHeld
      have hHeld := hHeld2
      clear hHeld2
      try simp only [Act.put, List.setIfInBounds_toArray, List.set_cons_zero, List.set_cons_succ]
      refine wpAnyH_ready (rs := [6, 12]) (by kernel_rfl) (by simp) (AllReadyH.cons (o := { dst := some 28, op := .call { callee := .value (.func 27), args := #[.tmp 27, .const (.int .u8 2)], argTypes := #[50, 5] }, type := 22, pos := "ref.go:79", after := #[{ on := 5, ground := .data }, { on := 5, ground := .chain }], guard := none }) rfl (fun K hK => ?_) (AllReadyH.cons (o := { dst := some 7, op := .alloc 30, type := 0, pos := "ref.go:79", after := #[], guard := none }) rfl (fun K hK => ?_) AllReadyH.nil))
      ·
       go_simp
       have hc := number10_ref g1 2 z5 _ _ HG1.out
       unfold cell3 at hc
       refine hc.mono ?_
       clear hc
       rintro e z6 ⟨rfl, hb⟩
       have HBC := Lib.hid (chain HBC.out hb)
       have HFA := Lib.hid (HFA.out.on hb)
       have HVA := Lib.hid (HVA.out.on hb)
       have HG1 := Lib.hid (HG1.out.on hb)
       clear hb HG1
       go_simp
       refine hK.out _ _ (mkS _ HBC.out) (fun hHeld2 => ?_)
       clear hK K hHeld
       have hHeld := hHeld2
       clear hHeld2
       try simp only [Act.put, List.setIfInBounds_toArray, List.set_cons_zero, List.set_cons_succ]
       refine wpAnyH_ready (rs := [9, 12]) (by kernel_rfl) (by simp) (AllReadyH.cons (o := { dst := some 31, op := .call { callee := .value (.func 26), args := #[.tmp 30, .const (.int .i64 1)], argTypes := #[48, 3] }, type := 50, pos := "ref.go:79", after := #[{ on := 8, ground := .data }, { on := 6, ground := .chain }], guard := none }) rfl (fun K hK => ?_) (AllReadyH.cons (o := { dst := some 7, op := .alloc 30, type := 0, pos := "ref.go:79", after := #[], guard := none }) rfl (fun K hK => ?_) AllReadyH.nil))
       ·
        go_simp
        refine (HAV1.out z6 _ _ HVA.out).mono ?_
        rintro e z9 ⟨x3, y3, rfl, hat, hb⟩
        have HBC := Lib.hid (chain HBC.out hb)
        have HFA := Lib.hid (HFA.out.on hb)
        have HVA := Lib.hid (HVA.out.on hb)
        have HG3 := Lib.hid hat
        clear hat hb
        obtain ⟨A3, m3, c3, B3, n3, d3, rfl, rfl⟩ := HG3.out.slices
        unfold cell3
        go_simp
        refine hK.out _ _ (mkS _ HBC.out) (fun hHeld2 => ?_)
        clear hK K hHeld
        have hHeld := hHeld2
        clear hHeld2
        try simp only [Act.put, List.setIfInBounds_toArray, List.set_cons_zero, List.set_cons_succ]
        refine wpAnyH_ready (rs := [10, 12]) (by kernel_rfl) (by simp) (AllReadyH.cons (o := { dst := some 32, op := .call { callee := .value (.func 28), args := #[.tmp 31], argTypes := #[50] }, type := 28, pos := "ref.go:79", after := #[{ on := 9, ground := .data }, { on := 9, ground := .chain }], guard := none }) rfl (fun K hK => ?_) (AllReadyH.cons (o := { dst := some 7, op := .alloc 30, type := 0, pos := "ref.go:79", after := #[], guard := none }) rfl (fun K hK => ?_) AllReadyH.nil))
        ·
         go_simp
         have hc := HRS.out z9 _ _ HG3.out
         unfold cell3 at hc
         refine hc.mono ?_
         clear hc
         rintro e z10 ⟨C1, C2, k1, k2, rfl, hn1, hn2, hsh1, hsh2, hb⟩
         have HBC := Lib.hid (chain HBC.out hb)
         have HFA := Lib.hid (HFA.out.on hb)
         have HVA := Lib.hid (HVA.out.on hb)
         have HG3 := Lib.hid (HG3.out.on hb)
         have HSH1 := Lib.hid hsh1
         have HSH2 := Lib.hid hsh2
         clear hb hsh1 hsh2 hn1 hn2 HG3
         go_simp
         refine hK.out _ _ (mkS _ HBC.out) (fun hHeld2 => ?_)
         clear hK K hHeld
         have hHeld := hHeld2
         clear hHeld2
         try simp only [Act.put, List.setIfInBounds_toArray, List.set_cons_zero, List.set_cons_succ]
         refine wpAnyH_take (i := 11) (oi := { dst := some 33, op := .build 30 #[(0, .tmp 25), (1, .tmp 28), (4, .tmp 32)], type := 30, pos := "ref.go:79", after := #[{ on := 3, ground := .data }, { on := 6, ground := .data }, { on := 10, ground := .data }], guard := none }) (v := ?_) rfl (by kernel_rfl) (by kernel_rfl) (by kernel_rfl) (fun _ _ _ h => h) (Or.inl ⟨by rfl, ?_⟩) hHeld ?_
         rotate_left
         ·
          intro w hSw
          clear hSw
          go_simp
          try with_reducible rfl
         try simp only [Act.put, List.setIfInBounds_toArray, List.set_cons_zero, List.set_cons_succ]
         refine wpAnyH_ready (rs := [12]) (by kernel_rfl) (by simp) (AllReadyH.cons (o := { dst := some 7, op := .alloc 30, type := 0, pos := "ref.go:79", after := #[], guard := none }) rfl (fun K hK => ?_) AllReadyH.nil)
         go_simp
         have hmr := heap_alloc_new z10 (.cells #[.string ⟨#[]⟩, .int .u64 0, .int .i64 0, .int .i64 0, .slice none 0 0, .int .i64 0, .slice none 0 0, .slice none 0 0] 30)
         have hb := below_new z10 (.cells #[.string ⟨#[]⟩, .int .u64 0, .int .i64 0, .int .i64 0, .slice none 0 0, .int .i64 0, .slice none 0 0, .slice none 0 0] 30)
         obtain ⟨M, hM⟩ : ∃ M, z10.heap.size = M := ⟨_, rfl⟩
         have HMU := Lib.hid (show U.heap.size ≤ M by have := HBC.out.size; omega)
         rw [hM] at hmr ⊢
         generalize World.alloc z10 _ = z12 at hmr hb ⊢
         have HBC := Lib.hid (chain HBC.out hb)
         have HFA := Lib.hid (HFA.out.on hb)
         have HVA := Lib.hid (HVA.out.on hb)
         have HSH1 := Lib.hid (HSH1.out.on hb)
         have HSH2 := Lib.hid (HSH2.out.on hb)
         have HMR := Lib.hid hmr
         clear hb hmr hM
         refine hK.out _ _ (mkS _ HBC.out) (fun hHeld2 => ?_)
         clear hK K hHeld
         have hHeld := hHeld2
         clear hHeld2
         try simp only [Act.put, List.setIfInBounds_toArray, List.set_cons_zero, List.set_cons_succ]
         refine wpAnyH_ready (rs := [13]) (by kernel_rfl) (by simp) (AllReadyH.cons (o := o13d) rfl (fun K hK => ?_) AllReadyH.nil)
         try rw [if_pos (by rfl)]
         refine wp_store_mid 30 (.tmp 7) (.tmp 33) rfl M 0 #[.string ⟨(bytO g0).toArray⟩, .int .u64 (nmR g1 2), .int .i64 0, .int .i64 0, .slice none 0 0, .int .i64 (smR (nmR s0 1) 1000), .slice C1 ((bytO s1).length / 16) k1, .slice C2 ((bytO s2).length / 16) k2] rfl rfl (there_row HMR.out 8 (show 8 ≤ 8 by decide)) (sz8 _ rfl) (one8 _ _ _ _ _ _ _ _ rfl rfl rfl rfl rfl rfl rfl rfl) ?_
         have HFIN := Lib.hid (fin8 (R := [.string ⟨(bytO g0).toArray⟩, .int .u64 (nmR g1 2), .int .i64 0, .int .i64 0, .slice none 0 0, .int .i64 (smR (nmR s0 1) 1000), .slice C1 ((bytO s1).length / 16) k1, .slice C2 ((bytO s2).length / 16) k2]) HMR.out (by decide) (row_setCells HMR.out (cs := _) rfl) HSH1.out HSH2.out HBC.out HMU.out)
         refine hK.out _ _ (mkS _ HFIN.out.2.2.2.2) (fun hHeld2 => ?_)
         clear hK K hHeld hHeld2
         try simp only [Act.put, List.setIfInBounds_toArray, List.set_cons_zero, List.set_cons_succ]
         refine wpAnyH_done (by kernel_rfl) ?_ _
         go_wp2_with fail
         go_meet
         exact ⟨M, C1, C2, k1, k2, rfl, HFIN.out⟩
        ·
         go_simp
         have hmr := heap_alloc_new z9 (.cells #[.string ⟨#[]⟩, .int .u64 0, .int .i64 0, .int .i64 0, .slice none 0 0, .int .i64 0, .slice none 0 0, .slice none 0 0] 30)
         have hb := below_new z9 (.cells #[.string ⟨#[]⟩, .int .u64 0, .int .i64 0, .int .i64 0, .slice none 0 0, .int .i64 0, .slice none 0 0, .slice none 0 0] 30)
         obtain ⟨M, hM⟩ : ∃ M, z9.heap.size = M := ⟨_, rfl⟩
         have HMU := Lib.hid (show U.heap.size ≤ M by have := HBC.out.size; omega)
         rw [hM] at hmr ⊢
         generalize World.alloc z9 _ = z12 at hmr hb ⊢
         have HBC := Lib.hid (chain HBC.out hb)
         have HFA := Lib.hid (HFA.out.on hb)
         have HVA := Lib.hid (HVA.out.on hb)
         have HG3 := Lib.hid (HG3.out.on hb)
         have HMR := Lib.hid hmr
         clear hb hmr hM
         refine hK.out _ _ (mkS _ HBC.out) (fun hHeld2 => ?_)
         clear hK K hHeld
         have hHeld := hHeld2
         clear hHeld2
         try simp only [Act.put, List.setIfInBounds_toArray, List.set_cons_zero, List.set_cons_succ]
         refine wpAnyH_ready (rs := [10]) (by kernel_rfl) (by simp) (AllReadyH.cons (o := { dst := some 32, op := .call { callee := .value (.func 28), args := #[.tmp 31], argTypes := #[50] }, type := 28, pos := "ref.go:79", after := #[{ on := 9, ground := .data }, { on := 9, ground := .chain }], guard := none }) rfl (fun K hK => ?_) AllReadyH.nil)
         go_simp
         have hc := HRS.out z12 _ _ HG3.out
         unfold cell3 at hc
         refine hc.mono ?_
         clear hc
         rintro e z10 ⟨C1, C2, k1, k2, rfl, hn1, hn2, hsh1, hsh2, hb⟩
         have HBC := Lib.hid (chain HBC.out hb)
         have HFA := Lib.hid (HFA.out.on hb)
         have HVA := Lib.hid (HVA.out.on hb)
         have HMR := Lib.hid (row_on HMR.out hb)
         have HG3 := Lib.hid (HG3.out.on hb)
         have HSH1 := Lib.hid hsh1
         have HSH2 := Lib.hid hsh2
         clear hb hsh1 hsh2 hn1 hn2 HG3
         go_simp
         refine hK.out _ _ (mkS _ HBC.out) (fun hHeld2 => ?_)
         clear hK K hHeld
         have hHeld := hHeld2
         clear hHeld2
         try simp only [Act.put, List.setIfInBounds_toArray, List.set_cons_zero, List.set_cons_succ]
         refine wpAnyH_take (i := 11) (oi := { dst := some 33, op := .build 30 #[(0, .tmp 25), (1, .tmp 28), (4, .tmp 32)], type := 30, pos := "ref.go:79", after := #[{ on := 3, ground := .data }, { on := 6, ground := .data }, { on := 10, ground := .data }], guard := none }) (v := ?_) rfl (by kernel_rfl) (by kernel_rfl) (by kernel_rfl) (fun _ _ _ h => h) (Or.inl ⟨by rfl, ?_⟩) hHeld ?_
         rotate_left
         ·
          intro w hSw
          clear hSw
          go_simp
          try with_reducible rfl
         try simp only [Act.put, List.setIfInBounds_toArray, List.set_cons_zero, List.set_cons_succ]
         refine wpAnyH_ready (rs := [13]) (by kernel_rfl) (by simp) (AllReadyH.cons (o := o13d) rfl (fun K hK => ?_) AllReadyH.nil)
         try rw [if_pos (by rfl)]
         refine wp_store_mid 30 (.tmp 7) (.tmp 33) rfl M 0 #[.string ⟨(bytO g0).toArray⟩, .int .u64 (nmR g1 2), .int .i64 0, .int .i64 0, .slice none 0 0, .int .i64 (smR (nmR s0 1) 1000), .slice C1 ((bytO s1).length / 16) k1, .slice C2 ((bytO s2).length / 16) k2] rfl rfl (there_row HMR.out 8 (show 8 ≤ 8 by decide)) (sz8 _ rfl) (one8 _ _ _ _ _ _ _ _ rfl rfl rfl rfl rfl rfl rfl rfl) ?_
         have HFIN := Lib.hid (fin8 (R := [.string ⟨(bytO g0).toArray⟩, .int .u64 (nmR g1 2), .int .i64 0, .int .i64 0, .slice none 0 0, .int .i64 (smR (nmR s0 1) 1000), .slice C1 ((bytO s1).length / 16) k1, .slice C2 ((bytO s2).length / 16) k2]) HMR.out (by decide) (row_setCells HMR.out (cs := _) rfl) HSH1.out HSH2.out HBC.out HMU.out)
         refine hK.out _ _ (mkS _ HFIN.out.2.2.2.2) (fun hHeld2 => ?_)
         clear hK K hHeld hHeld2
         try simp only [Act.put, List.setIfInBounds_toArray, List.set_cons_zero, List.set_cons_succ]
         refine wpAnyH_done (by kernel_rfl) ?_ _
         go_wp2_with fail
         go_meet
         exact ⟨M, C1, C2, k1, k2, rfl, HFIN.out⟩
       ·
        go_simp
        have hmr := heap_alloc_new z6 (.cells #[.string ⟨#[]⟩, .int .u64 0, .int .i64 0, .int .i64 0, .slice none 0 0, .int .i64 0, .slice none 0 0, .slice none 0 0] 30)
        have hb := below_new z6 (.cells #[.string ⟨#[]⟩, .int .u64 0, .int .i64 0, .int .i64 0, .slice none 0 0, .int .i64 0, .slice none 0 0, .slice none 0 0] 30)
        obtain ⟨M, hM⟩ : ∃ M, z6.heap.size = M := ⟨_, rfl⟩
        have HMU := Lib.hid (show U.heap.size ≤ M by have := HBC.out.size; omega)
        rw [hM] at hmr ⊢
        generalize World.alloc z6 _ = z12 at hmr hb ⊢
        have HBC := Lib.hid (chain HBC.out hb)
        have HFA := Lib.hid (HFA.out.on hb)
        have HVA := Lib.hid (HVA.out.on hb)
        have HMR := Lib.hid hmr
        clear hb hmr hM
        refine hK.out _ _ (mkS _ HBC.out) (fun hHeld2 => ?_)
        clear hK K hHeld
        have hHeld := hHeld2
        clear hHeld2
        try simp only [Act.put, List.setIfInBounds_toArray, List.set_cons_zero, List.set_cons_succ]
        refine wpAnyH_ready (rs := [9]) (by kernel_rfl) (by simp) (AllReadyH.cons (o := { dst := some 31, op := .call { callee := .value (.func 26), args := #[.tmp 30, .const (.int .i64 1)], argTypes := #[48, 3] }, type := 50, pos := "ref.go:79", after := #[{ on := 8, ground := .data }, { on := 6, ground := .chain }], guard := none }) rfl (fun K hK => ?_) AllReadyH.nil)
        go_simp
        refine (HAV1.out z12 _ _ HVA.out).mono ?_
        rintro e z9 ⟨x3, y3, rfl, hat, hb⟩
        have HBC := Lib.hid (chain HBC.out hb)
        have HFA := Lib.hid (HFA.out.on hb)
        have HVA := Lib.hid (HVA.out.on hb)
        have HMR := Lib.hid (row_on HMR.out hb)
        have HG3 := Lib.hid hat
        clear hat hb
        obtain ⟨A3, m3, c3, B3, n3, d3, rfl, rfl⟩ := HG3.out.slices
        unfold cell3
        go_simp
        refine hK.out _ _ (mkS _ HBC.out) (fun hHeld2 => ?_)
        clear hK K hHeld
        have hHeld := hHeld2
        clear hHeld2
        try simp only [Act.put, List.setIfInBounds_toArray, List.set_cons_zero, List.set_cons_succ]
        refine wpAnyH_ready (rs := [10]) (by kernel_rfl) (by simp) (AllReadyH.cons (o := { dst := some 32, op := .call { callee := .value (.func 28), args := #[.tmp 31], argTypes := #[50] }, type := 28, pos := "ref.go:79", after := #[{ on := 9, ground := .data }, { on := 9, ground := .chain }], guard := none }) rfl (fun K hK => ?_) AllReadyH.nil)
        go_simp
        have hc := HRS.out z9 _ _ HG3.out
        unfold cell3 at hc
        refine hc.mono ?_
        clear hc
        rintro e z10 ⟨C1, C2, k1, k2, rfl, hn1, hn2, hsh1, hsh2, hb⟩
        have HBC := Lib.hid (chain HBC.out hb)
        have HFA := Lib.hid (HFA.out.on hb)
        have HVA := Lib.hid (HVA.out.on hb)
        have HMR := Lib.hid (row_on HMR.out hb)
        have HG3 := Lib.hid (HG3.out.on hb)
        have HSH1 := Lib.hid hsh1
        have HSH2 := Lib.hid hsh2
        clear hb hsh1 hsh2 hn1 hn2 HG3
        go_simp
        refine hK.out _ _ (mkS _ HBC.out) (fun hHeld2 => ?_)
        clear hK K hHeld
        have hHeld := hHeld2
        clear hHeld2
        try simp only [Act.put, List.setIfInBounds_toArray, List.set_cons_zero, List.set_cons_succ]
        refine wpAnyH_take (i := 11) (oi := { dst := some 33, op := .build 30 #[(0, .tmp 25), (1, .tmp 28), (4, .tmp 32)], type := 30, pos := "ref.go:79", after := #[{ on := 3, ground := .data }, { on := 6, ground := .data }, { on := 10, ground := .data }], guard := none }) (v := ?_) rfl (by kernel_rfl) (by kernel_rfl) (by kernel_rfl) (fun _ _ _ h => h) (Or.inl ⟨by rfl, ?_⟩) hHeld ?_
        rotate_left
        ·
         intro w hSw
         clear hSw
         go_simp
         try with_reducible rfl
        try simp only [Act.put, List.setIfInBounds_toArray, List.set_cons_zero, List.set_cons_succ]
        refine wpAnyH_ready (rs := [13]) (by kernel_rfl) (by simp) (AllReadyH.cons (o := o13d) rfl (fun K hK => ?_) AllReadyH.nil)
        try rw [if_pos (by rfl)]
        refine wp_store_mid 30 (.tmp 7) (.tmp 33) rfl M 0 #[.string ⟨(bytO g0).toArray⟩, .int .u64 (nmR g1 2), .int .i64 0, .int .i64 0, .slice none 0 0, .int .i64 (smR (nmR s0 1) 1000), .slice C1 ((bytO s1).length / 16) k1, .slice C2 ((bytO s2).length / 16) k2] rfl rfl (there_row HMR.out 8 (show 8 ≤ 8 by decide)) (sz8 _ rfl) (one8 _ _ _ _ _ _ _ _ rfl rfl rfl rfl rfl rfl rfl rfl) ?_
        have HFIN := Lib.hid (fin8 (R := [.string ⟨(bytO g0).toArray⟩, .int .u64 (nmR g1 2), .int .i64 0, .int .i64 0, .slice none 0 0, .int .i64 (smR (nmR s0 1) 1000), .slice C1 ((bytO s1).length / 16) k1, .slice C2 ((bytO s2).length / 16) k2]) HMR.out (by decide) (row_setCells HMR.out (cs := _) rfl) HSH1.out HSH2.out HBC.out HMU.out)
        refine hK.out _ _ (mkS _ HFIN.out.2.2.2.2) (fun hHeld2 => ?_)
        clear hK K hHeld hHeld2
        try simp only [Act.put, List.setIfInBounds_toArray, List.set_cons_zero, List.set_cons_succ]
        refine wpAnyH_done (by kernel_rfl) ?_ _
        go_wp2_with fail
        go_meet
        exact ⟨M, C1, C2, k1, k2, rfl, HFIN.out⟩
      ·
       go_simp
       have hmr := heap_alloc_new z5 (.cells #[.string ⟨#[]⟩, .int .u64 0, .int .i64 0, .int .i64 0, .slice none 0 0, .int .i64 0, .slice none 0 0, .slice none 0 0] 30)
       have hb := below_new z5 (.cells #[.string ⟨#[]⟩, .int .u64 0, .int .i64 0, .int .i64 0, .slice none 0 0, .int .i64 0, .slice none 0 0, .slice none 0 0] 30)
       obtain ⟨M, hM⟩ : ∃ M, z5.heap.size = M := ⟨_, rfl⟩
       have HMU := Lib.hid (show U.heap.size ≤ M by have := HBC.out.size; omega)
       rw [hM] at hmr ⊢
       generalize World.alloc z5 _ = z12 at hmr hb ⊢
       have HBC := Lib.hid (chain HBC.out hb)
       have HFA := Lib.hid (HFA.out.on hb)
       have HVA := Lib.hid (HVA.out.on hb)
       have HG1 := Lib.hid (HG1.out.on hb)
       have HMR := Lib.hid hmr
       clear hb hmr hM
       refine hK.out _ _ (mkS _ HBC.out) (fun hHeld2 => ?_)
       clear hK K hHeld
       have hHeld := hHeld2
       clear hHeld2
       try simp only [Act.put, List.setIfInBounds_toArray, List.set_cons_zero, List.set_cons_succ]
       refine wpAnyH_ready (rs := [6]) (by kernel_rfl) (by simp) (AllReadyH.cons (o := { dst := some 28, op := .call { callee := .value (.func 27), args := #[.tmp 27, .const (.int .u8 2)], argTypes := #[50, 5] }, type := 22, pos := "ref.go:79", after := #[{ on := 5, ground := .data }, { on := 5, ground := .chain }], guard := none }) rfl (fun K hK => ?_) AllReadyH.nil)
       go_simp
       have hc := number10_ref g1 2 z12 _ _ HG1.out
       unfold cell3 at hc
       refine hc.mono ?_
       clear hc
       rintro e z6 ⟨rfl, hb⟩
       have HBC := Lib.hid (chain HBC.out hb)
       have HFA := Lib.hid (HFA.out.on hb)
       have HVA := Lib.hid (HVA.out.on hb)
       have HMR := Lib.hid (row_on HMR.out hb)
       have HG1 := Lib.hid (HG1.out.on hb)
       clear hb HG1
       go_simp
       refine hK.out _ _ (mkS _ HBC.out) (fun hHeld2 => ?_)
       clear hK K hHeld
       have hHeld := hHeld2
       clear hHeld2
       try simp only [Act.put, List.setIfInBounds_toArray, List.set_cons_zero, List.set_cons_succ]
       refine wpAnyH_ready (rs := [9]) (by kernel_rfl) (by simp) (AllReadyH.cons (o := { dst := some 31, op := .call { callee := .value (.func 26), args := #[.tmp 30, .const (.int .i64 1)], argTypes := #[48, 3] }, type := 50, pos := "ref.go:79", after := #[{ on := 8, ground := .data }, { on := 6, ground := .chain }], guard := none }) rfl (fun K hK => ?_) AllReadyH.nil)
       go_simp
       refine (HAV1.out z6 _ _ HVA.out).mono ?_
       rintro e z9 ⟨x3, y3, rfl, hat, hb⟩
       have HBC := Lib.hid (chain HBC.out hb)
       have HFA := Lib.hid (HFA.out.on hb)
       have HVA := Lib.hid (HVA.out.on hb)
       have HMR := Lib.hid (row_on HMR.out hb)
       have HG3 := Lib.hid hat
       clear hat hb
       obtain ⟨A3, m3, c3, B3, n3, d3, rfl, rfl⟩ := HG3.out.slices
       unfold cell3
       go_simp
       refine hK.out _ _ (mkS _ HBC.out) (fun hHeld2 => ?_)
       clear hK K hHeld
       have hHeld := hHeld2
       clear hHeld2
       try simp only [Act.put, List.setIfInBounds_toArray, List.set_cons_zero, List.set_cons_succ]
       refine wpAnyH_ready (rs := [10]) (by kernel_rfl) (by simp) (AllReadyH.cons (o := { dst := some 32, op := .call { callee := .value (.func 28), args := #[.tmp 31], argTypes := #[50] }, type := 28, pos := "ref.go:79", after := #[{ on := 9, ground := .data }, { on := 9, ground := .chain }], guard := none }) rfl (fun K hK => ?_) AllReadyH.nil)
       go_simp
       have hc := HRS.out z9 _ _ HG3.out
       unfold cell3 at hc
       refine hc.mono ?_
       clear hc
       rintro e z10 ⟨C1, C2, k1, k2, rfl, hn1, hn2, hsh1, hsh2, hb⟩
       have HBC := Lib.hid (chain HBC.out hb)
       have HFA := Lib.hid (HFA.out.on hb)
       have HVA := Lib.hid (HVA.out.on hb)
       have HMR := Lib.hid (row_on HMR.out hb)
       have HG3 := Lib.hid (HG3.out.on hb)
       have HSH1 := Lib.hid hsh1
       have HSH2 := Lib.hid hsh2
       clear hb hsh1 hsh2 hn1 hn2 HG3
       go_simp
       refine hK.out _ _ (mkS _ HBC.out) (fun hHeld2 => ?_)
       clear hK K hHeld
       have hHeld := hHeld2
       clear hHeld2
       try simp only [Act.put, List.setIfInBounds_toArray, List.set_cons_zero, List.set_cons_succ]
       refine wpAnyH_take (i := 11) (oi := { dst := some 33, op := .build 30 #[(0, .tmp 25), (1, .tmp 28), (4, .tmp 32)], type := 30, pos := "ref.go:79", after := #[{ on := 3, ground := .data }, { on := 6, ground := .data }, { on := 10, ground := .data }], guard := none }) (v := ?_) rfl (by kernel_rfl) (by kernel_rfl) (by kernel_rfl) (fun _ _ _ h => h) (Or.inl ⟨by rfl, ?_⟩) hHeld ?_
       rotate_left
       ·
        intro w hSw
        clear hSw
        go_simp
        try with_reducible rfl
       try simp only [Act.put, List.setIfInBounds_toArray, List.set_cons_zero, List.set_cons_succ]
       refine wpAnyH_ready (rs := [13]) (by kernel_rfl) (by simp) (AllReadyH.cons (o := o13d) rfl (fun K hK => ?_) AllReadyH.nil)
       try rw [if_pos (by rfl)]
       refine wp_store_mid 30 (.tmp 7) (.tmp 33) rfl M 0 #[.string ⟨(bytO g0).toArray⟩, .int .u64 (nmR g1 2), .int .i64 0, .int .i64 0, .slice none 0 0, .int .i64 (smR (nmR s0 1) 1000), .slice C1 ((bytO s1).length / 16) k1, .slice C2 ((bytO s2).length / 16) k2] rfl rfl (there_row HMR.out 8 (show 8 ≤ 8 by decide)) (sz8 _ rfl) (one8 _ _ _ _ _ _ _ _ rfl rfl rfl rfl rfl rfl rfl rfl) ?_
       have HFIN := Lib.hid (fin8 (R := [.string ⟨(bytO g0).toArray⟩, .int .u64 (nmR g1 2), .int .i64 0, .int .i64 0, .slice none 0 0, .int .i64 (smR (nmR s0 1) 1000), .slice C1 ((bytO s1).length / 16) k1, .slice C2 ((bytO s2).length / 16) k2]) HMR.out (by decide) (row_setCells HMR.out (cs := _) rfl) HSH1.out HSH2.out HBC.out HMU.out)
       refine hK.out _ _ (mkS _ HFIN.out.2.2.2.2) (fun hHeld2 => ?_)
       clear hK K hHeld hHeld2
       try simp only [Act.put, List.setIfInBounds_toArray, List.set_cons_zero, List.set_cons_succ]
       refine wpAnyH_done (by kernel_rfl) ?_ _
       go_wp2_with fail
       go_meet
       exact ⟨M, C1, C2, k1, k2, rfl, HFIN.out⟩
     ·
      go_simp
      have hc := number10_ref g1 2 z5 _ _ HG1.out
      unfold cell3 at hc
      refine hc.mono ?_
      clear hc
      rintro e z6 ⟨rfl, hb⟩
      have HBC := Lib.hid (chain HBC.out hb)
      have HFA := Lib.hid (HFA.out.on hb)
      have HVA := Lib.hid (HVA.out.on hb)
      have HSS := Lib.hid (srcAt_on8 HSS.out hb)
      have HG1 := Lib.hid (HG1.out.on hb)
      clear hb HG1
      go_simp
      refine hK.out _ _ (mkS _ HBC.out) (fun hHeld2 => ?_)
      clear hK K hHeld
      have hHeld := hHeld2
      clear hHeld2
      try simp only [Act.put, List.setIfInBounds_toArray, List.set_cons_zero, List.set_cons_succ]
      refine wpAnyH_ready (rs := [3, 9, 12]) (by kernel_rfl) (by simp) (AllReadyH.cons (o := { dst := some 25, op := .convert 31 9 (.tmp 24), type := 9, pos := "ref.go:79", after := #[{ on := 2, ground := .data }], guard := none }) rfl (fun K hK => ?_) (AllReadyH.cons (o := { dst := some 31, op := .call { callee := .value (.func 26), args := #[.tmp 30, .const (.int .i64 1)], argTypes := #[48, 3] }, type := 50, pos := "ref.go:79", after := #[{ on := 8, ground := .data }, { on := 6, ground := .chain }], guard := none }) rfl (fun K hK => ?_) (AllReadyH.cons (o := { dst := some 7, op := .alloc 30, type := 0, pos := "ref.go:79", after := #[], guard := none }) rfl (fun K hK => ?_) AllReadyH.nil)))
      ·
       have hcv := conv_back (bytO g0) A1 c1 z6 HCN1.out HSS.out
       go_simp
       clear hcv
       refine hK.out _ _ (mkS _ HBC.out) (fun hHeld2 => ?_)
       clear hK K hHeld
       have hHeld := hHeld2
       clear hHeld2
       try simp only [Act.put, List.setIfInBounds_toArray, List.set_cons_zero, List.set_cons_succ]
       refine wpAnyH_ready (rs := [9, 12]) (by kernel_rfl) (by simp) (AllReadyH.cons (o := { dst := some 31, op := .call { callee := .value (.func 26), args := #[.tmp 30, .const (.int .i64 1)], argTypes := #[48, 3] }, type := 50, pos := "ref.go:79", after := #[{ on := 8, ground := .data }, { on := 6, ground := .chain }], guard := none }) rfl (fun K hK => ?_) (AllReadyH.cons (o := { dst := some 7, op := .alloc 30, type := 0, pos := "ref.go:79", after := #[], guard := none }) rfl (fun K hK => ?_) AllReadyH.nil))
       ·
        go_simp
        refine (HAV1.out z6 _ _ HVA.out).mono ?_
        rintro e z9 ⟨x3, y3, rfl, hat, hb⟩
        have HBC := Lib.hid (chain HBC.out hb)
        have HFA := Lib.hid (HFA.out.on hb)
        have HVA := Lib.hid (HVA.out.on hb)
        have HG3 := Lib.hid hat
        clear hat hb
        obtain ⟨A3, m3, c3, B3, n3, d3, rfl, rfl⟩ := HG3.out.slices
        unfold cell3
        go_simp
        refine hK.out _ _ (mkS _ HBC.out) (fun hHeld2 => ?_)
        clear hK K hHeld
        have hHeld := hHeld2
        clear hHeld2
        try simp only [Act.put, List.setIfInBounds_toArray, List.set_cons_zero, List.set_cons_succ]
        refine wpAnyH_ready (rs := [10, 12]) (by kernel_rfl) (by simp) (AllReadyH.cons (o := { dst := some 32, op := .call { callee := .value (.func 28), args := #[.tmp 31], argTypes := #[50] }, type := 28, pos := "ref.go:79", after := #[{ on := 9, ground := .data }, { on := 9, ground := .chain }], guard := none }) rfl (fun K hK => ?_) (AllReadyH.cons (o := { dst := some 7, op := .alloc 30, type := 0, pos := "ref.go:79", after := #[], guard := none }) rfl (fun K hK => ?_) AllReadyH.nil))
        ·
         go_simp
         have hc := HRS.out z9 _ _ HG3.out
         unfold cell3 at hc
         refine hc.mono ?_
         clear hc
         rintro e z10 ⟨C1, C2, k1, k2, rfl, hn1, hn2, hsh1, hsh2, hb⟩
         have HBC := Lib.hid (chain HBC.out hb)
         have HFA := Lib.hid (HFA.out.on hb)
         have HVA := Lib.hid (HVA.out.on hb)
         have HG3 := Lib.hid (HG3.out.on hb)
         have HSH1 := Lib.hid hsh1
         have HSH2 := Lib.hid hsh2
         clear hb hsh1 hsh2 hn1 hn2 HG3
         go_simp
         refine hK.out _ _ (mkS _ HBC.out) (fun hHeld2 => ?_)
         clear hK K hHeld
         have hHeld := hHeld2
         clear hHeld2
         try simp only [Act.put, List.setIfInBounds_toArray, List.set_cons_zero, List.set_cons_succ]
         refine wpAnyH_take (i := 11) (oi := { dst := some 33, op := .build 30 #[(0, .tmp 25), (1, .tmp 28), (4, .tmp 32)], type := 30, pos := "ref.go:79", after := #[{ on := 3, ground := .data }, { on := 6, ground := .data }, { on := 10, ground := .data }], guard := none }) (v := ?_) rfl (by kernel_rfl) (by kernel_rfl) (by kernel_rfl) (fun _ _ _ h => h) (Or.inl ⟨by rfl, ?_⟩) hHeld ?_
         rotate_left
         ·
          intro w hSw
          clear hSw
          go_simp
          try with_reducible rfl
         try simp only [Act.put, List.setIfInBounds_toArray, List.set_cons_zero, List.set_cons_succ]
         refine wpAnyH_ready (rs := [12]) (by kernel_rfl) (by simp) (AllReadyH.cons (o := { dst := some 7, op := .alloc 30, type := 0, pos := "ref.go:79", after := #[], guard := none }) rfl (fun K hK => ?_) AllReadyH.nil)
         go_simp
         have hmr := heap_alloc_new z10 (.cells #[.string ⟨#[]⟩, .int .u64 0, .int .i64 0, .int .i64 0, .slice none 0 0, .int .i64 0, .slice none 0 0, .slice none 0 0] 30)
         have hb := below_new z10 (.cells #[.string ⟨#[]⟩, .int .u64 0, .int .i64 0, .int .i64 0, .slice none 0 0, .int .i64 0, .slice none 0 0, .slice none 0 0] 30)
         obtain ⟨M, hM⟩ : ∃ M, z10.heap.size = M := ⟨_, rfl⟩
         have HMU := Lib.hid (show U.heap.size ≤ M by have := HBC.out.size; omega)
         rw [hM] at hmr ⊢
         generalize World.alloc z10 _ = z12 at hmr hb ⊢
         have HBC := Lib.hid (chain HBC.out hb)
         have HFA := Lib.hid (HFA.out.on hb)
         have HVA := Lib.hid (HVA.out.on hb)
         have HSH1 := Lib.hid (HSH1.out.on hb)
         have HSH2 := Lib.hid (HSH2.out.on hb)
         have HMR := Lib.hid hmr
         clear hb hmr hM
         refine hK.out _ _ (mkS _ HBC.out) (fun hHeld2 => ?_)
         clear hK K hHeld
         have hHeld := hHeld2
         clear hHeld2
         try simp only [Act.put, List.setIfInBounds_toArray, List.set_cons_zero, List.set_cons_succ]
         refine wpAnyH_ready (rs := [13]) (by kernel_rfl) (by simp) (AllReadyH.cons (o := o13d) rfl (fun K hK => ?_) AllReadyH.nil)
         try rw [if_pos (by rfl)]
         refine wp_store_mid 30 (.tmp 7) (.tmp 33) rfl M 0 #[.string ⟨(bytO g0).toArray⟩, .int .u64 (nmR g1 2), .int .i64 0, .int .i64 0, .slice none 0 0, .int .i64 (smR (nmR s0 1) 1000), .slice C1 ((bytO s1).length / 16) k1, .slice C2 ((bytO s2).length / 16) k2] rfl rfl (there_row HMR.out 8 (show 8 ≤ 8 by decide)) (sz8 _ rfl) (one8 _ _ _ _ _ _ _ _ rfl rfl rfl rfl rfl rfl rfl rfl) ?_
         have HFIN := Lib.hid (fin8 (R := [.string ⟨(bytO g0).toArray⟩, .int .u64 (nmR g1 2), .int .i64 0, .int .i64 0, .slice none 0 0, .int .i64 (smR (nmR s0 1) 1000), .slice C1 ((bytO s1).length / 16) k1, .slice C2 ((bytO s2).length / 16) k2]) HMR.out (by decide) (row_setCells HMR.out (cs := _) rfl) HSH1.out HSH2.out HBC.out HMU.out)
         refine hK.out _ _ (mkS _ HFIN.out.2.2.2.2) (fun hHeld2 => ?_)
         clear hK K hHeld hHeld2
         try simp only [Act.put, List.setIfInBounds_toArray, List.set_cons_zero, List.set_cons_succ]
         refine wpAnyH_done (by kernel_rfl) ?_ _
         go_wp2_with fail
         go_meet
         exact ⟨M, C1, C2, k1, k2, rfl, HFIN.out⟩
        ·
         go_simp
         have hmr := heap_alloc_new z9 (.cells #[.string ⟨#[]⟩, .int .u64 0, .int .i64 0, .int .i64 0, .slice none 0 0, .int .i64 0, .slice none 0 0, .slice none 0 0] 30)
         have hb := below_new z9 (.cells #[.string ⟨#[]⟩, .int .u64 0, .int .i64 0, .int .i64 0, .slice none 0 0, .int .i64 0, .slice none 0 0, .slice none 0 0] 30)
         obtain ⟨M, hM⟩ : ∃ M, z9.heap.size = M := ⟨_, rfl⟩
         have HMU := Lib.hid (show U.heap.size ≤ M by have := HBC.out.size; omega)
         rw [hM] at hmr ⊢
         generalize World.alloc z9 _ = z12 at hmr hb ⊢
         have HBC := Lib.hid (chain HBC.out hb)
         have HFA := Lib.hid (HFA.out.on hb)
         have HVA := Lib.hid (HVA.out.on hb)
         have HG3 := Lib.hid (HG3.out.on hb)
         have HMR := Lib.hid hmr
         clear hb hmr hM
         refine hK.out _ _ (mkS _ HBC.out) (fun hHeld2 => ?_)
         clear hK K hHeld
         have hHeld := hHeld2
         clear hHeld2
         try simp only [Act.put, List.setIfInBounds_toArray, List.set_cons_zero, List.set_cons_succ]
         refine wpAnyH_ready (rs := [10]) (by kernel_rfl) (by simp) (AllReadyH.cons (o := { dst := some 32, op := .call { callee := .value (.func 28), args := #[.tmp 31], argTypes := #[50] }, type := 28, pos := "ref.go:79", after := #[{ on := 9, ground := .data }, { on := 9, ground := .chain }], guard := none }) rfl (fun K hK => ?_) AllReadyH.nil)
         go_simp
         have hc := HRS.out z12 _ _ HG3.out
         unfold cell3 at hc
         refine hc.mono ?_
         clear hc
         rintro e z10 ⟨C1, C2, k1, k2, rfl, hn1, hn2, hsh1, hsh2, hb⟩
         have HBC := Lib.hid (chain HBC.out hb)
         have HFA := Lib.hid (HFA.out.on hb)
         have HVA := Lib.hid (HVA.out.on hb)
         have HMR := Lib.hid (row_on HMR.out hb)
         have HG3 := Lib.hid (HG3.out.on hb)
         have HSH1 := Lib.hid hsh1
         have HSH2 := Lib.hid hsh2
         clear hb hsh1 hsh2 hn1 hn2 HG3
         go_simp
         refine hK.out _ _ (mkS _ HBC.out) (fun hHeld2 => ?_)
         clear hK K hHeld
         have hHeld := hHeld2
         clear hHeld2
         try simp only [Act.put, List.setIfInBounds_toArray, List.set_cons_zero, List.set_cons_succ]
         refine wpAnyH_take (i := 11) (oi := { dst := some 33, op := .build 30 #[(0, .tmp 25), (1, .tmp 28), (4, .tmp 32)], type := 30, pos := "ref.go:79", after := #[{ on := 3, ground := .data }, { on := 6, ground := .data }, { on := 10, ground := .data }], guard := none }) (v := ?_) rfl (by kernel_rfl) (by kernel_rfl) (by kernel_rfl) (fun _ _ _ h => h) (Or.inl ⟨by rfl, ?_⟩) hHeld ?_
         rotate_left
         ·
          intro w hSw
          clear hSw
          go_simp
          try with_reducible rfl
         try simp only [Act.put, List.setIfInBounds_toArray, List.set_cons_zero, List.set_cons_succ]
         refine wpAnyH_ready (rs := [13]) (by kernel_rfl) (by simp) (AllReadyH.cons (o := o13d) rfl (fun K hK => ?_) AllReadyH.nil)
         try rw [if_pos (by rfl)]
         refine wp_store_mid 30 (.tmp 7) (.tmp 33) rfl M 0 #[.string ⟨(bytO g0).toArray⟩, .int .u64 (nmR g1 2), .int .i64 0, .int .i64 0, .slice none 0 0, .int .i64 (smR (nmR s0 1) 1000), .slice C1 ((bytO s1).length / 16) k1, .slice C2 ((bytO s2).length / 16) k2] rfl rfl (there_row HMR.out 8 (show 8 ≤ 8 by decide)) (sz8 _ rfl) (one8 _ _ _ _ _ _ _ _ rfl rfl rfl rfl rfl rfl rfl rfl) ?_
         have HFIN := Lib.hid (fin8 (R := [.string ⟨(bytO g0).toArray⟩, .int .u64 (nmR g1 2), .int .i64 0, .int .i64 0, .slice none 0 0, .int .i64 (smR (nmR s0 1) 1000), .slice C1 ((bytO s1).length / 16) k1, .slice C2 ((bytO s2).length / 16) k2]) HMR.out (by decide) (row_setCells HMR.out (cs := _) rfl) HSH1.out HSH2.out HBC.out HMU.out)
         refine hK.out _ _ (mkS _ HFIN.out.2.2.2.2) (fun hHeld2 => ?_)
         clear hK K hHeld hHeld2
         try simp only [Act.put, List.setIfInBounds_toArray, List.set_cons_zero, List.set_cons_succ]
         refine wpAnyH_done (by kernel_rfl) ?_ _
         go_wp2_with fail
         go_meet
         exact ⟨M, C1, C2, k1, k2, rfl, HFIN.out⟩
       ·
        go_simp
        have hmr := heap_alloc_new z6 (.cells #[.string ⟨#[]⟩, .int .u64 0, .int .i64 0, .int .i64 0, .slice none 0 0, .int .i64 0, .slice none 0 0, .slice none 0 0] 30)
        have hb := below_new z6 (.cells #[.string ⟨#[]⟩, .int .u64 0, .int .i64 0, .int .i64 0, .slice none 0 0, .int .i64 0, .slice none 0 0, .slice none 0 0] 30)
        obtain ⟨M, hM⟩ : ∃ M, z6.heap.size = M := ⟨_, rfl⟩
        have HMU := Lib.hid (show U.heap.size ≤ M by have := HBC.out.size; omega)
        rw [hM] at hmr ⊢
        generalize World.alloc z6 _ = z12 at hmr hb ⊢
        have HBC := Lib.hid (chain HBC.out hb)
        have HFA := Lib.hid (HFA.out.on hb)
        have HVA := Lib.hid (HVA.out.on hb)
        have HMR := Lib.hid hmr
        clear hb hmr hM
        refine hK.out _ _ (mkS _ HBC.out) (fun hHeld2 => ?_)
        clear hK K hHeld
        have hHeld := hHeld2
        clear hHeld2
        try simp only [Act.put, List.setIfInBounds_toArray, List.set_cons_zero, List.set_cons_succ]
        refine wpAnyH_ready (rs := [9]) (by kernel_rfl) (by simp) (AllReadyH.cons (o := { dst := some 31, op := .call { callee := .value (.func 26), args := #[.tmp 30, .const (.int .i64 1)], argTypes := #[48, 3] }, type := 50, pos := "ref.go:79", after := #[{ on := 8, ground := .data }, { on := 6, ground := .chain }], guard := none }) rfl (fun K hK => ?_) AllReadyH.nil)
        go_simp
        refine (HAV1.out z12 _ _ HVA.out).mono ?_
        rintro e z9 ⟨x3, y3, rfl, hat, hb⟩
        have HBC := Lib.hid (chain HBC.out hb)
        have HFA := Lib.hid (HFA.out.on hb)
        have HVA := Lib.hid (HVA.out.on hb)
        have HMR := Lib.hid (row_on HMR.out hb)
        have HG3 := Lib.hid hat
        clear hat hb
        obtain ⟨A3, m3, c3, B3, n3, d3, rfl, rfl⟩ := HG3.out.slices
        unfold cell3
        go_simp
        refine hK.out _ _ (mkS _ HBC.out) (fun hHeld2 => ?_)
        clear hK K hHeld
        have hHeld := hHeld2
        clear hHeld2
        try simp only [Act.put, List.setIfInBounds_toArray, List.set_cons_zero, List.set_cons_succ]
        refine wpAnyH_ready (rs := [10]) (by kernel_rfl) (by simp) (AllReadyH.cons (o := { dst := some 32, op := .call { callee := .value (.func 28), args := #[.tmp 31], argTypes := #[50] }, type := 28, pos := "ref.go:79", after := #[{ on := 9, ground := .data }, { on := 9, ground := .chain }], guard := none }) rfl (fun K hK => ?_) AllReadyH.nil)
        go_simp
        have hc := HRS.out z9 _ _ HG3.out
        unfold cell3 at hc
        refine hc.mono ?_
        clear hc
        rintro e z10 ⟨C1, C2, k1, k2, rfl, hn1, hn2, hsh1, hsh2, hb⟩
        have HBC := Lib.hid (chain HBC.out hb)
        have HFA := Lib.hid (HFA.out.on hb)
        have HVA := Lib.hid (HVA.out.on hb)
        have HMR := Lib.hid (row_on HMR.out hb)
        have HG3 := Lib.hid (HG3.out.on hb)
        have HSH1 := Lib.hid hsh1
        have HSH2 := Lib.hid hsh2
        clear hb hsh1 hsh2 hn1 hn2 HG3
        go_simp
        refine hK.out _ _ (mkS _ HBC.out) (fun hHeld2 => ?_)
        clear hK K hHeld
        have hHeld := hHeld2
        clear hHeld2
        try simp only [Act.put, List.setIfInBounds_toArray, List.set_cons_zero, List.set_cons_succ]
        refine wpAnyH_take (i := 11) (oi := { dst := some 33, op := .build 30 #[(0, .tmp 25), (1, .tmp 28), (4, .tmp 32)], type := 30, pos := "ref.go:79", after := #[{ on := 3, ground := .data }, { on := 6, ground := .data }, { on := 10, ground := .data }], guard := none }) (v := ?_) rfl (by kernel_rfl) (by kernel_rfl) (by kernel_rfl) (fun _ _ _ h => h) (Or.inl ⟨by rfl, ?_⟩) hHeld ?_
        rotate_left
        ·
         intro w hSw
         clear hSw
         go_simp
         try with_reducible rfl
        try simp only [Act.put, List.setIfInBounds_toArray, List.set_cons_zero, List.set_cons_succ]
        refine wpAnyH_ready (rs := [13]) (by kernel_rfl) (by simp) (AllReadyH.cons (o := o13d) rfl (fun K hK => ?_) AllReadyH.nil)
        try rw [if_pos (by rfl)]
        refine wp_store_mid 30 (.tmp 7) (.tmp 33) rfl M 0 #[.string ⟨(bytO g0).toArray⟩, .int .u64 (nmR g1 2), .int .i64 0, .int .i64 0, .slice none 0 0, .int .i64 (smR (nmR s0 1) 1000), .slice C1 ((bytO s1).length / 16) k1, .slice C2 ((bytO s2).length / 16) k2] rfl rfl (there_row HMR.out 8 (show 8 ≤ 8 by decide)) (sz8 _ rfl) (one8 _ _ _ _ _ _ _ _ rfl rfl rfl rfl rfl rfl rfl rfl) ?_
        have HFIN := Lib.hid (fin8 (R := [.string ⟨(bytO g0).toArray⟩, .int .u64 (nmR g1 2), .int .i64 0, .int .i64 0, .slice none 0 0, .int .i64 (smR (nmR s0 1) 1000), .slice C1 ((bytO s1).length / 16) k1, .slice C2 ((bytO s2).length / 16) k2]) HMR.out (by decide) (row_setCells HMR.out (cs := _) rfl) HSH1.out HSH2.out HBC.out HMU.out)
        refine hK.out _ _ (mkS _ HFIN.out.2.2.2.2) (fun hHeld2 => ?_)
        clear hK K hHeld hHeld2
        try simp only [Act.put, List.setIfInBounds_toArray, List.set_cons_zero, List.set_cons_succ]
        refine wpAnyH_done (by kernel_rfl) ?_ _
        go_wp2_with fail
        go_meet
        exact ⟨M, C1, C2, k1, k2, rfl, HFIN.out⟩
      ·
       go_simp
       refine (HAV1.out z6 _ _ HVA.out).mono ?_
       rintro e z9 ⟨x3, y3, rfl, hat, hb⟩
       have HBC := Lib.hid (chain HBC.out hb)
       have HFA := Lib.hid (HFA.out.on hb)
       have HVA := Lib.hid (HVA.out.on hb)
       have HSS := Lib.hid (srcAt_on8 HSS.out hb)
       have HG3 := Lib.hid hat
       clear hat hb
       obtain ⟨A3, m3, c3, B3, n3, d3, rfl, rfl⟩ := HG3.out.slices
       unfold cell3
       go_simp
       refine hK.out _ _ (mkS _ HBC.out) (fun hHeld2 => ?_)
       clear hK K hHeld
       have hHeld := hHeld2
       clear hHeld2
       try simp only [Act.put, List.setIfInBounds_toArray, List.set_cons_zero, List.set_cons_succ]
       refine wpAnyH_ready (rs := [3, 10, 12]) (by kernel_rfl) (by simp) (AllReadyH.cons (o := { dst := some 25, op := .convert 31 9 (.tmp 24), type := 9, pos := "ref.go:79", after := #[{ on := 2, ground := .data }], guard := none }) rfl (fun K hK => ?_) (AllReadyH.cons (o := { dst := some 32, op := .call { callee := .value (.func 28), args := #[.tmp 31], argTypes := #[50] }, type := 28, pos := "ref.go:79", after := #[{ on := 9, ground := .data }, { on := 9, ground := .chain }], guard := none }) rfl (fun K hK => ?_) (AllReadyH.cons (o := { dst := some 7, op := .alloc 30, type := 0, pos := "ref.go:79", after := #[], guard := none }) rfl (fun K hK => ?_) AllReadyH.nil)))
       ·
        have hcv := conv_back (bytO g0) A1 c1 z9 HCN1.out HSS.out
        go_simp
        clear hcv
        refine hK.out _ _ (mkS _ HBC.out) (fun hHeld2 => ?_)
        clear hK K hHeld
        have hHeld := hHeld2
        clear hHeld2
        try simp only [Act.put, List.setIfInBounds_toArray, List.set_cons_zero, List.set_cons_succ]
        refine wpAnyH_ready (rs := [10, 12]) (by kernel_rfl) (by simp) (AllReadyH.cons (o := { dst := some 32, op := .call { callee := .value (.func 28), args := #[.tmp 31], argTypes := #[50] }, type := 28, pos := "ref.go:79", after := #[{ on := 9, ground := .data }, { on := 9, ground := .chain }], guard := none }) rfl (fun K hK => ?_) (AllReadyH.cons (o := { dst := some 7, op := .alloc 30, type := 0, pos := "ref.go:79", after := #[], guard := none }) rfl (fun K hK => ?_) AllReadyH.nil))
        ·
         go_simp
         have hc := HRS.out z9 _ _ HG3.out
         unfold cell3 at hc
         refine hc.mono ?_
         clear hc
         rintro e z10 ⟨C1, C2, k1, k2, rfl, hn1, hn2, hsh1, hsh2, hb⟩
         have HBC := Lib.hid (chain HBC.out hb)
         have HFA := Lib.hid (HFA.out.on hb)
         have HVA := Lib.hid (HVA.out.on hb)
         have HG3 := Lib.hid (HG3.out.on hb)
         have HSH1 := Lib.hid hsh1
         have HSH2 := Lib.hid hsh2
         clear hb hsh1 hsh2 hn1 hn2 HG3
         go_simp
         refine hK.out _ _ (mkS _ HBC.out) (fun hHeld2 => ?_)
         clear hK K hHeld
         have hHeld := hHeld2
         clear hHeld2
         try simp only [Act.put, List.setIfInBounds_toArray, List.set_cons_zero, List.set_cons_succ]
         refine wpAnyH_take (i := 11) (oi := { dst := some 33, op := .build 30 #[(0, .tmp 25), (1, .tmp 28), (4, .tmp 32)], type := 30, pos := "ref.go:79", after := #[{ on := 3, ground := .data }, { on := 6, ground := .data }, { on := 10, ground := .data }], guard := none }) (v := ?_) rfl (by kernel_rfl) (by kernel_rfl) (by kernel_rfl) (fun _ _ _ h => h) (Or.inl ⟨by rfl, ?_⟩) hHeld ?_
         rotate_left
         ·
          intro w hSw
          clear hSw
          go_simp
          try with_reducible rfl
         try simp only [Act.put, List.setIfInBounds_toArray, List.set_cons_zero, List.set_cons_succ]
         refine wpAnyH_ready (rs := [12]) (by kernel_rfl) (by simp) (AllReadyH.cons (o := { dst := some 7, op := .alloc 30, type := 0, pos := "ref.go:79", after := #[], guard := none }) rfl (fun K hK => ?_) AllReadyH.nil)
         go_simp
         have hmr := heap_alloc_new z10 (.cells #[.string ⟨#[]⟩, .int .u64 0, .int .i64 0, .int .i64 0, .slice none 0 0, .int .i64 0, .slice none 0 0, .slice none 0 0] 30)
         have hb := below_new z10 (.cells #[.string ⟨#[]⟩, .int .u64 0, .int .i64 0, .int .i64 0, .slice none 0 0, .int .i64 0, .slice none 0 0, .slice none 0 0] 30)
         obtain ⟨M, hM⟩ : ∃ M, z10.heap.size = M := ⟨_, rfl⟩
         have HMU := Lib.hid (show U.heap.size ≤ M by have := HBC.out.size; omega)
         rw [hM] at hmr ⊢
         generalize World.alloc z10 _ = z12 at hmr hb ⊢
         have HBC := Lib.hid (chain HBC.out hb)
         have HFA := Lib.hid (HFA.out.on hb)
         have HVA := Lib.hid (HVA.out.on hb)
         have HSH1 := Lib.hid (HSH1.out.on hb)
         have HSH2 := Lib.hid (HSH2.out.on hb)
         have HMR := Lib.hid hmr
         clear hb hmr hM
         refine hK.out _ _ (mkS _ HBC.out) (fun hHeld2 => ?_)
         clear hK K hHeld
         have hHeld := hHeld2
         clear hHeld2
         try simp only [Act.put, List.setIfInBounds_toArray, List.set_cons_zero, List.set_cons_succ]
         refine wpAnyH_ready (rs := [13]) (by kernel_rfl) (by simp) (AllReadyH.cons (o := o13d) rfl (fun K hK => ?_) AllReadyH.nil)
         try rw [if_pos (by rfl)]
         refine wp_store_mid 30 (.tmp 7) (.tmp 33) rfl M 0 #[.string ⟨(bytO g0).toArray⟩, .int .u64 (nmR g1 2), .int .i64 0, .int .i64 0, .slice none 0 0, .int .i64 (smR (nmR s0 1) 1000), .slice C1 ((bytO s1).length / 16) k1, .slice C2 ((bytO s2).length / 16) k2] rfl rfl (there_row HMR.out 8 (show 8 ≤ 8 by decide)) (sz8 _ rfl) (one8 _ _ _ _ _ _ _ _ rfl rfl rfl rfl rfl rfl rfl rfl) ?_
         have HFIN := Lib.hid (fin8 (R := [.string ⟨(bytO g0).toArray⟩, .int .u64 (nmR g1 2), .int .i64 0, .int .i64 0, .slice none 0 0, .int .i64 (smR (nmR s0 1) 1000), .slice C1 ((bytO s1).length / 16) k1, .slice C2 ((bytO s2).length / 16) k2]) HMR.out (by decide) (row_setCells HMR.out (cs := _) rfl) HSH1.out HSH2.out HBC.out HMU.out)
         refine hK.out _ _ (mkS _ HFIN.out.2.2.2.2) (fun hHeld2 => ?_)
         clear hK K hHeld hHeld2
         try simp only [Act.put, List.setIfInBounds_toArray, List.set_cons_zero, List.set_cons_succ]
         refine wpAnyH_done (by kernel_rfl) ?_ _
         go_wp2_with fail
         go_meet
         exact ⟨M, C1, C2, k1, k2, rfl, HFIN.out⟩
        ·
         go_simp
         have hmr := heap_alloc_new z9 (.cells #[.string ⟨#[]⟩, .int .u64 0, .int .i64 0, .int .i64 0, .slice none 0 0, .int .i64 0, .slice none 0 0, .slice none 0 0] 30)
         have hb := below_new z9 (.cells #[.string ⟨#[]⟩, .int .u64 0, .int .i64 0, .int .i64 0, .slice none 0 0, .int .i64 0, .slice none 0 0, .slice none 0 0] 30)
         obtain ⟨M, hM⟩ : ∃ M, z9.heap.size = M := ⟨_, rfl⟩
         have HMU := Lib.hid (show U.heap.size ≤ M by have := HBC.out.size; omega)
         rw [hM] at hmr ⊢
         generalize World.alloc z9 _ = z12 at hmr hb ⊢
         have HBC := Lib.hid (chain HBC.out hb)
         have HFA := Lib.hid (HFA.out.on hb)
         have HVA := Lib.hid (HVA.out.on hb)
         have HG3 := Lib.hid (HG3.out.on hb)
         have HMR := Lib.hid hmr
         clear hb hmr hM
         refine hK.out _ _ (mkS _ HBC.out) (fun hHeld2 => ?_)
         clear hK K hHeld
         have hHeld := hHeld2
         clear hHeld2
         try simp only [Act.put, List.setIfInBounds_toArray, List.set_cons_zero, List.set_cons_succ]
         refine wpAnyH_ready (rs := [10]) (by kernel_rfl) (by simp) (AllReadyH.cons (o := { dst := some 32, op := .call { callee := .value (.func 28), args := #[.tmp 31], argTypes := #[50] }, type := 28, pos := "ref.go:79", after := #[{ on := 9, ground := .data }, { on := 9, ground := .chain }], guard := none }) rfl (fun K hK => ?_) AllReadyH.nil)
         go_simp
         have hc := HRS.out z12 _ _ HG3.out
         unfold cell3 at hc
         refine hc.mono ?_
         clear hc
         rintro e z10 ⟨C1, C2, k1, k2, rfl, hn1, hn2, hsh1, hsh2, hb⟩
         have HBC := Lib.hid (chain HBC.out hb)
         have HFA := Lib.hid (HFA.out.on hb)
         have HVA := Lib.hid (HVA.out.on hb)
         have HMR := Lib.hid (row_on HMR.out hb)
         have HG3 := Lib.hid (HG3.out.on hb)
         have HSH1 := Lib.hid hsh1
         have HSH2 := Lib.hid hsh2
         clear hb hsh1 hsh2 hn1 hn2 HG3
         go_simp
         refine hK.out _ _ (mkS _ HBC.out) (fun hHeld2 => ?_)
         clear hK K hHeld
         have hHeld := hHeld2
         clear hHeld2
         try simp only [Act.put, List.setIfInBounds_toArray, List.set_cons_zero, List.set_cons_succ]
         refine wpAnyH_take (i := 11) (oi := { dst := some 33, op := .build 30 #[(0, .tmp 25), (1, .tmp 28), (4, .tmp 32)], type := 30, pos := "ref.go:79", after := #[{ on := 3, ground := .data }, { on := 6, ground := .data }, { on := 10, ground := .data }], guard := none }) (v := ?_) rfl (by kernel_rfl) (by kernel_rfl) (by kernel_rfl) (fun _ _ _ h => h) (Or.inl ⟨by rfl, ?_⟩) hHeld ?_
         rotate_left
         ·
          intro w hSw
          clear hSw
          go_simp
          try with_reducible rfl
         try simp only [Act.put, List.setIfInBounds_toArray, List.set_cons_zero, List.set_cons_succ]
         refine wpAnyH_ready (rs := [13]) (by kernel_rfl) (by simp) (AllReadyH.cons (o := o13d) rfl (fun K hK => ?_) AllReadyH.nil)
         try rw [if_pos (by rfl)]
         refine wp_store_mid 30 (.tmp 7) (.tmp 33) rfl M 0 #[.string ⟨(bytO g0).toArray⟩, .int .u64 (nmR g1 2), .int .i64 0, .int .i64 0, .slice none 0 0, .int .i64 (smR (nmR s0 1) 1000), .slice C1 ((bytO s1).length / 16) k1, .slice C2 ((bytO s2).length / 16) k2] rfl rfl (there_row HMR.out 8 (show 8 ≤ 8 by decide)) (sz8 _ rfl) (one8 _ _ _ _ _ _ _ _ rfl rfl rfl rfl rfl rfl rfl rfl) ?_
         have HFIN := Lib.hid (fin8 (R := [.string ⟨(bytO g0).toArray⟩, .int .u64 (nmR g1 2), .int .i64 0, .int .i64 0, .slice none 0 0, .int .i64 (smR (nmR s0 1) 1000), .slice C1 ((bytO s1).length / 16) k1, .slice C2 ((bytO s2).length / 16) k2]) HMR.out (by decide) (row_setCells HMR.out (cs := _) rfl) HSH1.out HSH2.out HBC.out HMU.out)
         refine hK.out _ _ (mkS _ HFIN.out.2.2.2.2) (fun hHeld2 => ?_)
         clear hK K hHeld hHeld2
         try simp only [Act.put, List.setIfInBounds_toArray, List.set_cons_zero, List.set_cons_succ]
         refine wpAnyH_done (by kernel_rfl) ?_ _
         go_wp2_with fail
         go_meet
         exact ⟨M, C1, C2, k1, k2, rfl, HFIN.out⟩
       ·
        go_simp
        have hc := HRS.out z9 _ _ HG3.out
        unfold cell3 at hc
        refine hc.mono ?_
        clear hc
        rintro e z10 ⟨C1, C2, k1, k2, rfl, hn1, hn2, hsh1, hsh2, hb⟩
        have HBC := Lib.hid (chain HBC.out hb)
        have HFA := Lib.hid (HFA.out.on hb)
        have HVA := Lib.hid (HVA.out.on hb)
        have HSS := Lib.hid (srcAt_on8 HSS.out hb)
        have HG3 := Lib.hid (HG3.out.on hb)
        have HSH1 := Lib.hid hsh1
        have HSH2 := Lib.hid hsh2
        clear hb hsh1 hsh2 hn1 hn2 HG3
        go_simp
        refine hK.out _ _ (mkS _ HBC.out) (fun hHeld2 => ?_)
        clear hK K hHeld
        have hHeld := hHeld2
        clear hHeld2
        try simp only [Act.put, List.setIfInBounds_toArray, List.set_cons_zero, List.set_cons_succ]
        refine wpAnyH_ready (rs := [3, 12]) (by kernel_rfl) (by simp) (AllReadyH.cons (o := { dst := some 25, op := .convert 31 9 (.tmp 24), type := 9, pos := "ref.go:79", after := #[{ on := 2, ground := .data }], guard := none }) rfl (fun K hK => ?_) (AllReadyH.cons (o := { dst := some 7, op := .alloc 30, type := 0, pos := "ref.go:79", after := #[], guard := none }) rfl (fun K hK => ?_) AllReadyH.nil))
        ·
         have hcv := conv_back (bytO g0) A1 c1 z10 HCN1.out HSS.out
         go_simp
         clear hcv
         refine hK.out _ _ (mkS _ HBC.out) (fun hHeld2 => ?_)
         clear hK K hHeld
         have hHeld := hHeld2
         clear hHeld2
         try simp only [Act.put, List.setIfInBounds_toArray, List.set_cons_zero, List.set_cons_succ]
         refine wpAnyH_take (i := 11) (oi := { dst := some 33, op := .build 30 #[(0, .tmp 25), (1, .tmp 28), (4, .tmp 32)], type := 30, pos := "ref.go:79", after := #[{ on := 3, ground := .data }, { on := 6, ground := .data }, { on := 10, ground := .data }], guard := none }) (v := ?_) rfl (by kernel_rfl) (by kernel_rfl) (by kernel_rfl) (fun _ _ _ h => h) (Or.inl ⟨by rfl, ?_⟩) hHeld ?_
         rotate_left
         ·
          intro w hSw
          clear hSw
          go_simp
          try with_reducible rfl
         try simp only [Act.put, List.setIfInBounds_toArray, List.set_cons_zero, List.set_cons_succ]
         refine wpAnyH_ready (rs := [12]) (by kernel_rfl) (by simp) (AllReadyH.cons (o := { dst := some 7, op := .alloc 30, type := 0, pos := "ref.go:79", after := #[], guard := none }) rfl (fun K hK => ?_) AllReadyH.nil)
         go_simp
         have hmr := heap_alloc_new z10 (.cells #[.string ⟨#[]⟩, .int .u64 0, .int .i64 0, .int .i64 0, .slice none 0 0, .int .i64 0, .slice none 0 0, .slice none 0 0] 30)
         have hb := below_new z10 (.cells #[.string ⟨#[]⟩, .int .u64 0, .int .i64 0, .int .i64 0, .slice none 0 0, .int .i64 0, .slice none 0 0, .slice none 0 0] 30)
         obtain ⟨M, hM⟩ : ∃ M, z10.heap.size = M := ⟨_, rfl⟩
         have HMU := Lib.hid (show U.heap.size ≤ M by have := HBC.out.size; omega)
         rw [hM] at hmr ⊢
         generalize World.alloc z10 _ = z12 at hmr hb ⊢
         have HBC := Lib.hid (chain HBC.out hb)
         have HFA := Lib.hid (HFA.out.on hb)
         have HVA := Lib.hid (HVA.out.on hb)
         have HSH1 := Lib.hid (HSH1.out.on hb)
         have HSH2 := Lib.hid (HSH2.out.on hb)
         have HMR := Lib.hid hmr
         clear hb hmr hM
         refine hK.out _ _ (mkS _ HBC.out) (fun hHeld2 => ?_)
         clear hK K hHeld
         have hHeld := hHeld2
         clear hHeld2
         try simp only [Act.put, List.setIfInBounds_toArray, List.set_cons_zero, List.set_cons_succ]
         refine wpAnyH_ready (rs := [13]) (by kernel_rfl) (by simp) (AllReadyH.cons (o := o13d) rfl (fun K hK => ?_) AllReadyH.nil)
         try rw [if_pos (by rfl)]
         refine wp_store_mid 30 (.tmp 7) (.tmp 33) rfl M 0 #[.string ⟨(bytO g0).toArray⟩, .int .u64 (nmR g1 2), .int .i64 0, .int .i64 0, .slice none 0 0, .int .i64 (smR (nmR s0 1) 1000), .slice C1 ((bytO s1).length / 16) k1, .slice C2 ((bytO s2).length / 16) k2] rfl rfl (there_row HMR.out 8 (show 8 ≤ 8 by decide)) (sz8 _ rfl) (one8 _ _ _ _ _ _ _ _ rfl rfl rfl rfl rfl rfl rfl rfl) ?_
         have HFIN := Lib.hid (fin8 (R := [.string ⟨(bytO g0).toArray⟩, .int .u64 (nmR g1 2), .int .i64 0, .int .i64 0, .slice none 0 0, .int .i64 (smR (nmR s0 1) 1000), .slice C1 ((bytO s1).length / 16) k1, .slice C2 ((bytO s2).length / 16) k2]) HMR.out (by decide) (row_setCells HMR.out (cs := _) rfl) HSH1.out HSH2.out HBC.out HMU.out)
         refine hK.out _ _ (mkS _ HFIN.out.2.2.2.2) (fun hHeld2 => ?_)
         clear hK K hHeld hHeld2
         try simp only [Act.put, List.setIfInBounds_toArray, List.set_cons_zero, List.set_cons_succ]
         refine wpAnyH_done (by kernel_rfl) ?_ _
         go_wp2_with fail
         go_meet
         exact ⟨M, C1, C2, k1, k2, rfl, HFIN.out⟩
        ·
         go_simp
         have hmr := heap_alloc_new z10 (.cells #[.string ⟨#[]⟩, .int .u64 0, .int .i64 0, .int .i64 0, .slice none 0 0, .int .i64 0, .slice none 0 0, .slice none 0 0] 30)
         have hb := below_new z10 (.cells #[.string ⟨#[]⟩, .int .u64 0, .int .i64 0, .int .i64 0, .slice none 0 0, .int .i64 0, .slice none 0 0, .slice none 0 0] 30)
         obtain ⟨M, hM⟩ : ∃ M, z10.heap.size = M := ⟨_, rfl⟩
         have HMU := Lib.hid (show U.heap.size ≤ M by have := HBC.out.size; omega)
         rw [hM] at hmr ⊢
         generalize World.alloc z10 _ = z12 at hmr hb ⊢
         have HBC := Lib.hid (chain HBC.out hb)
         have HFA := Lib.hid (HFA.out.on hb)
         have HVA := Lib.hid (HVA.out.on hb)
         have HSS := Lib.hid (srcAt_on8 HSS.out hb)
         have HSH1 := Lib.hid (HSH1.out.on hb)
         have HSH2 := Lib.hid (HSH2.out.on hb)
         have HMR := Lib.hid hmr
         clear hb hmr hM
         refine hK.out _ _ (mkS _ HBC.out) (fun hHeld2 => ?_)
         clear hK K hHeld
         have hHeld := hHeld2
         clear hHeld2
         try simp only [Act.put, List.setIfInBounds_toArray, List.set_cons_zero, List.set_cons_succ]
         refine wpAnyH_ready (rs := [3]) (by kernel_rfl) (by simp) (AllReadyH.cons (o := { dst := some 25, op := .convert 31 9 (.tmp 24), type := 9, pos := "ref.go:79", after := #[{ on := 2, ground := .data }], guard := none }) rfl (fun K hK => ?_) AllReadyH.nil)
         have hcv := conv_back (bytO g0) A1 c1 z12 HCN1.out HSS.out
         go_simp
         clear hcv
         refine hK.out _ _ (mkS _ HBC.out) (fun hHeld2 => ?_)
         clear hK K hHeld
         have hHeld := hHeld2
         clear hHeld2
         try simp only [Act.put, List.setIfInBounds_toArray, List.set_cons_zero, List.set_cons_succ]
         refine wpAnyH_take (i := 11) (oi := { dst := some 33, op := .build 30 #[(0, .tmp 25), (1, .tmp 28), (4, .tmp 32)], type := 30, pos := "ref.go:79", after := #[{ on := 3, ground := .data }, { on := 6, ground := .data }, { on := 10, ground := .data }], guard := none }) (v := ?_) rfl (by kernel_rfl) (by kernel_rfl) (by kernel_rfl) (fun _ _ _ h => h) (Or.inl ⟨by rfl, ?_⟩) hHeld ?_
         rotate_left
         ·
          intro w hSw
          clear hSw
          go_simp
          try with_reducible rfl
         try simp only [Act.put, List.setIfInBounds_toArray, List.set_cons_zero, List.set_cons_succ]
         refine wpAnyH_ready (rs := [13]) (by kernel_rfl) (by simp) (AllReadyH.cons (o := o13d) rfl (fun K hK => ?_) AllReadyH.nil)
         try rw [if_pos (by rfl)]
         refine wp_store_mid 30 (.tmp 7) (.tmp 33) rfl M 0 #[.string ⟨(bytO g0).toArray⟩, .int .u64 (nmR g1 2), .int .i64 0, .int .i64 0, .slice none 0 0, .int .i64 (smR (nmR s0 1) 1000), .slice C1 ((bytO s1).length / 16) k1, .slice C2 ((bytO s2).length / 16) k2] rfl rfl (there_row HMR.out 8 (show 8 ≤ 8 by decide)) (sz8 _ rfl) (one8 _ _ _ _ _ _ _ _ rfl rfl rfl rfl rfl rfl rfl rfl) ?_
         have HFIN := Lib.hid (fin8 (R := [.string ⟨(bytO g0).toArray⟩, .int .u64 (nmR g1 2), .int .i64 0, .int .i64 0, .slice none 0 0, .int .i64 (smR (nmR s0 1) 1000), .slice C1 ((bytO s1).length / 16) k1, .slice C2 ((bytO s2).length / 16) k2]) HMR.out (by decide) (row_setCells HMR.out (cs := _) rfl) HSH1.out HSH2.out HBC.out HMU.out)
         refine hK.out _ _ (mkS _ HFIN.out.2.2.2.2) (fun hHeld2 => ?_)
         clear hK K hHeld hHeld2
         try simp only [Act.put, List.setIfInBounds_toArray, List.set_cons_zero, List.set_cons_succ]
         refine wpAnyH_done (by kernel_rfl) ?_ _
         go_wp2_with fail
         go_meet
         exact ⟨M, C1, C2, k1, k2, rfl, HFIN.out⟩
       ·
        go_simp
        have hmr := heap_alloc_new z9 (.cells #[.string ⟨#[]⟩, .int .u64 0, .int .i64 0, .int .i64 0, .slice none 0 0, .int .i64 0, .slice none 0 0, .slice none 0 0] 30)
        have hb := below_new z9 (.cells #[.string ⟨#[]⟩, .int .u64 0, .int .i64 0, .int .i64 0, .slice none 0 0, .int .i64 0, .slice none 0 0, .slice none 0 0] 30)
        obtain ⟨M, hM⟩ : ∃ M, z9.heap.size = M := ⟨_, rfl⟩
        have HMU := Lib.hid (show U.heap.size ≤ M by have := HBC.out.size; omega)
        rw [hM] at hmr ⊢
        generalize World.alloc z9 _ = z12 at hmr hb ⊢
        have HBC := Lib.hid (chain HBC.out hb)
        have HFA := Lib.hid (HFA.out.on hb)
        have HVA := Lib.hid (HVA.out.on hb)
        have HSS := Lib.hid (srcAt_on8 HSS.out hb)
        have HG3 := Lib.hid (HG3.out.on hb)
        have HMR := Lib.hid hmr
        clear hb hmr hM
        refine hK.out _ _ (mkS _ HBC.out) (fun hHeld2 => ?_)
        clear hK K hHeld
        have hHeld := hHeld2
        clear hHeld2
        try simp only [Act.put, List.setIfInBounds_toArray, List.set_cons_zero, List.set_cons_succ]
        refine wpAnyH_ready (rs := [3, 10]) (by kernel_rfl) (by simp) (AllReadyH.cons (o := { dst := some 25, op := .convert 31 9 (.tmp 24), type := 9, pos := "ref.go:79", after := #[{ on := 2, ground := .data }], guard := none }) rfl (fun K hK => ?_) (AllReadyH.cons (o := { dst := some 32, op := .call { callee := .value (.func 28), args := #[.tmp 31], argTypes := #[50] }, type := 28, pos := "ref.go:79", after := #[{ on := 9, ground := .data }, { on := 9, ground := .chain }], guard := none }) rfl (fun K hK => ?_) AllReadyH.nil))
        ·
         have hcv := conv_back (bytO g0) A1 c1 z12 HCN1.out HSS.out
         go_simp
         clear hcv
         refine hK.out _ _ (mkS _ HBC.out) (fun hHeld2 => ?_)
         clear hK K hHeld
         have hHeld := hHeld2
         clear hHeld2
         try simp only [Act.put, List.setIfInBounds_toArray, List.set_cons_zero, List.set_cons_succ]
         refine wpAnyH_ready (rs := [10]) (by kernel_rfl) (by simp) (AllReadyH.cons (o := { dst := some 32, op := .call { callee := .value (.func 28), args := #[.tmp 31], argTypes := #[50] }, type := 28, pos := "ref.go:79", after := #[{ on := 9, ground := .data }, { on := 9, ground := .chain }], guard := none }) rfl (fun K hK => ?_) AllReadyH.nil)
         go_simp
         have hc := HRS.out z12 _ _ HG3.out
         unfold cell3 at hc
         refine hc.mono ?_
         clear hc
         rintro e z10 ⟨C1, C2, k1, k2, rfl, hn1, hn2, hsh1, hsh2, hb⟩
         have HBC := Lib.hid (chain HBC.out hb)
         have HFA := Lib.hid (HFA.out.on hb)
         have HVA := Lib.hid (HVA.out.on hb)
         have HMR := Lib.hid (row_on HMR.out hb)
         have HG3 := Lib.hid (HG3.out.on hb)
         have HSH1 := Lib.hid hsh1
         have HSH2 := Lib.hid hsh2
         clear hb hsh1 hsh2 hn1 hn2 HG3
         go_simp
         refine hK.out _ _ (mkS _ HBC.out) (fun hHeld2 => ?_)
         clear hK K hHeld
         have hHeld := hHeld2
         clear hHeld2
         try simp only [Act.put, List.setIfInBounds_toArray, List.set_cons_zero, List.set_cons_succ]
         refine wpAnyH_take (i := 11) (oi := { dst := some 33, op := .build 30 #[(0, .tmp 25), (1, .tmp 28), (4, .tmp 32)], type := 30, pos := "ref.go:79", after := #[{ on := 3, ground := .data }, { on := 6, ground := .data }, { on := 10, ground := .data }], guard := none }) (v := ?_) rfl (by kernel_rfl) (by kernel_rfl) (by kernel_rfl) (fun _ _ _ h => h) (Or.inl ⟨by rfl, ?_⟩) hHeld ?_
         rotate_left
         ·
          intro w hSw
          clear hSw
          go_simp
          try with_reducible rfl
         try simp only [Act.put, List.setIfInBounds_toArray, List.set_cons_zero, List.set_cons_succ]
         refine wpAnyH_ready (rs := [13]) (by kernel_rfl) (by simp) (AllReadyH.cons (o := o13d) rfl (fun K hK => ?_) AllReadyH.nil)
         try rw [if_pos (by rfl)]
         refine wp_store_mid 30 (.tmp 7) (.tmp 33) rfl M 0 #[.string ⟨(bytO g0).toArray⟩, .int .u64 (nmR g1 2), .int .i64 0, .int .i64 0, .slice none 0 0, .int .i64 (smR (nmR s0 1) 1000), .slice C1 ((bytO s1).length / 16) k1, .slice C2 ((bytO s2).length / 16) k2] rfl rfl (there_row HMR.out 8 (show 8 ≤ 8 by decide)) (sz8 _ rfl) (one8 _ _ _ _ _ _ _ _ rfl rfl rfl rfl rfl rfl rfl rfl) ?_
         have HFIN := Lib.hid (fin8 (R := [.string ⟨(bytO g0).toArray⟩, .int .u64 (nmR g1 2), .int .i64 0, .int .i64 0, .slice none 0 0, .int .i64 (smR (nmR s0 1) 1000), .slice C1 ((bytO s1).length / 16) k1, .slice C2 ((bytO s2).length / 16) k2]) HMR.out (by decide) (row_setCells HMR.out (cs := _) rfl) HSH1.out HSH2.out HBC.out HMU.out)
         refine hK.out _ _ (mkS _ HFIN.out.2.2.2.2) (fun hHeld2 => ?_)
         clear hK K hHeld hHeld2
         try simp only [Act.put, List.setIfInBounds_toArray, List.set_cons_zero, List.set_cons_succ]
         refine wpAnyH_done (by kernel_rfl) ?_ _
         go_wp2_with fail
         go_meet
         exact ⟨M, C1, C2, k1, k2, rfl, HFIN.out⟩
        ·
         go_simp
         have hc := HRS.out z12 _ _ HG3.out
         unfold cell3 at hc
         refine hc.mono ?_
         clear hc
         rintro e z10 ⟨C1, C2, k1, k2, rfl, hn1, hn2, hsh1, hsh2, hb⟩
         have HBC := Lib.hid (chain HBC.out hb)
         have HFA := Lib.hid (HFA.out.on hb)
         have HVA := Lib.hid (HVA.out.on hb)
         have HSS := Lib.hid (srcAt_on8 HSS.out hb)
         have HMR := Lib.hid (row_on HMR.out hb)
         have HG3 := Lib.hid (HG3.out.on hb)
         have HSH1 := Lib.hid hsh1
         have HSH2 := Lib.hid hsh2
         clear hb hsh1 hsh2 hn1 hn2 HG3
         go_simp
         refine hK.out _ _ (mkS _ HBC.out) (fun hHeld2 => ?_)
         clear hK K hHeld
         have hHeld := hHeld2
         clear hHeld2
         try simp only [Act.put, List.setIfInBounds_toArray, List.set_cons_zero, List.set_cons_succ]
         refine wpAnyH_ready (rs := [3]) (by kernel_rfl) (by simp) (AllReadyH.cons (o := { dst := some 25, op := .convert 31 9 (.tmp 24), type := 9, pos := "ref.go:79", after := #[{ on := 2, ground := .data }], guard := none }) rfl (fun K hK => ?_) AllReadyH.nil)
         have hcv := conv_back (bytO g0) A1 c1 z10 HCN1.out HSS.out
         go_simp
         clear hcv
         refine hK.out _ _ (mkS _ HBC.out) (fun hHeld2 => ?_)
         clear hK K hHeld
         have hHeld := hHeld2
         clear hHeld2
         try simp only [Act.put, List.setIfInBounds_toArray, List.set_cons_zero, List.set_cons_succ]
         refine wpAnyH_take (i := 11) (oi := { dst := some 33, op := .build 30 #[(0, .tmp 25), (1, .tmp 28), (4, .tmp 32)], type := 30, pos := "ref.go:79", after := #[{ on := 3, ground := .data }, { on := 6, ground := .data }, { on := 10, ground := .data }], guard := none }) (v := ?_) rfl (by kernel_rfl) (by kernel_rfl) (by kernel_rfl) (fun _ _ _ h => h) (Or.inl ⟨by rfl, ?_⟩) hHeld ?_
         rotate_left
         ·
          intro w hSw
          clear hSw
          go_simp
          try with_reducible rfl
         try simp only [Act.put, List.setIfInBounds_toArray, List.set_cons_zero, List.set_cons_succ]
         refine wpAnyH_ready (rs := [13]) (by kernel_rfl) (by simp) (AllReadyH.cons (o := o13d) rfl (fun K hK => ?_) AllReadyH.nil)
         try rw [if_pos (by rfl)]
         refine wp_store_mid 30 (.tmp 7) (.tmp 33) rfl M 0 #[.string ⟨(bytO g0).toArray⟩, .int .u64 (nmR g1 2), .int .i64 0, .int .i64 0, .slice none 0 0, .int .i64 (smR (nmR s0 1) 1000), .slice C1 ((bytO s1).length / 16) k1, .slice C2 ((bytO s2).length / 16) k2] rfl rfl (there_row HMR.out 8 (show 8 ≤ 8 by decide)) (sz8 _ rfl) (one8 _ _ _ _ _ _ _ _ rfl rfl rfl rfl rfl rfl rfl rfl) ?_
         have HFIN := Lib.hid (fin8 (R := [.string ⟨(bytO g0).toArray⟩, .int .u64 (nmR g1 2), .int .i64 0, .int .i64 0, .slice none 0 0, .int .i64 (smR (nmR s0 1) 1000), .slice C1 ((bytO s1).length / 16) k1, .slice C2 ((bytO s2).length / 16) k2]) HMR.out (by decide) (row_setCells HMR.out (cs := _) rfl) HSH1.out HSH2.out HBC.out HMU.out)
         refine hK.out _ _ (mkS _ HFIN.out.2.2.2.2) (fun hHeld2 => ?_)
         clear hK K hHeld hHeld2
         try simp only [Act.put, List.setIfInBounds_toArray, List.set_cons_zero, List.set_cons_succ]
         refine wpAnyH_done (by kernel_rfl) ?_ _
         go_wp2_with fail
         go_meet
         exact ⟨M, C1, C2, k1, k2, rfl, HFIN.out⟩
      ·
       go_simp
       have hmr := heap_alloc_new z6 (.cells #[.string ⟨#[]⟩, .int .u64 0, .int .i64 0, .int .i64 0, .slice none 0 0, .int .i64 0, .slice none 0 0, .slice none 0 0] 30)
       have hb := below_new z6 (.cells #[.string ⟨#[]⟩, .int .u64 0, .int .i64 0, .int .i64 0, .slice none 0 0, .int .i64 0, .slice none 0 0, .slice none 0 0] 30)
       obtain ⟨M, hM⟩ : ∃ M, z6.heap.size = M := ⟨_, rfl⟩
       have HMU := Lib.hid (show U.heap.size ≤ M by have := HBC.out.size; omega)
       rw [hM] at hmr ⊢
       generalize World.alloc z6 _ = z12 at hmr hb ⊢
       have HBC := Lib.hid (chain HBC.out hb)
       have HFA := Lib.hid (HFA.out.on hb)
       have HVA := Lib.hid (HVA.out.on hb)
       have HSS := Lib.hid (srcAt_on8 HSS.out hb)
       have HMR := Lib.hid hmr
       clear hb hmr hM
       refine hK.out _ _ (mkS _ HBC.out) (fun hHeld2 => ?_)
       clear hK K hHeld
       have hHeld := hHeld2
       clear hHeld2
       try simp only [Act.put, List.setIfInBounds_toArray, List.set_cons_zero, List.set_cons_succ]
       refine wpAnyH_ready (rs := [3, 9]) (by kernel_rfl) (by simp) (AllReadyH.cons (o := { dst := some 25, op := .convert 31 9 (.tmp 24), type := 9, pos := "ref.go:79", after := #[{ on := 2, ground := .data }], guard := none }) rfl (fun K hK => ?_) (AllReadyH.cons (o := { dst := some 31, op := .call { callee := .value (.func 26), args := #[.tmp 30, .const (.int .i64 1)], argTypes := #[48, 3] }, type := 50, pos := "ref.go:79", after := #[{ on := 8, ground := .data }, { on := 6, ground := .chain }], guard := none }) rfl (fun K hK => ?_) AllReadyH.nil))
       ·
        have hcv := conv_back (bytO g0) A1 c1 z12 HCN1.out HSS.out
        go_simp
        clear hcv
        refine hK.out _ _ (mkS _ HBC.out) (fun hHeld2 => ?_)
        clear hK K hHeld
        have hHeld := hHeld2
        clear hHeld2
        try simp only [Act.put, List.setIfInBounds_toArray, List.set_cons_zero, List.set_cons_succ]
        refine wpAnyH_ready (rs := [9]) (by kernel_rfl) (by simp) (AllReadyH.cons (o := { dst := some 31, op := .call { callee := .value (.func 26), args := #[.tmp 30, .const (.int .i64 1)], argTypes := #[48, 3] }, type := 50, pos := "ref.go:79", after := #[{ on := 8, ground := .data }, { on := 6, ground := .chain }], guard := none }) rfl (fun K hK => ?_) AllReadyH.nil)
        go_simp
        refine (HAV1.out z12 _ _ HVA.out).mono ?_
        rintro e z9 ⟨x3, y3, rfl, hat, hb⟩
        have HBC := Lib.hid (chain HBC.out hb)
        have HFA := Lib.hid (HFA.out.on hb)
        have HVA := Lib.hid (HVA.out.on hb)
        have HMR := Lib.hid (row_on HMR.out hb)
        have HG3 := Lib.hid hat
        clear hat hb
        obtain ⟨A3, m3, c3, B3, n3, d3, rfl, rfl⟩ := HG3.out.slices
        unfold cell3
        go_simp
        refine hK.out _ _ (mkS _ HBC.out) (fun hHeld2 => ?_)
        clear hK K hHeld
        have hHeld := hHeld2
        clear hHeld2
        try simp only [Act.put, List.setIfInBounds_toArray, List.set_cons_zero, List.set_cons_succ]
        refine wpAnyH_ready (rs := [10]) (by kernel_rfl) (by simp) (AllReadyH.cons (o := { dst := some 32, op := .call { callee := .value (.func 28), args := #[.tmp 31], argTypes := #[50] }, type := 28, pos := "ref.go:79", after := #[{ on := 9, ground := .data }, { on := 9, ground := .chain }], guard := none }) rfl (fun K hK => ?_) AllReadyH.nil)
        go_simp
        have hc := HRS.out z9 _ _ HG3.out
        unfold cell3 at hc
        refine hc.mono ?_
        clear hc
        rintro e z10 ⟨C1, C2, k1, k2, rfl, hn1, hn2, hsh1, hsh2, hb⟩
        have HBC := Lib.hid (chain HBC.out hb)
        have HFA := Lib.hid (HFA.out.on hb)
        have HVA := Lib.hid (HVA.out.on hb)
        have HMR := Lib.hid (row_on HMR.out hb)
        have HG3 := Lib.hid (HG3.out.on hb)
        have HSH1 := Lib.hid hsh1
        have HSH2 := Lib.hid hsh2
        clear hb hsh1 hsh2 hn1 hn2 HG3
        go_simp
        refine hK.out _ _ (mkS _ HBC.out) (fun hHeld2 => ?_)
        clear hK K hHeld
        have hHeld := hHeld2
        clear hHeld2
        try simp only [Act.put, List.setIfInBounds_toArray, List.set_cons_zero, List.set_cons_succ]
        refine wpAnyH_take (i := 11) (oi := { dst := some 33, op := .build 30 #[(0, .tmp 25), (1, .tmp 28), (4, .tmp 32)], type := 30, pos := "ref.go:79", after := #[{ on := 3, ground := .data }, { on := 6, ground := .data }, { on := 10, ground := .data }], guard := none }) (v := ?_) rfl (by kernel_rfl) (by kernel_rfl) (by kernel_rfl) (fun _ _ _ h => h) (Or.inl ⟨by rfl, ?_⟩) hHeld ?_
        rotate_left
        ·
         intro w hSw
         clear hSw
         go_simp
         try with_reducible rfl
        try simp only [Act.put, List.setIfInBounds_toArray, List.set_cons_zero, List.set_cons_succ]
        refine wpAnyH_ready (rs := [13]) (by kernel_rfl) (by simp) (AllReadyH.cons (o := o13d) rfl (fun K hK => ?_) AllReadyH.nil)
        try rw [if_pos (by rfl)]
        refine wp_store_mid 30 (.tmp 7) (.tmp 33) rfl M 0 #[.string ⟨(bytO g0).toArray⟩, .int .u64 (nmR g1 2), .int .i64 0, .int .i64 0, .slice none 0 0, .int .i64 (smR (nmR s0 1) 1000), .slice C1 ((bytO s1).length / 16) k1, .slice C2 ((bytO s2).length / 16) k2] rfl rfl (there_row HMR.out 8 (show 8 ≤ 8 by decide)) (sz8 _ rfl) (one8 _ _ _ _ _ _ _ _ rfl rfl rfl rfl rfl rfl rfl rfl) ?_
        have HFIN := Lib.hid (fin8 (R := [.string ⟨(bytO g0).toArray⟩, .int .u64 (nmR g1 2), .int .i64 0, .int .i64 0, .slice none 0 0, .int .i64 (smR (nmR s0 1) 1000), .slice C1 ((bytO s1).length / 16) k1, .slice C2 ((bytO s2).length / 16) k2]) HMR.out (by decide) (row_setCells HMR.out (cs := _) rfl) HSH1.out HSH2.out HBC.out HMU.out)
        refine hK.out _ _ (mkS _ HFIN.out.2.2.2.2) (fun hHeld2 => ?_)
        clear hK K hHeld hHeld2
        try simp only [Act.put, List.setIfInBounds_toArray, List.set_cons_zero, List.set_cons_succ]
        refine wpAnyH_done (by kernel_rfl) ?_ _
        go_wp2_with fail
        go_meet
        exact ⟨M, C1, C2, k1, k2, rfl, HFIN.out⟩
       ·
        go_simp
        refine (HAV1.out z12 _ _ HVA.out).mono ?_
        rintro e z9 ⟨x3, y3, rfl, hat, hb⟩
        have HBC := Lib.hid (chain HBC.out hb)
        have HFA := Lib.hid (HFA.out.on hb)
        have HVA := Lib.hid (HVA.out.on hb)
        have HSS := Lib.hid (srcAt_on8 HSS.out hb)
        have HMR := Lib.hid (row_on HMR.out hb)
        have HG3 := Lib.hid hat
        clear hat hb
        obtain ⟨A3, m3, c3, B3, n3, d3, rfl, rfl⟩ := HG3.out.slices
        unfold cell3
        go_simp
        refine hK.out _ _ (mkS _ HBC.out) (fun hHeld2 => ?_)
        clear hK K hHeld
        have hHeld := hHeld2
        clear hHeld2
        try simp only [Act.put, List.setIfInBounds_toArray, List.set_cons_zero, List.set_cons_succ]
        refine wpAnyH_ready (rs := [3, 10]) (by kernel_rfl) (by simp) (AllReadyH.cons (o := { dst := some 25, op := .convert 31 9 (.tmp 24), type := 9, pos := "ref.go:79", after := #[{ on := 2, ground := .data }], guard := none }) rfl (fun K hK => ?_) (AllReadyH.cons (o := { dst := some 32, op := .call { callee := .value (.func 28), args := #[.tmp 31], argTypes := #[50] }, type := 28, pos := "ref.go:79", after := #[{ on := 9, ground := .data }, { on := 9, ground := .chain }], guard := none }) rfl (fun K hK => ?_) AllReadyH.nil))
        ·
         have hcv := conv_back (bytO g0) A1 c1 z9 HCN1.out HSS.out
         go_simp
         clear hcv
         refine hK.out _ _ (mkS _ HBC.out) (fun hHeld2 => ?_)
         clear hK K hHeld
         have hHeld := hHeld2
         clear hHeld2
         try simp only [Act.put, List.setIfInBounds_toArray, List.set_cons_zero, List.set_cons_succ]
         refine wpAnyH_ready (rs := [10]) (by kernel_rfl) (by simp) (AllReadyH.cons (o := { dst := some 32, op := .call { callee := .value (.func 28), args := #[.tmp 31], argTypes := #[50] }, type := 28, pos := "ref.go:79", after := #[{ on := 9, ground := .data }, { on := 9, ground := .chain }], guard := none }) rfl (fun K hK => ?_) AllReadyH.nil)
         go_simp
         have hc := HRS.out z9 _ _ HG3.out
         unfold cell3 at hc
         refine hc.mono ?_
         clear hc
         rintro e z10 ⟨C1, C2, k1, k2, rfl, hn1, hn2, hsh1, hsh2, hb⟩
         have HBC := Lib.hid (chain HBC.out hb)
         have HFA := Lib.hid (HFA.out.on hb)
         have HVA := Lib.hid (HVA.out.on hb)
         have HMR := Lib.hid (row_on HMR.out hb)
         have HG3 := Lib.hid (HG3.out.on hb)
         have HSH1 := Lib.hid hsh1
         have HSH2 := Lib.hid hsh2
         clear hb hsh1 hsh2 hn1 hn2 HG3
         go_simp
         refine hK.out _ _ (mkS _ HBC.out) (fun hHeld2 => ?_)
         clear hK K hHeld
         have hHeld := hHeld2
         clear hHeld2
         try simp only [Act.put, List.setIfInBounds_toArray, List.set_cons_zero, List.set_cons_succ]
         refine wpAnyH_take (i := 11) (oi := { dst := some 33, op := .build 30 #[(0, .tmp 25), (1, .tmp 28), (4, .tmp 32)], type := 30, pos := "ref.go:79", after := #[{ on := 3, ground := .data }, { on := 6, ground := .data }, { on := 10, ground := .data }], guard := none }) (v := ?_) rfl (by kernel_rfl) (by kernel_rfl) (by kernel_rfl) (fun _ _ _ h => h) (Or.inl ⟨by rfl, ?_⟩) hHeld ?_
         rotate_left
         ·
          intro w hSw
          clear hSw
          go_simp
          try with_reducible rfl
         try simp only [Act.put, List.setIfInBounds_toArray, List.set_cons_zero, List.set_cons_succ]
         refine wpAnyH_ready (rs := [13]) (by kernel_rfl) (by simp) (AllReadyH.cons (o := o13d) rfl (fun K hK => ?_) AllReadyH.nil)
         try rw [if_pos (by rfl)]
         refine wp_store_mid 30 (.tmp 7) (.tmp 33) rfl M 0 #[.string ⟨(bytO g0).toArray⟩, .int .u64 (nmR g1 2), .int .i64 0, .int .i64 0, .slice none 0 0, .int .i64 (smR (nmR s0 1) 1000), .slice C1 ((bytO s1).length / 16) k1, .slice C2 ((bytO s2).length / 16) k2] rfl rfl (there_row HMR.out 8 (show 8 ≤ 8 by decide)) (sz8 _ rfl) (one8 _ _ _ _ _ _ _ _ rfl rfl rfl rfl rfl rfl rfl rfl) ?_
         have HFIN := Lib.hid (fin8 (R := [.string ⟨(bytO g0).toArray⟩, .int .u64 (nmR g1 2), .int .i64 0, .int .i64 0, .slice none 0 0, .int .i64 (smR (nmR s0 1) 1000), .slice C1 ((bytO s1).length / 16) k1, .slice C2 ((bytO s2).length / 16) k2]) HMR.out (by decide) (row_setCells HMR.out (cs := _) rfl) HSH1.out HSH2.out HBC.out HMU.out)
         refine hK.out _ _ (mkS _ HFIN.out.2.2.2.2) (fun hHeld2 => ?_)
         clear hK K hHeld hHeld2
         try simp only [Act.put, List.setIfInBounds_toArray, List.set_cons_zero, List.set_cons_succ]
         refine wpAnyH_done (by kernel_rfl) ?_ _
         go_wp2_with fail
         go_meet
         exact ⟨M, C1, C2, k1, k2, rfl, HFIN.out⟩
        ·
         go_simp
         have hc := HRS.out z9 _ _ HG3.out
         unfold cell3 at hc
         refine hc.mono ?_
         clear hc
         rintro e z10 ⟨C1, C2, k1, k2, rfl, hn1, hn2, hsh1, hsh2, hb⟩
         have HBC := Lib.hid (chain HBC.out hb)
         have HFA := Lib.hid (HFA.out.on hb)
         have HVA := Lib.hid (HVA.out.on hb)
         have HSS := Lib.hid (srcAt_on8 HSS.out hb)
         have HMR := Lib.hid (row_on HMR.out hb)
         have HG3 := Lib.hid (HG3.out.on hb)
         have HSH1 := Lib.hid hsh1
         have HSH2 := Lib.hid hsh2
         clear hb hsh1 hsh2 hn1 hn2 HG3
         go_simp
         refine hK.out _ _ (mkS _ HBC.out) (fun hHeld2 => ?_)
         clear hK K hHeld
         have hHeld := hHeld2
         clear hHeld2
         try simp only [Act.put, List.setIfInBounds_toArray, List.set_cons_zero, List.set_cons_succ]
         refine wpAnyH_ready (rs := [3]) (by kernel_rfl) (by simp) (AllReadyH.cons (o := { dst := some 25, op := .convert 31 9 (.tmp 24), type := 9, pos := "ref.go:79", after := #[{ on := 2, ground := .data }], guard := none }) rfl (fun K hK => ?_) AllReadyH.nil)
         have hcv := conv_back (bytO g0) A1 c1 z10 HCN1.out HSS.out
         go_simp
         clear hcv
         refine hK.out _ _ (mkS _ HBC.out) (fun hHeld2 => ?_)
         clear hK K hHeld
         have hHeld := hHeld2
         clear hHeld2
         try simp only [Act.put, List.setIfInBounds_toArray, List.set_cons_zero, List.set_cons_succ]
         refine wpAnyH_take (i := 11) (oi := { dst := some 33, op := .build 30 #[(0, .tmp 25), (1, .tmp 28), (4, .tmp 32)], type := 30, pos := "ref.go:79", after := #[{ on := 3, ground := .data }, { on := 6, ground := .data }, { on := 10, ground := .data }], guard := none }) (v := ?_) rfl (by kernel_rfl) (by kernel_rfl) (by kernel_rfl) (fun _ _ _ h => h) (Or.inl ⟨by rfl, ?_⟩) hHeld ?_
         rotate_left
         ·
          intro w hSw
          clear hSw
          go_simp
          try with_reducible rfl
         try simp only [Act.put, List.setIfInBounds_toArray, List.set_cons_zero, List.set_cons_succ]
         refine wpAnyH_ready (rs := [13]) (by kernel_rfl) (by simp) (AllReadyH.cons (o := o13d) rfl (fun K hK => ?_) AllReadyH.nil)
         try rw [if_pos (by rfl)]
         refine wp_store_mid 30 (.tmp 7) (.tmp 33) rfl M 0 #[.string ⟨(bytO g0).toArray⟩, .int .u64 (nmR g1 2), .int .i64 0, .int .i64 0, .slice none 0 0, .int .i64 (smR (nmR s0 1) 1000), .slice C1 ((bytO s1).length / 16) k1, .slice C2 ((bytO s2).length / 16) k2] rfl rfl (there_row HMR.out 8 (show 8 ≤ 8 by decide)) (sz8 _ rfl) (one8 _ _ _ _ _ _ _ _ rfl rfl rfl rfl rfl rfl rfl rfl) ?_
         have HFIN := Lib.hid (fin8 (R := [.string ⟨(bytO g0).toArray⟩, .int .u64 (nmR g1 2), .int .i64 0, .int .i64 0, .slice none 0 0, .int .i64 (smR (nmR s0 1) 1000), .slice C1 ((bytO s1).length / 16) k1, .slice C2 ((bytO s2).length / 16) k2]) HMR.out (by decide) (row_setCells HMR.out (cs := _) rfl) HSH1.out HSH2.out HBC.out HMU.out)
         refine hK.out _ _ (mkS _ HFIN.out.2.2.2.2) (fun hHeld2 => ?_)
         clear hK K hHeld hHeld2
         try simp only [Act.put, List.setIfInBounds_toArray, List.set_cons_zero, List.set_cons_succ]
         refine wpAnyH_done (by kernel_rfl) ?_ _
         go_wp2_with fail
         go_meet
         exact ⟨M, C1, C2, k1, k2, rfl, HFIN.out⟩
     ·
      go_simp
      have hmr := heap_alloc_new z5 (.cells #[.string ⟨#[]⟩, .int .u64 0, .int .i64 0, .int .i64 0, .slice none 0 0, .int .i64 0, .slice none 0 0, .slice none 0 0] 30)
      have hb := below_new z5 (.cells #[.string ⟨#[]⟩, .int .u64 0, .int .i64 0, .int .i64 0, .slice none 0 0, .int .i64 0, .slice none 0 0, .slice none 0 0] 30)
      obtain ⟨M, hM⟩ : ∃ M, z5.heap.size = M := ⟨_, rfl⟩
      have HMU := Lib.hid (show U.heap.size ≤ M by have := HBC.out.size; omega)
      rw [hM] at hmr ⊢
      generalize World.alloc z5 _ = z12 at hmr hb ⊢
      have HBC := Lib.hid (chain HBC.out hb)
      have HFA := Lib.hid (HFA.out.on hb)
      have HVA := Lib.hid (HVA.out.on hb)
      have HSS := Lib.hid (srcAt_on8 HSS.out hb)
      have HG1 := Lib.hid (HG1.out.on hb)
      have HMR := Lib.hid hmr
      clear hb hmr hM
      refine hK.out _ _ (mkS _ HBC.out) (fun hHeld2 => ?_)
      clear hK K hHeld
      have hHeld := hHeld2
      clear hHeld2
      try simp only [Act.put, List.setIfInBounds_toArray, List.set_cons_zero, List.set_cons_succ]
      refine wpAnyH_ready (rs := [3, 6]) (by kernel_rfl) (by simp) (AllReadyH.cons (o := { dst := some 25, op := .convert 31 9 (.tmp 24), type := 9, pos := "ref.go:79", after := #[{ on := 2, ground := .data }], guard := none }) rfl (fun K hK => ?_) (AllReadyH.cons (o := { dst := some 28, op := .call { callee := .value (.func 27), args := #[.tmp 27, .const (.int .u8 2)], argTypes := #[50, 5] }, type := 22, pos := "ref.go:79", after := #[{ on := 5, ground := .data }, { on := 5, ground := .chain }], guard := none }) rfl (fun K hK => ?_) AllReadyH.nil))
      ·
       have hcv := conv_back (bytO g0) A1 c1 z12 HCN1.out HSS.out
       go_simp
       clear hcv
       refine hK.out _ _ (mkS _ HBC.out) (fun hHeld2 => ?_)
       clear hK K hHeld
       have hHeld := hHeld2
       clear hHeld2
       try simp only [Act.put, List.setIfInBounds_toArray, List.set_cons_zero, List.set_cons_succ]
       refine wpAnyH_ready (rs := [6]) (by kernel_rfl) (by simp) (AllReadyH.cons (o := { dst := some 28, op := .call { callee := .value (.func 27), args := #[.tmp 27, .const (.int .u8 2)], argTypes := #[50, 5] }, type := 22, pos := "ref.go:79", after := #[{ on := 5, ground := .data }, { on := 5, ground := .chain }], guard := none }) rfl (fun K hK => ?_) AllReadyH.nil)
       go_simp
       have hc := number10_ref g1 2 z12 _ _ HG1.out
       unfold cell3 at hc
       refine hc.mono ?_
       clear hc
       rintro e z6 ⟨rfl, hb⟩
       have HBC := Lib.hid (chain HBC.out hb)
       have HFA := Lib.hid (HFA.out.on hb)
       have HVA := Lib.hid (HVA.out.on hb)
       have HMR := Lib.hid (row_on HMR.out hb)
       have HG1 := Lib.hid (HG1.out.on hb)
       clear hb HG1
       go_simp
       refine hK.out _ _ (mkS _ HBC.out) (fun hHeld2 => ?_)
       clear hK K hHeld
       have hHeld := hHeld2
       clear hHeld2
       try simp only [Act.put, List.setIfInBounds_toArray, List.set_cons_zero, List.set_cons_succ]
       refine wpAnyH_ready (rs := [9]) (by kernel_rfl) (by simp) (AllReadyH.cons (o := { dst := some 31, op := .call { callee := .value (.func 26), args := #[.tmp 30, .const (.int .i64 1)], argTypes := #[48, 3] }, type := 50, pos := "ref.go:79", after := #[{ on := 8, ground := .data }, { on := 6, ground := .chain }], guard := none }) rfl (fun K hK => ?_) AllReadyH.nil)
       go_simp
       refine (HAV1.out z6 _ _ HVA.out).mono ?_
       rintro e z9 ⟨x3, y3, rfl, hat, hb⟩
       have HBC := Lib.hid (chain HBC.out hb)
       have HFA := Lib.hid (HFA.out.on hb)
       have HVA := Lib.hid (HVA.out.on hb)
       have HMR := Lib.hid (row_on HMR.out hb)
       have HG3 := Lib.hid hat
       clear hat hb
       obtain ⟨A3, m3, c3, B3, n3, d3, rfl, rfl⟩ := HG3.out.slices
       unfold cell3
       go_simp
       refine hK.out _ _ (mkS _ HBC.out) (fun hHeld2 => ?_)
       clear hK K hHeld
       have hHeld := hHeld2
       clear hHeld2
       try simp only [Act.put, List.setIfInBounds_toArray, List.set_cons_zero, List.set_cons_succ]
       refine wpAnyH_ready (rs := [10]) (by kernel_rfl) (by simp) (AllReadyH.cons (o := { dst := some 32, op := .call { callee := .value (.func 28), args := #[.tmp 31], argTypes := #[50] }, type := 28, pos := "ref.go:79", after := #[{ on := 9, ground := .data }, { on := 9, ground := .chain }], guard := none }) rfl (fun K hK => ?_) AllReadyH.nil)
       go_simp
       have hc := HRS.out z9 _ _ HG3.out
       unfold cell3 at hc
       refine hc.mono ?_
       clear hc
       rintro e z10 ⟨C1, C2, k1, k2, rfl, hn1, hn2, hsh1, hsh2, hb⟩
       have HBC := Lib.hid (chain HBC.out hb)
       have HFA := Lib.hid (HFA.out.on hb)
       have HVA := Lib.hid (HVA.out.on hb)
       have HMR := Lib.hid (row_on HMR.out hb)
       have HG3 := Lib.hid (HG3.out.on hb)
       have HSH1 := Lib.hid hsh1
       have HSH2 := Lib.hid hsh2
       clear hb hsh1 hsh2 hn1 hn2 HG3
       go_simp
       refine hK.out _ _ (mkS _ HBC.out) (fun hHeld2 => ?_)
       clear hK K hHeld
       have hHeld := hHeld2
       clear hHeld2
       try simp only [Act.put, List.setIfInBounds_toArray, List.set_cons_zero, List.set_cons_succ]
       refine wpAnyH_take (i := 11) (oi := { dst := some 33, op := .build 30 #[(0, .tmp 25), (1, .tmp 28), (4, .tmp 32)], type := 30, pos := "ref.go:79", after := #[{ on := 3, ground := .data }, { on := 6, ground := .data }, { on := 10, ground := .data }], guard := none }) (v := ?_) rfl (by kernel_rfl) (by kernel_rfl) (by kernel_rfl) (fun _ _ _ h => h) (Or.inl ⟨by rfl, ?_⟩) hHeld ?_
       rotate_left
       ·
        intro w hSw
        clear hSw
        go_simp
        try with_reducible rfl
       try simp only [Act.put, List.setIfInBounds_toArray, List.set_cons_zero, List.set_cons_succ]
       refine wpAnyH_ready (rs := [13]) (by kernel_rfl) (by simp) (AllReadyH.cons (o := o13d) rfl (fun K hK => ?_) AllReadyH.nil)
       try rw [if_pos (by rfl)]
       refine wp_store_mid 30 (.tmp 7) (.tmp 33) rfl M 0 #[.string ⟨(bytO g0).toArray⟩, .int .u64 (nmR g1 2), .int .i64 0, .int .i64 0, .slice none 0 0, .int .i64 (smR (nmR s0 1) 1000), .slice C1 ((bytO s1).length / 16) k1, .slice C2 ((bytO s2).length / 16) k2] rfl rfl (there_row HMR.out 8 (show 8 ≤ 8 by decide)) (sz8 _ rfl) (one8 _ _ _ _ _ _ _ _ rfl rfl rfl rfl rfl rfl rfl rfl) ?_
       have HFIN := Lib.hid (fin8 (R := [.string ⟨(bytO g0).toArray⟩, .int .u64 (nmR g1 2), .int .i64 0, .int .i64 0, .slice none 0 0, .int .i64 (smR (nmR s0 1) 1000), .slice C1 ((bytO s1).length / 16) k1, .slice C2 ((bytO s2).length / 16) k2]) HMR.out (by decide) (row_setCells HMR.out (cs := _) rfl) HSH1.out HSH2.out HBC.out HMU.out)
       refine hK.out _ _ (mkS _ HFIN.out.2.2.2.2) (fun hHeld2 => ?_)
       clear hK K hHeld hHeld2
       try simp only [Act.put, List.setIfInBounds_toArray, List.set_cons_zero, List.set_cons_succ]
       refine wpAnyH_done (by kernel_rfl) ?_ _
       go_wp2_with fail
       go_meet
       exact ⟨M, C1, C2, k1, k2, rfl, HFIN.out⟩
      ·
       go_simp
       have hc := number10_ref g1 2 z12 _ _ HG1.out
       unfold cell3 at hc
       refine hc.mono ?_
       clear hc
       rintro e z6 ⟨rfl, hb⟩
       have HBC := Lib.hid (chain HBC.out hb)
       have HFA := Lib.hid (HFA.out.on hb)
       have HVA := Lib.hid (HVA.out.on hb)
       have HSS := Lib.hid (srcAt_on8 HSS.out hb)
       have HMR := Lib.hid (row_on HMR.out hb)
       have HG1 := Lib.hid (HG1.out.on hb)
       clear hb HG1
       go_simp
       refine hK.out _ _ (mkS _ HBC.out) (fun hHeld2 => ?_)
       clear hK K hHeld
       have hHeld := hHeld2
       clear hHeld2
       try simp only [Act.put, List.setIfInBounds_toArray, List.set_cons_zero, List.set_cons_succ]
       refine wpAnyH_ready (rs := [3, 9]) (by kernel_rfl) (by simp) (AllReadyH.cons (o := { dst := some 25, op := .convert 31 9 (.tmp 24), type := 9, pos := "ref.go:79", after := #[{ on := 2, ground := .data }], guard := none }) rfl (fun K hK => ?_) (AllReadyH.cons (o := { dst := some 31, op := .call { callee := .value (.func 26), args := #[.tmp 30, .const (.int .i64 1)], argTypes := #[48, 3] }, type := 50, pos := "ref.go:79", after := #[{ on := 8, ground := .data }, { on := 6, ground := .chain }], guard := none }) rfl (fun K hK => ?_) AllReadyH.nil))
       ·
        have hcv := conv_back (bytO g0) A1 c1 z6 HCN1.out HSS.out
        go_simp
        clear hcv
        refine hK.out _ _ (mkS _ HBC.out) (fun hHeld2 => ?_)
        clear hK K hHeld
        have hHeld := hHeld2
        clear hHeld2
        try simp only [Act.put, List.setIfInBounds_toArray, List.set_cons_zero, List.set_cons_succ]
        refine wpAnyH_ready (rs := [9]) (by kernel_rfl) (by simp) (AllReadyH.cons (o := { dst := some 31, op := .call { callee := .value (.func 26), args := #[.tmp 30, .const (.int .i64 1)], argTypes := #[48, 3] }, type := 50, pos := "ref.go:79", after := #[{ on := 8, ground := .data }, { on := 6, ground := .chain }], guard := none }) rfl (fun K hK => ?_) AllReadyH.nil)
        go_simp
        refine (HAV1.out z6 _ _ HVA.out).mono ?_
        rintro e z9 ⟨x3, y3, rfl, hat, hb⟩
        have HBC := Lib.hid (chain HBC.out hb)
        have HFA := Lib.hid (HFA.out.on hb)
        have HVA := Lib.hid (HVA.out.on hb)
        have HMR := Lib.hid (row_on HMR.out hb)
        have HG3 := Lib.hid hat
        clear hat hb
        obtain ⟨A3, m3, c3, B3, n3, d3, rfl, rfl⟩ := HG3.out.slices
        unfold cell3
        go_simp
        refine hK.out _ _ (mkS _ HBC.out) (fun hHeld2 => ?_)
        clear hK K hHeld
        have hHeld := hHeld2
        clear hHeld2
        try simp only [Act.put, List.setIfInBounds_toArray, List.set_cons_zero, List.set_cons_succ]
        refine wpAnyH_ready (rs := [10]) (by kernel_rfl) (by simp) (AllReadyH.cons (o := { dst := some 32, op := .call { callee := .value (.func 28), args := #[.tmp 31], argTypes := #[50] }, type := 28, pos := "ref.go:79", after := #[{ on := 9, ground := .data }, { on := 9, ground := .chain }], guard := none }) rfl (fun K hK => ?_) AllReadyH.nil)
        go_simp
        have hc := HRS.out z9 _ _ HG3.out
        unfold cell3 at hc
        refine hc.mono ?_
        clear hc
        rintro e z10 ⟨C1, C2, k1, k2, rfl, hn1, hn2, hsh1, hsh2, hb⟩
        have HBC := Lib.hid (chain HBC.out hb)
        have HFA := Lib.hid (HFA.out.on hb)
        have HVA := Lib.hid (HVA.out.on hb)
        have HMR := Lib.hid (row_on HMR.out hb)
        have HG3 := Lib.hid (HG3.out.on hb)
        have HSH1 := Lib.hid hsh1
        have HSH2 := Lib.hid hsh2
        clear hb hsh1 hsh2 hn1 hn2 HG3
        go_simp
        refine hK.out _ _ (mkS _ HBC.out) (fun hHeld2 => ?_)
        clear hK K hHeld
        have hHeld := hHeld2
        clear hHeld2
        try simp only [Act.put, List.setIfInBounds_toArray, List.set_cons_zero, List.set_cons_succ]
        refine wpAnyH_take (i := 11) (oi := { dst := some 33, op := .build 30 #[(0, .tmp 25), (1, .tmp 28), (4, .tmp 32)], type := 30, pos := "ref.go:79", after := #[{ on := 3, ground := .data }, { on := 6, ground := .data }, { on := 10, ground := .data }], guard := none }) (v := ?_) rfl (by kernel_rfl) (by kernel_rfl) (by kernel_rfl) (fun _ _ _ h => h) (Or.inl ⟨by rfl, ?_⟩) hHeld ?_
        rotate_left
        ·
         intro w hSw
         clear hSw
         go_simp
         try with_reducible rfl
        try simp only [Act.put, List.setIfInBounds_toArray, List.set_cons_zero, List.set_cons_succ]
        refine wpAnyH_ready (rs := [13]) (by kernel_rfl) (by simp) (AllReadyH.cons (o := o13d) rfl (fun K hK => ?_) AllReadyH.nil)
        try rw [if_pos (by rfl)]
        refine wp_store_mid 30 (.tmp 7) (.tmp 33) rfl M 0 #[.string ⟨(bytO g0).toArray⟩, .int .u64 (nmR g1 2), .int .i64 0, .int .i64 0, .slice none 0 0, .int .i64 (smR (nmR s0 1) 1000), .slice C1 ((bytO s1).length / 16) k1, .slice C2 ((bytO s2).length / 16) k2] rfl rfl (there_row HMR.out 8 (show 8 ≤ 8 by decide)) (sz8 _ rfl) (one8 _ _ _ _ _ _ _ _ rfl rfl rfl rfl rfl rfl rfl rfl) ?_
        have HFIN := Lib.hid (fin8 (R := [.string ⟨(bytO g0).toArray⟩, .int .u64 (nmR g1 2), .int .i64 0, .int .i64 0, .slice none 0 0, .int .i64 (smR (nmR s0 1) 1000), .slice C1 ((bytO s1).length / 16) k1, .slice C2 ((bytO s2).length / 16) k2]) HMR.out (by decide) (row_setCells HMR.out (cs := _) rfl) HSH1.out HSH2.out HBC.out HMU.out)
        refine hK.out _ _ (mkS _ HFIN.out.2.2.2.2) (fun hHeld2 => ?_)
        clear hK K hHeld hHeld2
        try simp only [Act.put, List.setIfInBounds_toArray, List.set_cons_zero, List.set_cons_succ]
        refine wpAnyH_done (by kernel_rfl) ?_ _
        go_wp2_with fail
        go_meet
        exact ⟨M, C1, C2, k1, k2, rfl, HFIN.out⟩
       ·
        go_simp
        refine (HAV1.out z6 _ _ HVA.out).mono ?_
        rintro e z9 ⟨x3, y3, rfl, hat, hb⟩
        have HBC := Lib.hid (chain HBC.out hb)
        have HFA := Lib.hid (HFA.out.on hb)
        have HVA := Lib.hid (HVA.out.on hb)
        have HSS := Lib.hid (srcAt_on8 HSS.out hb)
        have HMR := Lib.hid (row_on HMR.out hb)
        have HG3 := Lib.hid hat
        clear hat hb
        obtain ⟨A3, m3, c3, B3, n3, d3, rfl, rfl⟩ := HG3.out.slices
        unfold cell3
        go_simp
        refine hK.out _ _ (mkS _ HBC.out) (fun hHeld2 => ?_)
        clear hK K hHeld
        have hHeld := hHeld2
        clear hHeld2
        try simp only [Act.put, List.setIfInBounds_toArray, List.set_cons_zero, List.set_cons_succ]
        refine wpAnyH_ready (rs := [3, 10]) (by kernel_rfl) (by simp) (AllReadyH.cons (o := { dst := some 25, op := .convert 31 9 (.tmp 24), type := 9, pos := "ref.go:79", after := #[{ on := 2, ground := .data }], guard := none }) rfl (fun K hK => ?_) (AllReadyH.cons (o := { dst := some 32, op := .call { callee := .value (.func 28), args := #[.tmp 31], argTypes := #[50] }, type := 28, pos := "ref.go:79", after := #[{ on := 9, ground := .data }, { on := 9, ground := .chain }], guard := none }) rfl (fun K hK => ?_) AllReadyH.nil))
        ·
         have hcv := conv_back (bytO g0) A1 c1 z9 HCN1.out HSS.out
         go_simp
         clear hcv
         refine hK.out _ _ (mkS _ HBC.out) (fun hHeld2 => ?_)
         clear hK K hHeld
         have hHeld := hHeld2
         clear hHeld2
         try simp only [Act.put, List.setIfInBounds_toArray, List.set_cons_zero, List.set_cons_succ]
         refine wpAnyH_ready (rs := [10]) (by kernel_rfl) (by simp) (AllReadyH.cons (o := { dst := some 32, op := .call { callee := .value (.func 28), args := #[.tmp 31], argTypes := #[50] }, type := 28, pos := "ref.go:79", after := #[{ on := 9, ground := .data }, { on := 9, ground := .chain }], guard := none }) rfl (fun K hK => ?_) AllReadyH.nil)
         go_simp
         have hc := HRS.out z9 _ _ HG3.out
         unfold cell3 at hc
         refine hc.mono ?_
         clear hc
         rintro e z10 ⟨C1, C2, k1, k2, rfl, hn1, hn2, hsh1, hsh2, hb⟩
         have HBC := Lib.hid (chain HBC.out hb)
         have HFA := Lib.hid (HFA.out.on hb)
         have HVA := Lib.hid (HVA.out.on hb)
         have HMR := Lib.hid (row_on HMR.out hb)
         have HG3 := Lib.hid (HG3.out.on hb)
         have HSH1 := Lib.hid hsh1
         have HSH2 := Lib.hid hsh2
         clear hb hsh1 hsh2 hn1 hn2 HG3
         go_simp
         refine hK.out _ _ (mkS _ HBC.out) (fun hHeld2 => ?_)
         clear hK K hHeld
         have hHeld := hHeld2
         clear hHeld2
         try simp only [Act.put, List.setIfInBounds_toArray, List.set_cons_zero, List.set_cons_succ]
         refine wpAnyH_take (i := 11) (oi := { dst := some 33, op := .build 30 #[(0, .tmp 25), (1, .tmp 28), (4, .tmp 32)], type := 30, pos := "ref.go:79", after := #[{ on := 3, ground := .data }, { on := 6, ground := .data }, { on := 10, ground := .data }], guard := none }) (v := ?_) rfl (by kernel_rfl) (by kernel_rfl) (by kernel_rfl) (fun _ _ _ h => h) (Or.inl ⟨by rfl, ?_⟩) hHeld ?_
         rotate_left
         ·
          intro w hSw
          clear hSw
          go_simp
          try with_reducible rfl
         try simp only [Act.put, List.setIfInBounds_toArray, List.set_cons_zero, List.set_cons_succ]
         refine wpAnyH_ready (rs := [13]) (by kernel_rfl) (by simp) (AllReadyH.cons (o := o13d) rfl (fun K hK => ?_) AllReadyH.nil)
         try rw [if_pos (by rfl)]
         refine wp_store_mid 30 (.tmp 7) (.tmp 33) rfl M 0 #[.string ⟨(bytO g0).toArray⟩, .int .u64 (nmR g1 2), .int .i64 0, .int .i64 0, .slice none 0 0, .int .i64 (smR (nmR s0 1) 1000), .slice C1 ((bytO s1).length / 16) k1, .slice C2 ((bytO s2).length / 16) k2] rfl rfl (there_row HMR.out 8 (show 8 ≤ 8 by decide)) (sz8 _ rfl) (one8 _ _ _ _ _ _ _ _ rfl rfl rfl rfl rfl rfl rfl rfl) ?_
         have HFIN := Lib.hid (fin8 (R := [.string ⟨(bytO g0).toArray⟩, .int .u64 (nmR g1 2), .int .i64 0, .int .i64 0, .slice none 0 0, .int .i64 (smR (nmR s0 1) 1000), .slice C1 ((bytO s1).length / 16) k1, .slice C2 ((bytO s2).length / 16) k2]) HMR.out (by decide) (row_setCells HMR.out (cs := _) rfl) HSH1.out HSH2.out HBC.out HMU.out)
         refine hK.out _ _ (mkS _ HFIN.out.2.2.2.2) (fun hHeld2 => ?_)
         clear hK K hHeld hHeld2
         try simp only [Act.put, List.setIfInBounds_toArray, List.set_cons_zero, List.set_cons_succ]
         refine wpAnyH_done (by kernel_rfl) ?_ _
         go_wp2_with fail
         go_meet
         exact ⟨M, C1, C2, k1, k2, rfl, HFIN.out⟩
        ·
         go_simp
         have hc := HRS.out z9 _ _ HG3.out
         unfold cell3 at hc
         refine hc.mono ?_
         clear hc
         rintro e z10 ⟨C1, C2, k1, k2, rfl, hn1, hn2, hsh1, hsh2, hb⟩
         have HBC := Lib.hid (chain HBC.out hb)
         have HFA := Lib.hid (HFA.out.on hb)
         have HVA := Lib.hid (HVA.out.on hb)
         have HSS := Lib.hid (srcAt_on8 HSS.out hb)
         have HMR := Lib.hid (row_on HMR.out hb)
         have HG3 := Lib.hid (HG3.out.on hb)
         have HSH1 := Lib.hid hsh1
         have HSH2 := Lib.hid hsh2
         clear hb hsh1 hsh2 hn1 hn2 HG3
         go_simp
         refine hK.out _ _ (mkS _ HBC.out) (fun hHeld2 => ?_)
         clear hK K hHeld
         have hHeld := hHeld2
         clear hHeld2
         try simp only [Act.put, List.setIfInBounds_toArray, List.set_cons_zero, List.set_cons_succ]
         refine wpAnyH_ready (rs := [3]) (by kernel_rfl) (by simp) (AllReadyH.cons (o := { dst := some 25, op := .convert 31 9 (.tmp 24), type := 9, pos := "ref.go:79", after := #[{ on := 2, ground := .data }], guard := none }) rfl (fun K hK => ?_) AllReadyH.nil)
         have hcv := conv_back (bytO g0) A1 c1 z10 HCN1.out HSS.out
         go_simp
         clear hcv
         refine hK.out _ _ (mkS _ HBC.out) (fun hHeld2 => ?_)
         clear hK K hHeld
         have hHeld := hHeld2
         clear hHeld2
         try simp only [Act.put, List.setIfInBounds_toArray, List.set_cons_zero, List.set_cons_succ]
         refine wpAnyH_take (i := 11) (oi := { dst := some 33, op := .build 30 #[(0, .tmp 25), (1, .tmp 28), (4, .tmp 32)], type := 30, pos := "ref.go:79", after := #[{ on := 3, ground := .data }, { on := 6, ground := .data }, { on := 10, ground := .data }], guard := none }) (v := ?_) rfl (by kernel_rfl) (by kernel_rfl) (by kernel_rfl) (fun _ _ _ h => h) (Or.inl ⟨by rfl, ?_⟩) hHeld ?_
         rotate_left
         ·
          intro w hSw
          clear hSw
          go_simp
          try with_reducible rfl
         try simp only [Act.put, List.setIfInBounds_toArray, List.set_cons_zero, List.set_cons_succ]
         refine wpAnyH_ready (rs := [13]) (by kernel_rfl) (by simp) (AllReadyH.cons (o := o13d) rfl (fun K hK => ?_) AllReadyH.nil)
         try rw [if_pos (by rfl)]
         refine wp_store_mid 30 (.tmp 7) (.tmp 33) rfl M 0 #[.string ⟨(bytO g0).toArray⟩, .int .u64 (nmR g1 2), .int .i64 0, .int .i64 0, .slice none 0 0, .int .i64 (smR (nmR s0 1) 1000), .slice C1 ((bytO s1).length / 16) k1, .slice C2 ((bytO s2).length / 16) k2] rfl rfl (there_row HMR.out 8 (show 8 ≤ 8 by decide)) (sz8 _ rfl) (one8 _ _ _ _ _ _ _ _ rfl rfl rfl rfl rfl rfl rfl rfl) ?_
         have HFIN := Lib.hid (fin8 (R := [.string ⟨(bytO g0).toArray⟩, .int .u64 (nmR g1 2), .int .i64 0, .int .i64 0, .slice none 0 0, .int .i64 (smR (nmR s0 1) 1000), .slice C1 ((bytO s1).length / 16) k1, .slice C2 ((bytO s2).length / 16) k2]) HMR.out (by decide) (row_setCells HMR.out (cs := _) rfl) HSH1.out HSH2.out HBC.out HMU.out)
         refine hK.out _ _ (mkS _ HFIN.out.2.2.2.2) (fun hHeld2 => ?_)
         clear hK K hHeld hHeld2
         try simp only [Act.put, List.setIfInBounds_toArray, List.set_cons_zero, List.set_cons_succ]
         refine wpAnyH_done (by kernel_rfl) ?_ _
         go_wp2_with fail
         go_meet
         exact ⟨M, C1, C2, k1, k2, rfl, HFIN.out⟩
    ·
     go_simp
     have hmr := heap_alloc_new z1 (.cells #[.string ⟨#[]⟩, .int .u64 0, .int .i64 0, .int .i64 0, .slice none 0 0, .int .i64 0, .slice none 0 0, .slice none 0 0] 30)
     have hb := below_new z1 (.cells #[.string ⟨#[]⟩, .int .u64 0, .int .i64 0, .int .i64 0, .slice none 0 0, .int .i64 0, .slice none 0 0, .slice none 0 0] 30)
     obtain ⟨M, hM⟩ : ∃ M, z1.heap.size = M := ⟨_, rfl⟩
     have HMU := Lib.hid (show U.heap.size ≤ M by have := HBC.out.size; omega)
     rw [hM] at hmr ⊢
     generalize World.alloc z1 _ = z12 at hmr hb ⊢
     have HBC := Lib.hid (chain HBC.out hb)
     have HFA := Lib.hid (HFA.out.on hb)
     have HVA := Lib.hid (HVA.out.on hb)
     have HSS := Lib.hid (srcAt_on8 HSS.out hb)
     have HMR := Lib.hid hmr
     clear hb hmr hM
     refine hK.out _ _ (mkS _ HBC.out) (fun hHeld2 => ?_)
     clear hK K hHeld
     have hHeld := hHeld2
     clear hHeld2
     try simp only [Act.put, List.setIfInBounds_toArray, List.set_cons_zero, List.set_cons_succ]
     refine wpAnyH_ready (rs := [3, 5]) (by kernel_rfl) (by simp) (AllReadyH.cons (o := { dst := some 25, op := .convert 31 9 (.tmp 24), type := 9, pos := "ref.go:79", after := #[{ on := 2, ground := .data }], guard := none }) rfl (fun K hK => ?_) (AllReadyH.cons (o := { dst := some 27, op := .call { callee := .value (.func 26), args := #[.tmp 26, .const (.int .i64 1)], argTypes := #[48, 3] }, type := 50, pos := "ref.go:79", after := #[{ on := 4, ground := .data }, { on := 1, ground := .chain }], guard := none }) rfl (fun K hK => ?_) AllReadyH.nil))
     ·
      have hcv := conv_back (bytO g0) A1 c1 z12 HCN1.out HSS.out
      go_simp
      clear hcv
      refine hK.out _ _ (mkS _ HBC.out) (fun hHeld2 => ?_)
      clear hK K hHeld
      have hHeld := hHeld2
      clear hHeld2
      try simp only [Act.put, List.setIfInBounds_toArray, List.set_cons_zero, List.set_cons_succ]
      refine wpAnyH_ready (rs := [5]) (by kernel_rfl) (by simp) (AllReadyH.cons (o := { dst := some 27, op := .call { callee := .value (.func 26), args := #[.tmp 26, .const (.int .i64 1)], argTypes := #[48, 3] }, type := 50, pos := "ref.go:79", after := #[{ on := 4, ground := .data }, { on := 1, ground := .chain }], guard := none }) rfl (fun K hK => ?_) AllReadyH.nil)
      go_simp
      refine (HAF1.out z12 _ _ HFA.out).mono ?_
      rintro e z5 ⟨x2, y2, rfl, hat, hb⟩
      have HBC := Lib.hid (chain HBC.out hb)
      have HFA := Lib.hid (HFA.out.on hb)
      have HVA := Lib.hid (HVA.out.on hb)
      have HMR := Lib.hid (row_on HMR.out hb)
      have HG1 := Lib.hid hat
      clear hat hb
      obtain ⟨A2, m2, c2, B2, n2, d2, rfl, rfl⟩ := HG1.out.slices
      unfold cell3
      go_simp
      refine hK.out _ _ (mkS _ HBC.out) (fun hHeld2 => ?_)
      clear hK K hHeld
      have hHeld := hHeld2
      clear hHeld2
      try simp only [Act.put, List.setIfInBounds_toArray, List.set_cons_zero, List.set_cons_succ]
      refine wpAnyH_ready (rs := [6]) (by kernel_rfl) (by simp) (AllReadyH.cons (o := { dst := some 28, op := .call { callee := .value (.func 27), args := #[.tmp 27, .const (.int .u8 2)], argTypes := #[50, 5] }, type := 22, pos := "ref.go:79", after := #[{ on := 5, ground := .data }, { on := 5, ground := .chain }], guard := none }) rfl (fun K hK => ?_) AllReadyH.nil)
      go_simp
      have hc := number10_ref g1 2 z5 _ _ HG1.out
      unfold cell3 at hc
      refine hc.mono ?_
      clear hc
      rintro e z6 ⟨rfl, hb⟩
      have HBC := Lib.hid (chain HBC.out hb)
      have HFA := Lib.hid (HFA.out.on hb)
      have HVA := Lib.hid (HVA.out.on hb)
      have HMR := Lib.hid (row_on HMR.out hb)
      have HG1 := Lib.hid (HG1.out.on hb)
      clear hb HG1
      go_simp
      refine hK.out _ _ (mkS _ HBC.out) (fun hHeld2 => ?_)
      clear hK K hHeld
      have hHeld := hHeld2
      clear hHeld2
      try simp only [Act.put, List.setIfInBounds_toArray, List.set_cons_zero, List.set_cons_succ]
      refine wpAnyH_ready (rs := [9]) (by kernel_rfl) (by simp) (AllReadyH.cons (o := { dst := some 31, op := .call { callee := .value (.func 26), args := #[.tmp 30, .const (.int .i64 1)], argTypes := #[48, 3] }, type := 50, pos := "ref.go:79", after := #[{ on := 8, ground := .data }, { on := 6, ground := .chain }], guard := none }) rfl (fun K hK => ?_) AllReadyH.nil)
      go_simp
      refine (HAV1.out z6 _ _ HVA.out).mono ?_
      rintro e z9 ⟨x3, y3, rfl, hat, hb⟩
      have HBC := Lib.hid (chain HBC.out hb)
      have HFA := Lib.hid (HFA.out.on hb)
      have HVA := Lib.hid (HVA.out.on hb)
      have HMR := Lib.hid (row_on HMR.out hb)
      have HG3 := Lib.hid hat
      clear hat hb
      obtain ⟨A3, m3, c3, B3, n3, d3, rfl, rfl⟩ := HG3.out.slices
      unfold cell3
      go_simp
      refine hK.out _ _ (mkS _ HBC.out) (fun hHeld2 => ?_)
      clear hK K hHeld
      have hHeld := hHeld2
      clear hHeld2
      try simp only [Act.put, List.setIfInBounds_toArray, List.set_cons_zero, List.set_cons_succ]
      refine wpAnyH_ready (rs := [10]) (by kernel_rfl) (by simp) (AllReadyH.cons (o := { dst := some 32, op := .call { callee := .value (.func 28), args := #[.tmp 31], argTypes := #[50] }, type := 28, pos := "ref.go:79", after := #[{ on := 9, ground := .data }, { on := 9, ground := .chain }], guard := none }) rfl (fun K hK => ?_) AllReadyH.nil)
      go_simp
      have hc := HRS.out z9 _ _ HG3.out
      unfold cell3 at hc
      refine hc.mono ?_
      clear hc
      rintro e z10 ⟨C1, C2, k1, k2, rfl, hn1, hn2, hsh1, hsh2, hb⟩
      have HBC := Lib.hid (chain HBC.out hb)
      have HFA := Lib.hid (HFA.out.on hb)
      have HVA := Lib.hid (HVA.out.on hb)
      have HMR := Lib.hid (row_on HMR.out hb)
      have HG3 := Lib.hid (HG3.out.on hb)
      have HSH1 := Lib.hid hsh1
      have HSH2 := Lib.hid hsh2
      clear hb hsh1 hsh2 hn1 hn2 HG3
      go_simp
      refine hK.out _ _ (mkS _ HBC.out) (fun hHeld2 => ?_)
      clear hK K hHeld
      have hHeld := hHeld2
      clear hHeld2
      try simp only [Act.put, List.setIfInBounds_toArray, List.set_cons_zero, List.set_cons_succ]
      refine wpAnyH_take (i := 11) (oi := { dst := some 33, op := .build 30 #[(0, .tmp 25), (1, .tmp 28), (4, .tmp 32)], type := 30, pos := "ref.go:79", after := #[{ on := 3, ground := .data }, { on := 6, ground := .data }, { on := 10, ground := .data }], guard := none }) (v := ?_) rfl (by kernel_rfl) (by kernel_rfl) (by kernel_rfl) (fun _ _ _ h => h) (Or.inl ⟨by rfl, ?_⟩) hHeld ?_
      rotate_left
      ·
       intro w hSw
       clear hSw
       go_simp
       try with_reducible rfl
      try simp only [Act.put, List.setIfInBounds_toArray, List.set_cons_zero, List.set_cons_succ]
      refine wpAnyH_ready (rs := [13]) (by kernel_rfl) (by simp) (AllReadyH.cons (o := o13d) rfl (fun K hK => ?_) AllReadyH.nil)
      try rw [if_pos (by rfl)]
      refine wp_store_mid 30 (.tmp 7) (.tmp 33) rfl M 0 #[.string ⟨(bytO g0).toArray⟩, .int .u64 (nmR g1 2), .int .i64 0, .int .i64 0, .slice none 0 0, .int .i64 (smR (nmR s0 1) 1000), .slice C1 ((bytO s1).length / 16) k1, .slice C2 ((bytO s2).length / 16) k2] rfl rfl (there_row HMR.out 8 (show 8 ≤ 8 by decide)) (sz8 _ rfl) (one8 _ _ _ _ _ _ _ _ rfl rfl rfl rfl rfl rfl rfl rfl) ?_
      have HFIN := Lib.hid (fin8 (R := [.string ⟨(bytO g0).toArray⟩, .int .u64 (nmR g1 2), .int .i64 0, .int .i64 0, .slice none 0 0, .int .i64 (smR (nmR s0 1) 1000), .slice C1 ((bytO s1).length / 16) k1, .slice C2 ((bytO s2).length / 16) k2]) HMR.out (by decide) (row_setCells HMR.out (cs := _) rfl) HSH1.out HSH2.out HBC.out HMU.out)
      refine hK.out _ _ (mkS _ HFIN.out.2.2.2.2) (fun hHeld2 => ?_)
      clear hK K hHeld hHeld2
      try simp only [Act.put, List.setIfInBounds_toArray, List.set_cons_zero, List.set_cons_succ]
      refine wpAnyH_done (by kernel_rfl) ?_ _
      go_wp2_with fail
      go_meet
      exact ⟨M, C1, C2, k1, k2, rfl, HFIN.out⟩
     ·
      go_simp
      refine (HAF1.out z12 _ _ HFA.out).mono ?_
      rintro e z5 ⟨x2, y2, rfl, hat, hb⟩
      have HBC := Lib.hid (chain HBC.out hb)
      have HFA := Lib.hid (HFA.out.on hb)
      have HVA := Lib.hid (HVA.out.on hb)
      have HSS := Lib.hid (srcAt_on8 HSS.out hb)
      have HMR := Lib.hid (row_on HMR.out hb)
      have HG1 := Lib.hid hat
      clear hat hb
      obtain ⟨A2, m2, c2, B2, n2, d2, rfl, rfl⟩ := HG1.out.slices
      unfold cell3
      go_simp
      refine hK.out _ _ (mkS _ HBC.out) (fun hHeld2 => ?_)
      clear hK K hHeld
      have hHeld := hHeld2
      clear hHeld2
      try simp only [Act.put, List.setIfInBounds_toArray, List.set_cons_zero, List.set_cons_succ]
      refine wpAnyH_ready (rs := [3, 6]) (by kernel_rfl) (by simp) (AllReadyH.cons (o := { dst := some 25, op := .convert 31 9 (.tmp 24), type := 9, pos := "ref.go:79", after := #[{ on := 2, ground := .data }], guard := none }) rfl (fun K hK => ?_) (AllReadyH.cons (o := { dst := some 28, op := .call { callee := .value (.func 27), args := #[.tmp 27, .const (.int .u8 2)], argTypes := #[50, 5] }, type := 22, pos := "ref.go:79", after := #[{ on := 5, ground := .data }, { on := 5, ground := .chain }], guard := none }) rfl (fun K hK => ?_) AllReadyH.nil))
      ·
       have hcv := conv_back (bytO g0) A1 c1 z5 HCN1.out HSS.out
       go_simp
       clear hcv
       refine hK.out _ _ (mkS _ HBC.out) (fun hHeld2 => ?_)
       clear hK K hHeld
       have hHeld := hHeld2
       clear hHeld2
       try simp only [Act.put, List.setIfInBounds_toArray, List.set_cons_zero, List.set_cons_succ]
       refine wpAnyH_ready (rs := [6]) (by kernel_rfl) (by simp) (AllReadyH.cons (o := { dst := some 28, op := .call { callee := .value (.func 27), args := #[.tmp 27, .const (.int .u8 2)], argTypes := #[50, 5] }, type := 22, pos := "ref.go:79", after := #[{ on := 5, ground := .data }, { on := 5, ground := .chain }], guard := none }) rfl (fun K hK => ?_) AllReadyH.nil)
       go_simp
       have hc := number10_ref g1 2 z5 _ _ HG1.out
       unfold cell3 at hc
       refine hc.mono ?_
       clear hc
       rintro e z6 ⟨rfl, hb⟩
       have HBC := Lib.hid (chain HBC.out hb)
       have HFA := Lib.hid (HFA.out.on hb)
       have HVA := Lib.hid (HVA.out.on hb)
       have HMR := Lib.hid (row_on HMR.out hb)
       have HG1 := Lib.hid (HG1.out.on hb)
       clear hb HG1
       go_simp
       refine hK.out _ _ (mkS _ HBC.out) (fun hHeld2 => ?_)
       clear hK K hHeld
       have hHeld := hHeld2
       clear hHeld2
       try simp only [Act.put, List.setIfInBounds_toArray, List.set_cons_zero, List.set_cons_succ]
       refine wpAnyH_ready (rs := [9]) (by kernel_rfl) (by simp) (AllReadyH.cons (o := { dst := some 31, op := .call { callee := .value (.func 26), args := #[.tmp 30, .const (.int .i64 1)], argTypes := #[48, 3] }, type := 50, pos := "ref.go:79", after := #[{ on := 8, ground := .data }, { on := 6, ground := .chain }], guard := none }) rfl (fun K hK => ?_) AllReadyH.nil)
       go_simp
       refine (HAV1.out z6 _ _ HVA.out).mono ?_
       rintro e z9 ⟨x3, y3, rfl, hat, hb⟩
       have HBC := Lib.hid (chain HBC.out hb)
       have HFA := Lib.hid (HFA.out.on hb)
       have HVA := Lib.hid (HVA.out.on hb)
       have HMR := Lib.hid (row_on HMR.out hb)
       have HG3 := Lib.hid hat
       clear hat hb
       obtain ⟨A3, m3, c3, B3, n3, d3, rfl, rfl⟩ := HG3.out.slices
       unfold cell3
       go_simp
       refine hK.out _ _ (mkS _ HBC.out) (fun hHeld2 => ?_)
       clear hK K hHeld
       have hHeld := hHeld2
       clear hHeld2
       try simp only [Act.put, List.setIfInBounds_toArray, List.set_cons_zero, List.set_cons_succ]
       refine wpAnyH_ready (rs := [10]) (by kernel_rfl) (by simp) (AllReadyH.cons (o := { dst := some 32, op := .call { callee := .value (.func 28), args := #[.tmp 31], argTypes := #[50] }, type := 28, pos := "ref.go:79", after := #[{ on := 9, ground := .data }, { on := 9, ground := .chain }], guard := none }) rfl (fun K hK => ?_) AllReadyH.nil)
       go_simp
       have hc := HRS.out z9 _ _ HG3.out
       unfold cell3 at hc
       refine hc.mono ?_
       clear hc
       rintro e z10 ⟨C1, C2, k1, k2, rfl, hn1, hn2, hsh1, hsh2, hb⟩
       have HBC := Lib.hid (chain HBC.out hb)
       have HFA := Lib.hid (HFA.out.on hb)
       have HVA := Lib.hid (HVA.out.on hb)
       have HMR := Lib.hid (row_on HMR.out hb)
       have HG3 := Lib.hid (HG3.out.on hb)
       have HSH1 := Lib.hid hsh1
       have HSH2 := Lib.hid hsh2
       clear hb hsh1 hsh2 hn1 hn2 HG3
       go_simp
       refine hK.out _ _ (mkS _ HBC.out) (fun hHeld2 => ?_)
       clear hK K hHeld
       have hHeld := hHeld2
       clear hHeld2
       try simp only [Act.put, List.setIfInBounds_toArray, List.set_cons_zero, List.set_cons_succ]
       refine wpAnyH_take (i := 11) (oi := { dst := some 33, op := .build 30 #[(0, .tmp 25), (1, .tmp 28), (4, .tmp 32)], type := 30, pos := "ref.go:79", after := #[{ on := 3, ground := .data }, { on := 6, ground := .data }, { on := 10, ground := .data }], guard := none }) (v := ?_) rfl (by kernel_rfl) (by kernel_rfl) (by kernel_rfl) (fun _ _ _ h => h) (Or.inl ⟨by rfl, ?_⟩) hHeld ?_
       rotate_left
       ·
        intro w hSw
        clear hSw
        go_simp
        try with_reducible rfl
       try simp only [Act.put, List.setIfInBounds_toArray, List.set_cons_zero, List.set_cons_succ]
       refine wpAnyH_ready (rs := [13]) (by kernel_rfl) (by simp) (AllReadyH.cons (o := o13d) rfl (fun K hK => ?_) AllReadyH.nil)
       try rw [if_pos (by rfl)]
       refine wp_store_mid 30 (.tmp 7) (.tmp 33) rfl M 0 #[.string ⟨(bytO g0).toArray⟩, .int .u64 (nmR g1 2), .int .i64 0, .int .i64 0, .slice none 0 0, .int .i64 (smR (nmR s0 1) 1000), .slice C1 ((bytO s1).length / 16) k1, .slice C2 ((bytO s2).length / 16) k2] rfl rfl (there_row HMR.out 8 (show 8 ≤ 8 by decide)) (sz8 _ rfl) (one8 _ _ _ _ _ _ _ _ rfl rfl rfl rfl rfl rfl rfl rfl) ?_
       have HFIN := Lib.hid (fin8 (R := [.string ⟨(bytO g0).toArray⟩, .int .u64 (nmR g1 2), .int .i64 0, .int .i64 0, .slice none 0 0, .int .i64 (smR (nmR s0 1) 1000), .slice C1 ((bytO s1).length / 16) k1, .slice C2 ((bytO s2).length / 16) k2]) HMR.out (by decide) (row_setCells HMR.out (cs := _) rfl) HSH1.out HSH2.out HBC.out HMU.out)
       refine hK.out _ _ (mkS _ HFIN.out.2.2.2.2) (fun hHeld2 => ?_)
       clear hK K hHeld hHeld2
       try simp only [Act.put, List.setIfInBounds_toArray, List.set_cons_zero, List.set_cons_succ]
       refine wpAnyH_done (by kernel_rfl) ?_ _
       go_wp2_with fail
       go_meet
       exact ⟨M, C1, C2, k1, k2, rfl, HFIN.out⟩
      ·
       go_simp
       have hc := number10_ref g1 2 z5 _ _ HG1.out
       unfold cell3 at hc
       refine hc.mono ?_
       clear hc
       rintro e z6 ⟨rfl, hb⟩
       have HBC := Lib.hid (chain HBC.out hb)
       have HFA := Lib.hid (HFA.out.on hb)
       have HVA := Lib.hid (HVA.out.on hb)
       have HSS := Lib.hid (srcAt_on8 HSS.out hb)
       have HMR := Lib.hid (row_on HMR.out hb)
       have HG1 := Lib.hid (HG1.out.on hb)
       clear hb HG1
       go_simp
       refine hK.out _ _ (mkS _ HBC.out) (fun hHeld2 => ?_)
       clear hK K hHeld
       have hHeld := hHeld2
       clear hHeld2
       try simp only [Act.put, List.setIfInBounds_toArray, List.set_cons_zero, List.set_cons_succ]
       refine wpAnyH_ready (rs := [3, 9]) (by kernel_rfl) (by simp) (AllReadyH.cons (o := { dst := some 25, op := .convert 31 9 (.tmp 24), type := 9, pos := "ref.go:79", after := #[{ on := 2, ground := .data }], guard := none }) rfl (fun K hK => ?_) (AllReadyH.cons (o := { dst := some 31, op := .call { callee := .value (.func 26), args := #[.tmp 30, .const (.int .i64 1)], argTypes := #[48, 3] }, type := 50, pos := "ref.go:79", after := #[{ on := 8, ground := .data }, { on := 6, ground := .chain }], guard := none }) rfl (fun K hK => ?_) AllReadyH.nil))
       ·
        have hcv := conv_back (bytO g0) A1 c1 z6 HCN1.out HSS.out
        go_simp
        clear hcv
        refine hK.out _ _ (mkS _ HBC.out) (fun hHeld2 => ?_)
        clear hK K hHeld
        have hHeld := hHeld2
        clear hHeld2
        try simp only [Act.put, List.setIfInBounds_toArray, List.set_cons_zero, List.set_cons_succ]
        refine wpAnyH_ready (rs := [9]) (by kernel_rfl) (by simp) (AllReadyH.cons (o := { dst := some 31, op := .call { callee := .value (.func 26), args := #[.tmp 30, .const (.int .i64 1)], argTypes := #[48, 3] }, type := 50, pos := "ref.go:79", after := #[{ on := 8, ground := .data }, { on := 6, ground := .chain }], guard := none }) rfl (fun K hK => ?_) AllReadyH.nil)
        go_simp
        refine (HAV1.out z6 _ _ HVA.out).mono ?_
        rintro e z9 ⟨x3, y3, rfl, hat, hb⟩
        have HBC := Lib.hid (chain HBC.out hb)
        have HFA := Lib.hid (HFA.out.on hb)
        have HVA := Lib.hid (HVA.out.on hb)
        have HMR := Lib.hid (row_on HMR.out hb)
        have HG3 := Lib.hid hat
        clear hat hb
        obtain ⟨A3, m3, c3, B3, n3, d3, rfl, rfl⟩ := HG3.out.slices
        unfold cell3
        go_simp
        refine hK.out _ _ (mkS _ HBC.out) (fun hHeld2 => ?_)
        clear hK K hHeld
        have hHeld := hHeld2
        clear hHeld2
        try simp only [Act.put, List.setIfInBounds_toArray, List.set_cons_zero, List.set_cons_succ]
        refine wpAnyH_ready (rs := [10]) (by kernel_rfl) (by simp) (AllReadyH.cons (o := { dst := some 32, op := .call { callee := .value (.func 28), args := #[.tmp 31], argTypes := #[50] }, type := 28, pos := "ref.go:79", after := #[{ on := 9, ground := .data }, { on := 9, ground := .chain }], guard := none }) rfl (fun K hK => ?_) AllReadyH.nil)
        go_simp
        have hc := HRS.out z9 _ _ HG3.out
        unfold cell3 at hc
        refine hc.mono ?_
        clear hc
        rintro e z10 ⟨C1, C2, k1, k2, rfl, hn1, hn2, hsh1, hsh2, hb⟩
        have HBC := Lib.hid (chain HBC.out hb)
        have HFA := Lib.hid (HFA.out.on hb)
        have HVA := Lib.hid (HVA.out.on hb)
        have HMR := Lib.hid (row_on HMR.out hb)
        have HG3 := Lib.hid (HG3.out.on hb)
        have HSH1 := Lib.hid hsh1
        have HSH2 := Lib.hid hsh2
        clear hb hsh1 hsh2 hn1 hn2 HG3
        go_simp
        refine hK.out _ _ (mkS _ HBC.out) (fun hHeld2 => ?_)
        clear hK K hHeld
        have hHeld := hHeld2
        clear hHeld2
        try simp only [Act.put, List.setIfInBounds_toArray, List.set_cons_zero, List.set_cons_succ]
        refine wpAnyH_take (i := 11) (oi := { dst := some 33, op := .build 30 #[(0, .tmp 25), (1, .tmp 28), (4, .tmp 32)], type := 30, pos := "ref.go:79", after := #[{ on := 3, ground := .data }, { on := 6, ground := .data }, { on := 10, ground := .data }], guard := none }) (v := ?_) rfl (by kernel_rfl) (by kernel_rfl) (by kernel_rfl) (fun _ _ _ h => h) (Or.inl ⟨by rfl, ?_⟩) hHeld ?_
        rotate_left
        ·
         intro w hSw
         clear hSw
         go_simp
         try with_reducible rfl
        try simp only [Act.put, List.setIfInBounds_toArray, List.set_cons_zero, List.set_cons_succ]
        refine wpAnyH_ready (rs := [13]) (by kernel_rfl) (by simp) (AllReadyH.cons (o := o13d) rfl (fun K hK => ?_) AllReadyH.nil)
        try rw [if_pos (by rfl)]
        refine wp_store_mid 30 (.tmp 7) (.tmp 33) rfl M 0 #[.string ⟨(bytO g0).toArray⟩, .int .u64 (nmR g1 2), .int .i64 0, .int .i64 0, .slice none 0 0, .int .i64 (smR (nmR s0 1) 1000), .slice C1 ((bytO s1).length / 16) k1, .slice C2 ((bytO s2).length / 16) k2] rfl rfl (there_row HMR.out 8 (show 8 ≤ 8 by decide)) (sz8 _ rfl) (one8 _ _ _ _ _ _ _ _ rfl rfl rfl rfl rfl rfl rfl rfl) ?_
        have HFIN := Lib.hid (fin8 (R := [.string ⟨(bytO g0).toArray⟩, .int .u64 (nmR g1 2), .int .i64 0, .int .i64 0, .slice none 0 0, .int .i64 (smR (nmR s0 1) 1000), .slice C1 ((bytO s1).length / 16) k1, .slice C2 ((bytO s2).length / 16) k2]) HMR.out (by decide) (row_setCells HMR.out (cs := _) rfl) HSH1.out HSH2.out HBC.out HMU.out)
        refine hK.out _ _ (mkS _ HFIN.out.2.2.2.2) (fun hHeld2 => ?_)
        clear hK K hHeld hHeld2
        try simp only [Act.put, List.setIfInBounds_toArray, List.set_cons_zero, List.set_cons_succ]
        refine wpAnyH_done (by kernel_rfl) ?_ _
        go_wp2_with fail
        go_meet
        exact ⟨M, C1, C2, k1, k2, rfl, HFIN.out⟩
       ·
        go_simp
        refine (HAV1.out z6 _ _ HVA.out).mono ?_
        rintro e z9 ⟨x3, y3, rfl, hat, hb⟩
        have HBC := Lib.hid (chain HBC.out hb)
        have HFA := Lib.hid (HFA.out.on hb)
        have HVA := Lib.hid (HVA.out.on hb)
        have HSS := Lib.hid (srcAt_on8 HSS.out hb)
        have HMR := Lib.hid (row_on HMR.out hb)
        have HG3 := Lib.hid hat
        clear hat hb
        obtain ⟨A3, m3, c3, B3, n3, d3, rfl, rfl⟩ := HG3.out.slices
        unfold cell3
        go_simp
        refine hK.out _ _ (mkS _ HBC.out) (fun hHeld2 => ?_)
        clear hK K hHeld
        have hHeld := hHeld2
        clear hHeld2
        try simp only [Act.put, List.setIfInBounds_toArray, List.set_cons_zero, List.set_cons_succ]
        refine wpAnyH_ready (rs := [3, 10]) (by kernel_rfl) (by simp) (AllReadyH.cons (o := { dst := some 25, op := .convert 31 9 (.tmp 24), type := 9, pos := "ref.go:79", after := #[{ on := 2, ground := .data }], guard := none }) rfl (fun K hK => ?_) (AllReadyH.cons (o := { dst := some 32, op := .call { callee := .value (.func 28), args := #[.tmp 31], argTypes := #[50] }, type := 28, pos := "ref.go:79", after := #[{ on := 9, ground := .data }, { on := 9, ground := .chain }], guard := none }) rfl (fun K hK => ?_) AllReadyH.nil))
        ·
         have hcv := conv_back (bytO g0) A1 c1 z9 HCN1.out HSS.out
         go_simp
         clear hcv
         refine hK.out _ _ (mkS _ HBC.out) (fun hHeld2 => ?_)
         clear hK K hHeld
         have hHeld := hHeld2
         clear hHeld2
         try simp only [Act.put, List.setIfInBounds_toArray, List.set_cons_zero, List.set_cons_succ]
         refine wpAnyH_ready (rs := [10]) (by kernel_rfl) (by simp) (AllReadyH.cons (o := { dst := some 32, op := .call { callee := .value (.func 28), args := #[.tmp 31], argTypes := #[50] }, type := 28, pos := "ref.go:79", after := #[{ on := 9, ground := .data }, { on := 9, ground := .chain }], guard := none }) rfl (fun K hK => ?_) AllReadyH.nil)
         go_simp
         have hc := HRS.out z9 _ _ HG3.out
         unfold cell3 at hc
         refine hc.mono ?_
         clear hc
         rintro e z10 ⟨C1, C2, k1, k2, rfl, hn1, hn2, hsh1, hsh2, hb⟩
         have HBC := Lib.hid (chain HBC.out hb)
         have HFA := Lib.hid (HFA.out.on hb)
         have HVA := Lib.hid (HVA.out.on hb)
         have HMR := Lib.hid (row_on HMR.out hb)
         have HG3 := Lib.hid (HG3.out.on hb)
         have HSH1 := Lib.hid hsh1
         have HSH2 := Lib.hid hsh2
         clear hb hsh1 hsh2 hn1 hn2 HG3
         go_simp
         refine hK.out _ _ (mkS _ HBC.out) (fun hHeld2 => ?_)
         clear hK K hHeld
         have hHeld := hHeld2
         clear hHeld2
         try simp only [Act.put, List.setIfInBounds_toArray, List.set_cons_zero, List.set_cons_succ]
         refine wpAnyH_take (i := 11) (oi := { dst := some 33, op := .build 30 #[(0, .tmp 25), (1, .tmp 28), (4, .tmp 32)], type := 30, pos := "ref.go:79", after := #[{ on := 3, ground := .data }, { on := 6, ground := .data }, { on := 10, ground := .data }], guard := none }) (v := ?_) rfl (by kernel_rfl) (by kernel_rfl) (by kernel_rfl) (fun _ _ _ h => h) (Or.inl ⟨by rfl, ?_⟩) hHeld ?_
         rotate_left
         ·
          intro w hSw
          clear hSw
          go_simp
          try with_reducible rfl
         try simp only [Act.put, List.setIfInBounds_toArray, List.set_cons_zero, List.set_cons_succ]
         refine wpAnyH_ready (rs := [13]) (by kernel_rfl) (by simp) (AllReadyH.cons (o := o13d) rfl (fun K hK => ?_) AllReadyH.nil)
         try rw [if_pos (by rfl)]
         refine wp_store_mid 30 (.tmp 7) (.tmp 33) rfl M 0 #[.string ⟨(bytO g0).toArray⟩, .int .u64 (nmR g1 2), .int .i64 0, .int .i64 0, .slice none 0 0, .int .i64 (smR (nmR s0 1) 1000), .slice C1 ((bytO s1).length / 16) k1, .slice C2 ((bytO s2).length / 16) k2] rfl rfl (there_row HMR.out 8 (show 8 ≤ 8 by decide)) (sz8 _ rfl) (one8 _ _ _ _ _ _ _ _ rfl rfl rfl rfl rfl rfl rfl rfl) ?_
         have HFIN := Lib.hid (fin8 (R := [.string ⟨(bytO g0).toArray⟩, .int .u64 (nmR g1 2), .int .i64 0, .int .i64 0, .slice none 0 0, .int .i64 (smR (nmR s0 1) 1000), .slice C1 ((bytO s1).length / 16) k1, .slice C2 ((bytO s2).length / 16) k2]) HMR.out (by decide) (row_setCells HMR.out (cs := _) rfl) HSH1.out HSH2.out HBC.out HMU.out)
         refine hK.out _ _ (mkS _ HFIN.out.2.2.2.2) (fun hHeld2 => ?_)
         clear hK K hHeld hHeld2
         try simp only [Act.put, List.setIfInBounds_toArray, List.set_cons_zero, List.set_cons_succ]
         refine wpAnyH_done (by kernel_rfl) ?_ _
         go_wp2_with fail
         go_meet
         exact ⟨M, C1, C2, k1, k2, rfl, HFIN.out⟩
        ·
         go_simp
         have hc := HRS.out z9 _ _ HG3.out
         unfold cell3 at hc
         refine hc.mono ?_
         clear hc
         rintro e z10 ⟨C1, C2, k1, k2, rfl, hn1, hn2, hsh1, hsh2, hb⟩
         have HBC := Lib.hid (chain HBC.out hb)
         have HFA := Lib.hid (HFA.out.on hb)
         have HVA := Lib.hid (HVA.out.on hb)
         have HSS := Lib.hid (srcAt_on8 HSS.out hb)
         have HMR := Lib.hid (row_on HMR.out hb)
         have HG3 := Lib.hid (HG3.out.on hb)
         have HSH1 := Lib.hid hsh1
         have HSH2 := Lib.hid hsh2
         clear hb hsh1 hsh2 hn1 hn2 HG3
         go_simp
         refine hK.out _ _ (mkS _ HBC.out) (fun hHeld2 => ?_)
         clear hK K hHeld
         have hHeld := hHeld2
         clear hHeld2
         try simp only [Act.put, List.setIfInBounds_toArray, List.set_cons_zero, List.set_cons_succ]
         refine wpAnyH_ready (rs := [3]) (by kernel_rfl) (by simp) (AllReadyH.cons (o := { dst := some 25, op := .convert 31 9 (.tmp 24), type := 9, pos := "ref.go:79", after := #[{ on := 2, ground := .data }], guard := none }) rfl (fun K hK => ?_) AllReadyH.nil)
         have hcv := conv_back (bytO g0) A1 c1 z10 HCN1.out HSS.out
         go_simp
         clear hcv
         refine hK.out _ _ (mkS _ HBC.out) (fun hHeld2 => ?_)
         clear hK K hHeld
         have hHeld := hHeld2
         clear hHeld2
         try simp only [Act.put, List.setIfInBounds_toArray, List.set_cons_zero, List.set_cons_succ]
         refine wpAnyH_take (i := 11) (oi := { dst := some 33, op := .build 30 #[(0, .tmp 25), (1, .tmp 28), (4, .tmp 32)], type := 30, pos := "ref.go:79", after := #[{ on := 3, ground := .data }, { on := 6, ground := .data }, { on := 10, ground := .data }], guard := none }) (v := ?_) rfl (by kernel_rfl) (by kernel_rfl) (by kernel_rfl) (fun _ _ _ h => h) (Or.inl ⟨by rfl, ?_⟩) hHeld ?_
         rotate_left
         ·
          intro w hSw
          clear hSw
          go_simp
          try with_reducible rfl
         try simp only [Act.put, List.setIfInBounds_toArray, List.set_cons_zero, List.set_cons_succ]
         refine wpAnyH_ready (rs := [13]) (by kernel_rfl) (by simp) (AllReadyH.cons (o := o13d) rfl (fun K hK => ?_) AllReadyH.nil)
         try rw [if_pos (by rfl)]
         refine wp_store_mid 30 (.tmp 7) (.tmp 33) rfl M 0 #[.string ⟨(bytO g0).toArray⟩, .int .u64 (nmR g1 2), .int .i64 0, .int .i64 0, .slice none 0 0, .int .i64 (smR (nmR s0 1) 1000), .slice C1 ((bytO s1).length / 16) k1, .slice C2 ((bytO s2).length / 16) k2] rfl rfl (there_row HMR.out 8 (show 8 ≤ 8 by decide)) (sz8 _ rfl) (one8 _ _ _ _ _ _ _ _ rfl rfl rfl rfl rfl rfl rfl rfl) ?_
         have HFIN := Lib.hid (fin8 (R := [.string ⟨(bytO g0).toArray⟩, .int .u64 (nmR g1 2), .int .i64 0, .int .i64 0, .slice none 0 0, .int .i64 (smR (nmR s0 1) 1000), .slice C1 ((bytO s1).length / 16) k1, .slice C2 ((bytO s2).length / 16) k2]) HMR.out (by decide) (row_setCells HMR.out (cs := _) rfl) HSH1.out HSH2.out HBC.out HMU.out)
         refine hK.out _ _ (mkS _ HFIN.out.2.2.2.2) (fun hHeld2 => ?_)
         clear hK K hHeld hHeld2
         try simp only [Act.put, List.setIfInBounds_toArray, List.set_cons_zero, List.set_cons_succ]
         refine wpAnyH_done (by kernel_rfl) ?_ _
         go_wp2_with fail
         go_meet
         exact ⟨M, C1, C2, k1, k2, rfl, HFIN.out⟩
   ·
    go_simp
    have hmr := heap_alloc_new U (.cells #[.string ⟨#[]⟩, .int .u64 0, .int .i64 0, .int .i64 0, .slice none 0 0, .int .i64 0, .slice none 0 0, .slice none 0 0] 30)
    have hb := below_new U (.cells #[.string ⟨#[]⟩, .int .u64 0, .int .i64 0, .int .i64 0, .slice none 0 0, .int .i64 0, .slice none 0 0, .slice none 0 0] 30)
    obtain ⟨M, hM⟩ : ∃ M, U.heap.size = M := ⟨_, rfl⟩
    have HMU := Lib.hid (show U.heap.size ≤ M by have := HBC.out.size; omega)
    rw [hM] at hmr ⊢
    generalize World.alloc U _ = z12 at hmr hb ⊢
    have HBC := Lib.hid (chain HBC.out hb)
    have HFA := Lib.hid (HFA.out.on hb)
    have HVA := Lib.hid (HVA.out.on hb)
    have HMR := Lib.hid hmr
    clear hb hmr hM
    refine hK.out _ _ (mkS _ HBC.out) (fun hHeld2 => ?_)
    clear hK K hHeld
    have hHeld := hHeld2
    clear hHeld2
    try simp only [Act.put, List.setIfInBounds_toArray, List.set_cons_zero, List.set_cons_succ]
    refine wpAnyH_ready (rs := [1]) (by kernel_rfl) (by simp) (AllReadyH.cons (o := { dst := some 23, op := .call { callee := .value (.func 26), args := #[.tmp 22, .const (.int .i64 0)], argTypes := #[48, 3] }, type := 50, pos := "ref.go:79", after := #[{ on := 0, ground := .data }], guard := none }) rfl (fun K hK => ?_) AllReadyH.nil)
    go_simp
    refine (HAF0.out z12 _ _ HFA.out).mono ?_
    rintro e z1 ⟨x1, y1, rfl, hat, hb⟩
    obtain ⟨A1, c1, B1, n1, d1, rfl, rfl, hcn1, hs1⟩ := at_open hat
    have HSS0 := Lib.hid hs1
    have HCN1 := Lib.hid hcn1
    have HBC := Lib.hid (chain HBC.out hb)
    have HFA := Lib.hid (HFA.out.on hb)
    have HVA := Lib.hid (HVA.out.on hb)
    have HMR := Lib.hid (row_on HMR.out hb)
    have HSS := HSS0
    clear hat hb hs1 hcn1 HSS0
    unfold cell3
    go_simp
    refine hK.out _ _ (mkS _ HBC.out) (fun hHeld2 => ?_)
    clear hK K hHeld
    have hHeld := hHeld2
    clear hHeld2
    try simp only [Act.put, List.setIfInBounds_toArray, List.set_cons_zero, List.set_cons_succ]
    refine wpAnyH_take (i := 2) (oi := { dst := some 24, op := .field 50 (.tmp 23) 1, type := 31, pos := "ref.go:79", after := #[{ on := 1, ground := .data }], guard := none }) (v := ?_) rfl (by kernel_rfl) (by kernel_rfl) (by kernel_rfl) (fun _ _ _ h => h) (Or.inl ⟨by rfl, ?_⟩) hHeld ?_
    rotate_left
    ·
     intro w hSw
     clear hSw
     go_simp
     try with_reducible rfl
    try simp only [Act.put, List.setIfInBounds_toArray, List.set_cons_zero, List.set_cons_succ]
    refine wpAnyH_ready (rs := [3, 5]) (by kernel_rfl) (by simp) (AllReadyH.cons (o := { dst := some 25, op := .convert 31 9 (.tmp 24), type := 9, pos := "ref.go:79", after := #[{ on := 2, ground := .data }], guard := none }) rfl (fun K hK => ?_) (AllReadyH.cons (o := { dst := some 27, op := .call { callee := .value (.func 26), args := #[.tmp 26, .const (.int .i64 1)], argTypes := #[48, 3] }, type := 50, pos := "ref.go:79", after := #[{ on := 4, ground := .data }, { on := 1, ground := .chain }], guard := none }) rfl (fun K hK => ?_) AllReadyH.nil))
    ·
     have hcv := conv_back (bytO g0) A1 c1 z1 HCN1.out HSS.out
     go_simp
     clear hcv
     refine hK.out _ _ (mkS _ HBC.out) (fun hHeld2 => ?_)
     clear hK K hHeld
     have hHeld := hHeld2
     clear hHeld2
     try simp only [Act.put, List.setIfInBounds_toArray, List.set_cons_zero, List.set_cons_succ]
     refine wpAnyH_ready (rs := [5]) (by kernel_rfl) (by simp) (AllReadyH.cons (o := { dst := some 27, op := .call { callee := .value (.func 26), args := #[.tmp 26, .const (.int .i64 1)], argTypes := #[48, 3] }, type := 50, pos := "ref.go:79", after := #[{ on := 4, ground := .data }, { on := 1, ground := .chain }], guard := none }) rfl (fun K hK => ?_) AllReadyH.nil)
     go_simp
     refine (HAF1.out z1 _ _ HFA.out).mono ?_
     rintro e z5 ⟨x2, y2, rfl, hat, hb⟩
     have HBC := Lib.hid (chain HBC.out hb)
     have HFA := Lib.hid (HFA.out.on hb)
     have HVA := Lib.hid (HVA.out.on hb)
     have HMR := Lib.hid (row_on HMR.out hb)
     have HG1 := Lib.hid hat
     clear hat hb
     obtain ⟨A2, m2, c2, B2, n2, d2, rfl, rfl⟩ := HG1.out.slices
     unfold cell3
     go_simp
     refine hK.out _ _ (mkS _ HBC.out) (fun hHeld2 => ?_)
     clear hK K hHeld
     have hHeld := hHeld2
     clear hHeld2
     try simp only [Act.put, List.setIfInBounds_toArray, List.set_cons_zero, List.set_cons_succ]
     refine wpAnyH_ready (rs := [6]) (by kernel_rfl) (by simp) (AllReadyH.cons (o := { dst := some 28, op := .call { callee := .value (.func 27), args := #[.tmp 27, .const (.int .u8 2)], argTypes := #[50, 5] }, type := 22, pos := "ref.go:79", after := #[{ on := 5, ground := .data }, { on := 5, ground := .chain }], guard := none }) rfl (fun K hK => ?_) AllReadyH.nil)
     go_simp
     have hc := number10_ref g1 2 z5 _ _ HG1.out
     unfold cell3 at hc
     refine hc.mono ?_
     clear hc
     rintro e z6 ⟨rfl, hb⟩
     have HBC := Lib.hid (chain HBC.out hb)
     have HFA := Lib.hid (HFA.out.on hb)
     have HVA := Lib.hid (HVA.out.on hb)
     have HMR := Lib.hid (row_on HMR.out hb)
     have HG1 := Lib.hid (HG1.out.on hb)
     clear hb HG1
     go_simp
     refine hK.out _ _ (mkS _ HBC.out) (fun hHeld2 => ?_)
     clear hK K hHeld
     have hHeld := hHeld2
     clear hHeld2
     try simp only [Act.put, List.setIfInBounds_toArray, List.set_cons_zero, List.set_cons_succ]
     refine wpAnyH_ready (rs := [9]) (by kernel_rfl) (by simp) (AllReadyH.cons (o := { dst := some 31, op := .call { callee := .value (.func 26), args := #[.tmp 30, .const (.int .i64 1)], argTypes := #[48, 3] }, type := 50, pos := "ref.go:79", after := #[{ on := 8, ground := .data }, { on := 6, ground := .chain }], guard := none }) rfl (fun K hK => ?_) AllReadyH.nil)
     go_simp
     refine (HAV1.out z6 _ _ HVA.out).mono ?_
     rintro e z9 ⟨x3, y3, rfl, hat, hb⟩
     have HBC := Lib.hid (chain HBC.out hb)
     have HFA := Lib.hid (HFA.out.on hb)
     have HVA := Lib.hid (HVA.out.on hb)
     have HMR := Lib.hid (row_on HMR.out hb)
     have HG3 := Lib.hid hat
     clear hat hb
     obtain ⟨A3, m3, c3, B3, n3, d3, rfl, rfl⟩ := HG3.out.slices
     unfold cell3
     go_simp
     refine hK.out _ _ (mkS _ HBC.out) (fun hHeld2 => ?_)
     clear hK K hHeld
     have hHeld := hHeld2
     clear hHeld2
     try simp only [Act.put, List.setIfInBounds_toArray, List.set_cons_zero, List.set_cons_succ]
     refine wpAnyH_ready (rs := [10]) (by kernel_rfl) (by simp) (AllReadyH.cons (o := { dst := some 32, op := .call { callee := .value (.func 28), args := #[.tmp 31], argTypes := #[50] }, type := 28, pos := "ref.go:79", after := #[{ on := 9, ground := .data }, { on := 9, ground := .chain }], guard := none }) rfl (fun K hK => ?_) AllReadyH.nil)
     go_simp
     have hc := HRS.out z9 _ _ HG3.out
     unfold cell3 at hc
     refine hc.mono ?_
     clear hc
     rintro e z10 ⟨C1, C2, k1, k2, rfl, hn1, hn2, hsh1, hsh2, hb⟩
     have HBC := Lib.hid (chain HBC.out hb)
     have HFA := Lib.hid (HFA.out.on hb)
     have HVA := Lib.hid (HVA.out.on hb)
     have HMR := Lib.hid (row_on HMR.out hb)
     have HG3 := Lib.hid (HG3.out.on hb)
     have HSH1 := Lib.hid hsh1
     have HSH2 := Lib.hid hsh2
     clear hb hsh1 hsh2 hn1 hn2 HG3
     go_simp
     refine hK.out _ _ (mkS _ HBC.out) (fun hHeld2 => ?_)
     clear hK K hHeld
     have hHeld := hHeld2
     clear hHeld2
     try simp only [Act.put, List.setIfInBounds_toArray, List.set_cons_zero, List.set_cons_succ]
     refine wpAnyH_take (i := 11) (oi := { dst := some 33, op := .build 30 #[(0, .tmp 25), (1, .tmp 28), (4, .tmp 32)], type := 30, pos := "ref.go:79", after := #[{ on := 3, ground := .data }, { on := 6, ground := .data }, { on := 10, ground := .data }], guard := none }) (v := ?_) rfl (by kernel_rfl) (by kernel_rfl) (by kernel_rfl) (fun _ _ _ h => h) (Or.inl ⟨by rfl, ?_⟩) hHeld ?_
     rotate_left
     ·
      intro w hSw
      clear hSw
      go_simp
      try with_reducible rfl
     try simp only [Act.put, List.setIfInBounds_toArray, List.set_cons_zero, List.set_cons_succ]
     refine wpAnyH_ready (rs := [13]) (by kernel_rfl) (by simp) (AllReadyH.cons (o := o13d) rfl (fun K hK => ?_) AllReadyH.nil)
     try rw [if_pos (by rfl)]
     refine wp_store_mid 30 (.tmp 7) (.tmp 33) rfl M 0 #[.string ⟨(bytO g0).toArray⟩, .int .u64 (nmR g1 2), .int .i64 0, .int .i64 0, .slice none 0 0, .int .i64 (smR (nmR s0 1) 1000), .slice C1 ((bytO s1).length / 16) k1, .slice C2 ((bytO s2).length / 16) k2] rfl rfl (there_row HMR.out 8 (show 8 ≤ 8 by decide)) (sz8 _ rfl) (one8 _ _ _ _ _ _ _ _ rfl rfl rfl rfl rfl rfl rfl rfl) ?_
     have HFIN := Lib.hid (fin8 (R := [.string ⟨(bytO g0).toArray⟩, .int .u64 (nmR g1 2), .int .i64 0, .int .i64 0, .slice none 0 0, .int .i64 (smR (nmR s0 1) 1000), .slice C1 ((bytO s1).length / 16) k1, .slice C2 ((bytO s2).length / 16) k2]) HMR.out (by decide) (row_setCells HMR.out (cs := _) rfl) HSH1.out HSH2.out HBC.out HMU.out)
     refine hK.out _ _ (mkS _ HFIN.out.2.2.2.2) (fun hHeld2 => ?_)
     clear hK K hHeld hHeld2
     try simp only [Act.put, List.setIfInBounds_toArray, List.set_cons_zero, List.set_cons_succ]
     refine wpAnyH_done (by kernel_rfl) ?_ _
     go_wp2_with fail
     go_meet
     exact ⟨M, C1, C2, k1, k2, rfl, HFIN.out⟩
    ·
     go_simp
     refine (HAF1.out z1 _ _ HFA.out).mono ?_
     rintro e z5 ⟨x2, y2, rfl, hat, hb⟩
     have HBC := Lib.hid (chain HBC.out hb)
     have HFA := Lib.hid (HFA.out.on hb)
     have HVA := Lib.hid (HVA.out.on hb)
     have HSS := Lib.hid (srcAt_on8 HSS.out hb)
     have HMR := Lib.hid (row_on HMR.out hb)
     have HG1 := Lib.hid hat
     clear hat hb
     obtain ⟨A2, m2, c2, B2, n2, d2, rfl, rfl⟩ := HG1.out.slices
     unfold cell3
     go_simp
     refine hK.out _ _ (mkS _ HBC.out) (fun hHeld2 => ?_)
     clear hK K hHeld
     have hHeld := hHeld2
     clear hHeld2
     try simp only [Act.put, List.setIfInBounds_toArray, List.set_cons_zero, List.set_cons_succ]
     refine wpAnyH_ready (rs := [3, 6]) (by kernel_rfl) (by simp) (AllReadyH.cons (o := { dst := some 25, op := .convert 31 9 (.tmp 24), type := 9, pos := "ref.go:79", after := #[{ on := 2, ground := .data }], guard := none }) rfl (fun K hK => ?_) (AllReadyH.cons (o := { dst := some 28, op := .call { callee := .value (.func 27), args := #[.tmp 27, .const (.int .u8 2)], argTypes := #[50, 5] }, type := 22, pos := "ref.go:79", after := #[{ on := 5, ground := .data }, { on := 5, ground := .chain }], guard := none }) rfl (fun K hK => ?_) AllReadyH.nil))
     ·
      have hcv := conv_back (bytO g0) A1 c1 z5 HCN1.out HSS.out
      go_simp
      clear hcv
      refine hK.out _ _ (mkS _ HBC.out) (fun hHeld2 => ?_)
      clear hK K hHeld
      have hHeld := hHeld2
      clear hHeld2
      try simp only [Act.put, List.setIfInBounds_toArray, List.set_cons_zero, List.set_cons_succ]
      refine wpAnyH_ready (rs := [6]) (by kernel_rfl) (by simp) (AllReadyH.cons (o := { dst := some 28, op := .call { callee := .value (.func 27), args := #[.tmp 27, .const (.int .u8 2)], argTypes := #[50, 5] }, type := 22, pos := "ref.go:79", after := #[{ on := 5, ground := .data }, { on := 5, ground := .chain }], guard := none }) rfl (fun K hK => ?_) AllReadyH.nil)
      go_simp
      have hc := number10_ref g1 2 z5 _ _ HG1.out
      unfold cell3 at hc
      refine hc.mono ?_
      clear hc
      rintro e z6 ⟨rfl, hb⟩
      have HBC := Lib.hid (chain HBC.out hb)
      have HFA := Lib.hid (HFA.out.on hb)
      have HVA := Lib.hid (HVA.out.on hb)
      have HMR := Lib.hid (row_on HMR.out hb)
      have HG1 := Lib.hid (HG1.out.on hb)
      clear hb HG1
      go_simp
      refine hK.out _ _ (mkS _ HBC.out) (fun hHeld2 => ?_)
      clear hK K hHeld
      have hHeld := hHeld2
      clear hHeld2
      try simp only [Act.put, List.setIfInBounds_toArray, List.set_cons_zero, List.set_cons_succ]
      refine wpAnyH_ready (rs := [9]) (by kernel_rfl) (by simp) (AllReadyH.cons (o := { dst := some 31, op := .call { callee := .value (.func 26), args := #[.tmp 30, .const (.int .i64 1)], argTypes := #[48, 3] }, type := 50, pos := "ref.go:79", after := #[{ on := 8, ground := .data }, { on := 6, ground := .chain }], guard := none }) rfl (fun K hK => ?_) AllReadyH.nil)
      go_simp
      refine (HAV1.out z6 _ _ HVA.out).mono ?_
      rintro e z9 ⟨x3, y3, rfl, hat, hb⟩
      have HBC := Lib.hid (chain HBC.out hb)
      have HFA := Lib.hid (HFA.out.on hb)
      have HVA := Lib.hid (HVA.out.on hb)
      have HMR := Lib.hid (row_on HMR.out hb)
      have HG3 := Lib.hid hat
      clear hat hb
      obtain ⟨A3, m3, c3, B3, n3, d3, rfl, rfl⟩ := HG3.out.slices
      unfold cell3
      go_simp
      refine hK.out _ _ (mkS _ HBC.out) (fun hHeld2 => ?_)
      clear hK K hHeld
      have hHeld := hHeld2
      clear hHeld2
      try simp only [Act.put, List.setIfInBounds_toArray, List.set_cons_zero, List.set_cons_succ]
      refine wpAnyH_ready (rs := [10]) (by kernel_rfl) (by simp) (AllReadyH.cons (o := { dst := some 32, op := .call { callee := .value (.func 28), args := #[.tmp 31], argTypes := #[50] }, type := 28, pos := "ref.go:79", after := #[{ on := 9, ground := .data }, { on := 9, ground := .chain }], guard := none }) rfl (fun K hK => ?_) AllReadyH.nil)
      go_simp
      have hc := HRS.out z9 _ _ HG3.out
      unfold cell3 at hc
      refine hc.mono ?_
      clear hc
      rintro e z10 ⟨C1, C2, k1, k2, rfl, hn1, hn2, hsh1, hsh2, hb⟩
      have HBC := Lib.hid (chain HBC.out hb)
      have HFA := Lib.hid (HFA.out.on hb)
      have HVA := Lib.hid (HVA.out.on hb)
      have HMR := Lib.hid (row_on HMR.out hb)
      have HG3 := Lib.hid (HG3.out.on hb)
      have HSH1 := Lib.hid hsh1
      have HSH2 := Lib.hid hsh2
      clear hb hsh1 hsh2 hn1 hn2 HG3
      go_simp
      refine hK.out _ _ (mkS _ HBC.out) (fun hHeld2 => ?_)
      clear hK K hHeld
      have hHeld := hHeld2
      clear hHeld2
      try simp only [Act.put, List.setIfInBounds_toArray, List.set_cons_zero, List.set_cons_succ]
      refine wpAnyH_take (i := 11) (oi := { dst := some 33, op := .build 30 #[(0, .tmp 25), (1, .tmp 28), (4, .tmp 32)], type := 30, pos := "ref.go:79", after := #[{ on := 3, ground := .data }, { on := 6, ground := .data }, { on := 10, ground := .data }], guard := none }) (v := ?_) rfl (by kernel_rfl) (by kernel_rfl) (by kernel_rfl) (fun _ _ _ h => h) (Or.inl ⟨by rfl, ?_⟩) hHeld ?_
      rotate_left
      ·
       intro w hSw
       clear hSw
       go_simp
       try with_reducible rfl
      try simp only [Act.put, List.setIfInBounds_toArray, List.set_cons_zero, List.set_cons_succ]
      refine wpAnyH_ready (rs := [13]) (by kernel_rfl) (by simp) (AllReadyH.cons (o := o13d) rfl (fun K hK => ?_) AllReadyH.nil)
      try rw [if_pos (by rfl)]
      refine wp_store_mid 30 (.tmp 7) (.tmp 33) rfl M 0 #[.string ⟨(bytO g0).toArray⟩, .int .u64 (nmR g1 2), .int .i64 0, .int .i64 0, .slice none 0 0, .int .i64 (smR (nmR s0 1) 1000), .slice C1 ((bytO s1).length / 16) k1, .slice C2 ((bytO s2).length / 16) k2] rfl rfl (there_row HMR.out 8 (show 8 ≤ 8 by decide)) (sz8 _ rfl) (one8 _ _ _ _ _ _ _ _ rfl rfl rfl rfl rfl rfl rfl rfl) ?_
      have HFIN := Lib.hid (fin8 (R := [.string ⟨(bytO g0).toArray⟩, .int .u64 (nmR g1 2), .int .i64 0, .int .i64 0, .slice none 0 0, .int .i64 (smR (nmR s0 1) 1000), .slice C1 ((bytO s1).length / 16) k1, .slice C2 ((bytO s2).length / 16) k2]) HMR.out (by decide) (row_setCells HMR.out (cs := _) rfl) HSH1.out HSH2.out HBC.out HMU.out)
      refine hK.out _ _ (mkS _ HFIN.out.2.2.2.2) (fun hHeld2 => ?_)
      clear hK K hHeld hHeld2
      try simp only [Act.put, List.setIfInBounds_toArray, List.set_cons_zero, List.set_cons_succ]
      refine wpAnyH_done (by kernel_rfl) ?_ _
      go_wp2_with fail
      go_meet
      exact ⟨M, C1, C2, k1, k2, rfl, HFIN.out⟩
     ·
      go_simp
      have hc := number10_ref g1 2 z5 _ _ HG1.out
      unfold cell3 at hc
      refine hc.mono ?_
      clear hc
      rintro e z6 ⟨rfl, hb⟩
      have HBC := Lib.hid (chain HBC.out hb)
      have HFA := Lib.hid (HFA.out.on hb)
      have HVA := Lib.hid (HVA.out.on hb)
      have HSS := Lib.hid (srcAt_on8 HSS.out hb)
      have HMR := Lib.hid (row_on HMR.out hb)
      have HG1 := Lib.hid (HG1.out.on hb)
      clear hb HG1
      go_simp
      refine hK.out _ _ (mkS _ HBC.out) (fun hHeld2 => ?_)
      clear hK K hHeld
      have hHeld := hHeld2
      clear hHeld2
      try simp only [Act.put, List.setIfInBounds_toArray, List.set_cons_zero, List.set_cons_succ]
      refine wpAnyH_ready (rs := [3, 9]) (by kernel_rfl) (by simp) (AllReadyH.cons (o := { dst := some 25, op := .convert 31 9 (.tmp 24), type := 9, pos := "ref.go:79", after := #[{ on := 2, ground := .data }], guard := none }) rfl (fun K hK => ?_) (AllReadyH.cons (o := { dst := some 31, op := .call { callee := .value (.func 26), args := #[.tmp 30, .const (.int .i64 1)], argTypes := #[48, 3] }, type := 50, pos := "ref.go:79", after := #[{ on := 8, ground := .data }, { on := 6, ground := .chain }], guard := none }) rfl (fun K hK => ?_) AllReadyH.nil))
      ·
       have hcv := conv_back (bytO g0) A1 c1 z6 HCN1.out HSS.out
       go_simp
       clear hcv
       refine hK.out _ _ (mkS _ HBC.out) (fun hHeld2 => ?_)
       clear hK K hHeld
       have hHeld := hHeld2
       clear hHeld2
       try simp only [Act.put, List.setIfInBounds_toArray, List.set_cons_zero, List.set_cons_succ]
       refine wpAnyH_ready (rs := [9]) (by kernel_rfl) (by simp) (AllReadyH.cons (o := { dst := some 31, op := .call { callee := .value (.func 26), args := #[.tmp 30, .const (.int .i64 1)], argTypes := #[48, 3] }, type := 50, pos := "ref.go:79", after := #[{ on := 8, ground := .data }, { on := 6, ground := .chain }], guard := none }) rfl (fun K hK => ?_) AllReadyH.nil)
       go_simp
       refine (HAV1.out z6 _ _ HVA.out).mono ?_
       rintro e z9 ⟨x3, y3, rfl, hat, hb⟩
       have HBC := Lib.hid (chain HBC.out hb)
       have HFA := Lib.hid (HFA.out.on hb)
       have HVA := Lib.hid (HVA.out.on hb)
       have HMR := Lib.hid (row_on HMR.out hb)
       have HG3 := Lib.hid hat
       clear hat hb
       obtain ⟨A3, m3, c3, B3, n3, d3, rfl, rfl⟩ := HG3.out.slices
       unfold cell3
       go_simp
       refine hK.out _ _ (mkS _ HBC.out) (fun hHeld2 => ?_)
       clear hK K hHeld
       have hHeld := hHeld2
       clear hHeld2
       try simp only [Act.put, List.setIfInBounds_toArray, List.set_cons_zero, List.set_cons_succ]
       refine wpAnyH_ready (rs := [10]) (by kernel_rfl) (by simp) (AllReadyH.cons (o := { dst := some 32, op := .call { callee := .value (.func 28), args := #[.tmp 31], argTypes := #[50] }, type := 28, pos := "ref.go:79", after := #[{ on := 9, ground := .data }, { on := 9, ground := .chain }], guard := none }) rfl (fun K hK => ?_) AllReadyH.nil)
       go_simp
       have hc := HRS.out z9 _ _ HG3.out
       unfold cell3 at hc
       refine hc.mono ?_
       clear hc
       rintro e z10 ⟨C1, C2, k1, k2, rfl, hn1, hn2, hsh1, hsh2, hb⟩
       have HBC := Lib.hid (chain HBC.out hb)
       have HFA := Lib.hid (HFA.out.on hb)
       have HVA := Lib.hid (HVA.out.on hb)
       have HMR := Lib.hid (row_on HMR.out hb)
       have HG3 := Lib.hid (HG3.out.on hb)
       have HSH1 := Lib.hid hsh1
       have HSH2 := Lib.hid hsh2
       clear hb hsh1 hsh2 hn1 hn2 HG3
       go_simp
       refine hK.out _ _ (mkS _ HBC.out) (fun hHeld2 => ?_)
       clear hK K hHeld
       have hHeld := hHeld2
       clear hHeld2
       try simp only [Act.put, List.setIfInBounds_toArray, List.set_cons_zero, List.set_cons_succ]
       refine wpAnyH_take (i := 11) (oi := { dst := some 33, op := .build 30 #[(0, .tmp 25), (1, .tmp 28), (4, .tmp 32)], type := 30, pos := "ref.go:79", after := #[{ on := 3, ground := .data }, { on := 6, ground := .data }, { on := 10, ground := .data }], guard := none }) (v := ?_) rfl (by kernel_rfl) (by kernel_rfl) (by kernel_rfl) (fun _ _ _ h => h) (Or.inl ⟨by rfl, ?_⟩) hHeld ?_
       rotate_left
       ·
        intro w hSw
        clear hSw
        go_simp
        try with_reducible rfl
       try simp only [Act.put, List.setIfInBounds_toArray, List.set_cons_zero, List.set_cons_succ]
       refine wpAnyH_ready (rs := [13]) (by kernel_rfl) (by simp) (AllReadyH.cons (o := o13d) rfl (fun K hK => ?_) AllReadyH.nil)
       try rw [if_pos (by rfl)]
       refine wp_store_mid 30 (.tmp 7) (.tmp 33) rfl M 0 #[.string ⟨(bytO g0).toArray⟩, .int .u64 (nmR g1 2), .int .i64 0, .int .i64 0, .slice none 0 0, .int .i64 (smR (nmR s0 1) 1000), .slice C1 ((bytO s1).length / 16) k1, .slice C2 ((bytO s2).length / 16) k2] rfl rfl (there_row HMR.out 8 (show 8 ≤ 8 by decide)) (sz8 _ rfl) (one8 _ _ _ _ _ _ _ _ rfl rfl rfl rfl rfl rfl rfl rfl) ?_
       have HFIN := Lib.hid (fin8 (R := [.string ⟨(bytO g0).toArray⟩, .int .u64 (nmR g1 2), .int .i64 0, .int .i64 0, .slice none 0 0, .int .i64 (smR (nmR s0 1) 1000), .slice C1 ((bytO s1).length / 16) k1, .slice C2 ((bytO s2).length / 16) k2]) HMR.out (by decide) (row_setCells HMR.out (cs := _) rfl) HSH1.out HSH2.out HBC.out HMU.out)
       refine hK.out _ _ (mkS _ HFIN.out.2.2.2.2) (fun hHeld2 => ?_)
       clear hK K hHeld hHeld2
       try simp only [Act.put, List.setIfInBounds_toArray, List.set_cons_zero, List.set_cons_succ]
       refine wpAnyH_done (by kernel_rfl) ?_ _
       go_wp2_with fail
       go_meet
       exact ⟨M, C1, C2, k1, k2, rfl, HFIN.out⟩
      ·
       go_simp
       refine (HAV1.out z6 _ _ HVA.out).mono ?_
       rintro e z9 ⟨x3, y3, rfl, hat, hb⟩
       have HBC := Lib.hid (chain HBC.out hb)
       have HFA := Lib.hid (HFA.out.on hb)
       have HVA := Lib.hid (HVA.out.on hb)
       have HSS := Lib.hid (srcAt_on8 HSS.out hb)
       have HMR := Lib.hid (row_on HMR.out hb)
       have HG3 := Lib.hid hat
       clear hat hb
       obtain ⟨A3, m3, c3, B3, n3, d3, rfl, rfl⟩ := HG3.out.slices
       unfold cell3
       go_simp
       refine hK.out _ _ (mkS _ HBC.out) (fun hHeld2 => ?_)
       clear hK K hHeld
       have hHeld := hHeld2
       clear hHeld2
       try simp only [Act.put, List.setIfInBounds_toArray, List.set_cons_zero, List.set_cons_succ]
       refine wpAnyH_ready (rs := [3, 10]) (by kernel_rfl) (by simp) (AllReadyH.cons (o := { dst := some 25, op := .convert 31 9 (.tmp 24), type := 9, pos := "ref.go:79", after := #[{ on := 2, ground := .data }], guard := none }) rfl (fun K hK => ?_) (AllReadyH.cons (o := { dst := some 32, op := .call { callee := .value (.func 28), args := #[.tmp 31], argTypes := #[50] }, type := 28, pos := "ref.go:79", after := #[{ on := 9, ground := .data }, { on := 9, ground := .chain }], guard := none }) rfl (fun K hK => ?_) AllReadyH.nil))
       ·
        have hcv := conv_back (bytO g0) A1 c1 z9 HCN1.out HSS.out
        go_simp
        clear hcv
        refine hK.out _ _ (mkS _ HBC.out) (fun hHeld2 => ?_)
        clear hK K hHeld
        have hHeld := hHeld2
        clear hHeld2
        try simp only [Act.put, List.setIfInBounds_toArray, List.set_cons_zero, List.set_cons_succ]
        refine wpAnyH_ready (rs := [10]) (by kernel_rfl) (by simp) (AllReadyH.cons (o := { dst := some 32, op := .call { callee := .value (.func 28), args := #[.tmp 31], argTypes := #[50] }, type := 28, pos := "ref.go:79", after := #[{ on := 9, ground := .data }, { on := 9, ground := .chain }], guard := none }) rfl (fun K hK => ?_) AllReadyH.nil)
        go_simp
        have hc := HRS.out z9 _ _ HG3.out
        unfold cell3 at hc
        refine hc.mono ?_
        clear hc
        rintro e z10 ⟨C1, C2, k1, k2, rfl, hn1, hn2, hsh1, hsh2, hb⟩
        have HBC := Lib.hid (chain HBC.out hb)
        have HFA := Lib.hid (HFA.out.on hb)
        have HVA := Lib.hid (HVA.out.on hb)
        have HMR := Lib.hid (row_on HMR.out hb)
        have HG3 := Lib.hid (HG3.out.on hb)
        have HSH1 := Lib.hid hsh1
        have HSH2 := Lib.hid hsh2
        clear hb hsh1 hsh2 hn1 hn2 HG3
        go_simp
        refine hK.out _ _ (mkS _ HBC.out) (fun hHeld2 => ?_)
        clear hK K hHeld
        have hHeld := hHeld2
        clear hHeld2
        try simp only [Act.put, List.setIfInBounds_toArray, List.set_cons_zero, List.set_cons_succ]
        refine wpAnyH_take (i := 11) (oi := { dst := some 33, op := .build 30 #[(0, .tmp 25), (1, .tmp 28), (4, .tmp 32)], type := 30, pos := "ref.go:79", after := #[{ on := 3, ground := .data }, { on := 6, ground := .data }, { on := 10, ground := .data }], guard := none }) (v := ?_) rfl (by kernel_rfl) (by kernel_rfl) (by kernel_rfl) (fun _ _ _ h => h) (Or.inl ⟨by rfl, ?_⟩) hHeld ?_
        rotate_left
        ·
         intro w hSw
         clear hSw
         go_simp
         try with_reducible rfl
        try simp only [Act.put, List.setIfInBounds_toArray, List.set_cons_zero, List.set_cons_succ]
        refine wpAnyH_ready (rs := [13]) (by kernel_rfl) (by simp) (AllReadyH.cons (o := o13d) rfl (fun K hK => ?_) AllReadyH.nil)
        try rw [if_pos (by rfl)]
        refine wp_store_mid 30 (.tmp 7) (.tmp 33) rfl M 0 #[.string ⟨(bytO g0).toArray⟩, .int .u64 (nmR g1 2), .int .i64 0, .int .i64 0, .slice none 0 0, .int .i64 (smR (nmR s0 1) 1000), .slice C1 ((bytO s1).length / 16) k1, .slice C2 ((bytO s2).length / 16) k2] rfl rfl (there_row HMR.out 8 (show 8 ≤ 8 by decide)) (sz8 _ rfl) (one8 _ _ _ _ _ _ _ _ rfl rfl rfl rfl rfl rfl rfl rfl) ?_
        have HFIN := Lib.hid (fin8 (R := [.string ⟨(bytO g0).toArray⟩, .int .u64 (nmR g1 2), .int .i64 0, .int .i64 0, .slice none 0 0, .int .i64 (smR (nmR s0 1) 1000), .slice C1 ((bytO s1).length / 16) k1, .slice C2 ((bytO s2).length / 16) k2]) HMR.out (by decide) (row_setCells HMR.out (cs := _) rfl) HSH1.out HSH2.out HBC.out HMU.out)
        refine hK.out _ _ (mkS _ HFIN.out.2.2.2.2) (fun hHeld2 => ?_)
        clear hK K hHeld hHeld2
        try simp only [Act.put, List.setIfInBounds_toArray, List.set_cons_zero, List.set_cons_succ]
        refine wpAnyH_done (by kernel_rfl) ?_ _
        go_wp2_with fail
        go_meet
        exact ⟨M, C1, C2, k1, k2, rfl, HFIN.out⟩
       ·
        go_simp
        have hc := HRS.out z9 _ _ HG3.out
        unfold cell3 at hc
        refine hc.mono ?_
        clear hc
        rintro e z10 ⟨C1, C2, k1, k2, rfl, hn1, hn2, hsh1, hsh2, hb⟩
        have HBC := Lib.hid (chain HBC.out hb)
        have HFA := Lib.hid (HFA.out.on hb)
        have HVA := Lib.hid (HVA.out.on hb)
        have HSS := Lib.hid (srcAt_on8 HSS.out hb)
        have HMR := Lib.hid (row_on HMR.out hb)
        have HG3 := Lib.hid (HG3.out.on hb)
        have HSH1 := Lib.hid hsh1
        have HSH2 := Lib.hid hsh2
        clear hb hsh1 hsh2 hn1 hn2 HG3
        go_simp
        refine hK.out _ _ (mkS _ HBC.out) (fun hHeld2 => ?_)
        clear hK K hHeld
        have hHeld := hHeld2
        clear hHeld2
        try simp only [Act.put, List.setIfInBounds_toArray, List.set_cons_zero, List.set_cons_succ]
        refine wpAnyH_ready (rs := [3]) (by kernel_rfl) (by simp) (AllReadyH.cons (o := { dst := some 25, op := .convert 31 9 (.tmp 24), type := 9, pos := "ref.go:79", after := #[{ on := 2, ground := .data }], guard := none }) rfl (fun K hK => ?_) AllReadyH.nil)
        have hcv := conv_back (bytO g0) A1 c1 z10 HCN1.out HSS.out
        go_simp
        clear hcv
        refine hK.out _ _ (mkS _ HBC.out) (fun hHeld2 => ?_)
        clear hK K hHeld
        have hHeld := hHeld2
        clear hHeld2
        try simp only [Act.put, List.setIfInBounds_toArray, List.set_cons_zero, List.set_cons_succ]
        refine wpAnyH_take (i := 11) (oi := { dst := some 33, op := .build 30 #[(0, .tmp 25), (1, .tmp 28), (4, .tmp 32)], type := 30, pos := "ref.go:79", after := #[{ on := 3, ground := .data }, { on := 6, ground := .data }, { on := 10, ground := .data }], guard := none }) (v := ?_) rfl (by kernel_rfl) (by kernel_rfl) (by kernel_rfl) (fun _ _ _ h => h) (Or.inl ⟨by rfl, ?_⟩) hHeld ?_
        rotate_left
        ·
         intro w hSw
         clear hSw
         go_simp
         try with_reducible rfl
        try simp only [Act.put, List.setIfInBounds_toArray, List.set_cons_zero, List.set_cons_succ]
        refine wpAnyH_ready (rs := [13]) (by kernel_rfl) (by simp) (AllReadyH.cons (o := o13d) rfl (fun K hK => ?_) AllReadyH.nil)
        try rw [if_pos (by rfl)]
        refine wp_store_mid 30 (.tmp 7) (.tmp 33) rfl M 0 #[.string ⟨(bytO g0).toArray⟩, .int .u64 (nmR g1 2), .int .i64 0, .int .i64 0, .slice none 0 0, .int .i64 (smR (nmR s0 1) 1000), .slice C1 ((bytO s1).length / 16) k1, .slice C2 ((bytO s2).length / 16) k2] rfl rfl (there_row HMR.out 8 (show 8 ≤ 8 by decide)) (sz8 _ rfl) (one8 _ _ _ _ _ _ _ _ rfl rfl rfl rfl rfl rfl rfl rfl) ?_
        have HFIN := Lib.hid (fin8 (R := [.string ⟨(bytO g0).toArray⟩, .int .u64 (nmR g1 2), .int .i64 0, .int .i64 0, .slice none 0 0, .int .i64 (smR (nmR s0 1) 1000), .slice C1 ((bytO s1).length / 16) k1, .slice C2 ((bytO s2).length / 16) k2]) HMR.out (by decide) (row_setCells HMR.out (cs := _) rfl) HSH1.out HSH2.out HBC.out HMU.out)
        refine hK.out _ _ (mkS _ HFIN.out.2.2.2.2) (fun hHeld2 => ?_)
        clear hK K hHeld hHeld2
        try simp only [Act.put, List.setIfInBounds_toArray, List.set_cons_zero, List.set_cons_succ]
        refine wpAnyH_done (by kernel_rfl) ?_ _
        go_wp2_with fail
        go_meet
        exact ⟨M, C1, C2, k1, k2, rfl, HFIN.out⟩
  case rest =>
   obtain ⟨M, C1, C2, k1, k2, rfl, hMU, hrow, hk1, hk2, hbc⟩ := hcut
   have HMR := Lib.hid hrow
   have HMU := Lib.hid hMU
   have HK1 := Lib.hid hk1
   have HK2 := Lib.hid hk2
   have HBC := Lib.hid hbc
   clear hrow hMU hk1 hk2 hbc mkS hS0 hU HVA
   go_wp2_with fail
   refine (HAF2.out _ _ _ (HFA.out.on HBC.out)).mono ?_
   rintro e p2 ⟨x2, y2, rfl, hat, hb⟩
   have HG := Lib.hid hat
   have HMR := Lib.hid (row_on HMR.out hb)
   have HK1 := Lib.hid (HK1.out.on hb)
   have HK2 := Lib.hid (HK2.out.on hb)
   have HBC := Lib.hid (chain HBC.out hb)
   obtain ⟨A2, m2, c2, B2, n2, d2, rfl, rfl⟩ := hat.slices
   clear hat hb
   unfold cell3
   go_wp2_with fail
   have hc := number10_ref g2 3 p2 _ _ HG.out
   unfold cell3 at hc
   refine hc.mono ?_
   clear hc
   rintro e q2 ⟨rfl, hb⟩
   have HMR := Lib.hid (row_on HMR.out hb)
   have HK1 := Lib.hid (HK1.out.on hb)
   have HK2 := Lib.hid (HK2.out.on hb)
   have HBC := Lib.hid (chain HBC.out hb)
   clear hb HG
   go_wp2_with fail
   refine (small10_ref (nmR g2 3) 1099511627776 (nmR_range _ _).1 (by decide) q2).mono ?_
   rintro e r2 ⟨rfl, hb⟩
   have HMR := Lib.hid (row_on HMR.out hb)
   have HK1 := Lib.hid (HK1.out.on hb)
   have HK2 := Lib.hid (HK2.out.on hb)
   have HBC := Lib.hid (chain HBC.out hb)
   clear hb
   obtain ⟨hl0, f0, f1, f2, f3, f4, f5, f6, f7⟩ := facts8 HMR.out
   obtain ⟨z0, z1, z2, z3, z4, z5, z6, z7⟩ := free8 HMR.out
   go_upto_region 7 with (fail)
   clear hl0 f0 f1 f2 f3 f4 f5 f6 f7 z0 z1 z2 z3 z4 z5 z6 z7
   generalize hW : World.setCell r2 _ _ = t2
   have hoo : ∀ b, b ≠ M → t2.heap[b]? = r2.heap[b]? := fun b hb => by rw [← hW]; exact Below.heap_setCell _ _ _ _ hb
   have HK1 := Lib.hid (shs_keep HK1.out HMR.out (show 8 < 16 by decide) hoo)
   have HK2 := Lib.hid (shs_keep HK2.out HMR.out (show 8 < 16 by decide) hoo)
   have HMR := Lib.hid (show t2.heap[M]? = some (.cells #[.string ⟨(bytO g0).toArray⟩, .int .u64 (nmR g1 2), .int .i64 (smR (nmR g2 3) 1099511627776), .int .i64 0, .slice none 0 0, .int .i64 (smR (nmR s0 1) 1000), .slice C1 ((bytO s1).length / 16) k1, .slice C2 ((bytO s2).length / 16) k2] 30 (0, 0)) by rw [← hW]; exact heap_setCell_same _ _ _ _ _ _ HMR.out)
   have HBC := Lib.hid (show Below U.heap.size U t2 by rw [← hW]; exact below_setCell HBC.out HMU.out)
   clear hoo hW
   go_wp2_with fail
   refine (HAF3.out _ _ _ (HFA.out.on HBC.out)).mono ?_
   rintro e p3 ⟨x3, y3, rfl, hat, hb⟩
   have HG := Lib.hid hat
   have HMR := Lib.hid (row_on HMR.out hb)
   have HK1 := Lib.hid (HK1.out.on hb)
   have HK2 := Lib.hid (HK2.out.on hb)
   have HBC := Lib.hid (chain HBC.out hb)
   obtain ⟨A3, m3, c3, B3, n3, d3, rfl, rfl⟩ := hat.slices
   clear hat hb
   unfold cell3
   go_wp2_with fail
   have hc := number10_ref g3 4 p3 _ _ HG.out
   unfold cell3 at hc
   refine hc.mono ?_
   clear hc
   rintro e q3 ⟨rfl, hb⟩
   have HMR := Lib.hid (row_on HMR.out hb)
   have HK1 := Lib.hid (HK1.out.on hb)
   have HK2 := Lib.hid (HK2.out.on hb)
   have HBC := Lib.hid (chain HBC.out hb)
   clear hb HG
   go_wp2_with fail
   refine (small10_ref (nmR g3 4) 1099511627776 (nmR_range _ _).1 (by decide) q3).mono ?_
   rintro e r3 ⟨rfl, hb⟩
   have HMR := Lib.hid (row_on HMR.out hb)
   have HK1 := Lib.hid (HK1.out.on hb)
   have HK2 := Lib.hid (HK2.out.on hb)
   have HBC := Lib.hid (chain HBC.out hb)
   clear hb
   obtain ⟨hl0, f0, f1, f2, f3, f4, f5, f6, f7⟩ := facts8 HMR.out
   obtain ⟨z0, z1, z2, z3, z4, z5, z6, z7⟩ := free8 HMR.out
   go_upto_region 8 with (fail)
   clear hl0 f0 f1 f2 f3 f4 f5 f6 f7 z0 z1 z2 z3 z4 z5 z6 z7
   generalize hW : World.setCell r3 _ _ = t3
   have hoo : ∀ b, b ≠ M → t3.heap[b]? = r3.heap[b]? := fun b hb => by rw [← hW]; exact Below.heap_setCell _ _ _ _ hb
   have HK1 := Lib.hid (shs_keep HK1.out HMR.out (show 8 < 16 by decide) hoo)
   have HK2 := Lib.hid (shs_keep HK2.out HMR.out (show 8 < 16 by decide) hoo)
   have HMR := Lib.hid (show t3.heap[M]? = some (.cells #[.string ⟨(bytO g0).toArray⟩, .int .u64 (nmR g1 2), .int .i64 (smR (nmR g2 3) 1099511627776), .int .i64 (smR (nmR g3 4) 1099511627776), .slice none 0 0, .int .i64 (smR (nmR s0 1) 1000), .slice C1 ((bytO s1).length / 16) k1, .slice C2 ((bytO s2).length / 16) k2] 30 (0, 0)) by rw [← hW]; exact heap_setCell_same _ _ _ _ _ _ HMR.out)
   have HBC := Lib.hid (show Below U.heap.size U t3 by rw [← hW]; exact below_setCell HBC.out HMU.out)
   clear hoo hW
   go_wp2_with fail
   refine (HAF4.out _ _ _ HFA.out _ HBC.out).mono ?_
   rintro e W0 ⟨x8, y8, rfl, hat8, hb8⟩
   obtain ⟨A8, m8, c8, B8, d8, g, off, vb, vl, rfl, rfl, hels⟩ := at_els hat8
   have HELS := Lib.hid hels
   have HMR := Lib.hid (row_on HMR.out hb8)
   have HK1 := Lib.hid (HK1.out.on hb8)
   have HK2 := Lib.hid (HK2.out.on hb8)
   have HBC := Lib.hid (chain HBC.out hb8)
   clear hat8 hels hb8 HFA HAF4
   unfold cell3
   obtain ⟨n8, hn8⟩ : ∃ n8, (kids g4).length = n8 := ⟨_, rfl⟩
   have HNK := Lib.hid hn8
   have HN8 := Lib.hid (show n8 ≤ 4900 by have := HN4.out.1; omega)
   rw [hn8]
   obtain ⟨LW, hLW⟩ : ∃ LW, W0.heap.size = LW := ⟨_, rfl⟩
   have HLW := Lib.hid hLW
   have HML := Lib.hid (show M < LW by have := (Array.getElem?_eq_some_iff.1 HMR.out).1; omega)
   clear hn8 hLW
   go_upto_region 9 with (fail)
   go_wp2_with fail
   go_loopw [9] (fun i wr => ∃ (k : Nat) (SA : Option Addr) (sc : Nat), k ≤ n8 ∧ i = .int .i64 (k : Int) ∧ RowKit.Hid (wr.heap[M]? = some (.cells #[.string ⟨(bytO g0).toArray⟩, .int .u64 (nmR g1 2), .int .i64 (smR (nmR g2 3) 1099511627776), .int .i64 (smR (nmR g3 4) 1099511627776), .slice SA k sc, .int .i64 (smR (nmR s0 1) 1000), .slice C1 ((bytO s1).length / 16) k1, .slice C2 ((bytO s2).length / 16) k2] 30 (0, 0))) ∧ RowKit.Hid (wr.ownsRow LW 22 1 (.slice SA k sc) k (uvals (((kids g4).take k).map (fun o => nmR o 5)))) ∧ RowKit.Hid (Bu M M W0 wr)) (fun i _ => n8 - (intOf i).toNat)
   case atStart => exact ⟨0, none, 0, Nat.zero_le _, rfl, HMR, Lib.hid (show W0.ownsRow LW 22 1 (.slice none 0 0) 0 (uvals []) from ⟨rfl, .inl ⟨rfl, rfl⟩⟩), Lib.hid (Bu.refl _ _ _)⟩
   case round =>
    obtain ⟨k, SA, sc, hk, rfl, RM_w, RO_w, BU_w⟩ := hrel
    by_cases hlt : k < n8
    ·
     have hki : (k : Int) < (n8 : Int) := by omega
     obtain ⟨o, ho⟩ : ∃ o, (kids g4)[k]? = some o := ⟨_, List.getElem?_eq_getElem (by rw [HNK.out]; exact hlt)⟩
     have hBB := (HELS.out.hB (fun e => by rw [e] at ho; simp at ho)).1
     subst hBB
     have hc0 := HELS.out.h0 k o ho
     have hc1 := HELS.out.h1 k o ho
     have hc2 := HELS.out.h2 k o ho
     have hat := HELS.out.hr k o ho
     obtain ⟨A2, m2, c2, B2, n2, d2, e1, e2⟩ := hat.slices
     rw [e1] at hc1 hat
     rw [e2] at hc2 hat
     obtain ⟨tz, htz⟩ : ∃ tz : Int, ((tagO o).toNat : Int) = tz := ⟨_, rfl⟩
     obtain ⟨X, hX⟩ : ∃ X, nmR o 5 = X := ⟨_, rfl⟩
     have hnum := fun (z : World) (ha : At (fun _ => True) z o (.slice A2 m2 c2) (.slice B2 n2 d2)) => number10_ref o 5 z _ _ ha
     unfold cell3 at hnum
     rw [hX, htz] at hnum
     rw [htz] at hc0
     have NUM : RowKit.Hid (∀ (z : World) (ha : At (fun _ => True) z o (.slice A2 m2 c2) (.slice B2 n2 d2)), Calls Tryz.prog 27 #[.agg #[.int .u8 tz, .slice A2 m2 c2, .slice B2 n2 d2], .int .u8 5] z fun e w' => e = .returned (.int .u64 X) ∧ Below z.heap.size z w') := Lib.hid hnum
     have HTK := Lib.hid (show ((kids g4).take (k + 1)).map (fun o => nmR o 5) = ((kids g4).take k).map (fun o => nmR o 5) ++ [X] by rw [List.take_add_one, ho, List.map_append, ← hX]; rfl)
     have HAO := Lib.hid (fun (z : World) (h : Bu M M W0 z) => bu_at hat HBC.out HMU.out h)
     have HCX := Lib.hid (And.intro hc0 (And.intro hc1 hc2))
     have mkS : ∀ z : World, Bu M M W0 z → z.rangeAt g (off + k * 3) [Value.int .u8 tz, .slice A2 m2 c2, .slice B2 n2 d2] := fun z hz => range3o (bu_cell HBC.out HMU.out hz HCX.out.1) (bu_cell HBC.out HMU.out hz HCX.out.2.1) (bu_cell HBC.out HMU.out hz HCX.out.2.2)
     clear e1 e2 htz hX hnum hat hc0 hc1 hc2 ho
     go_upto_region 12 with (fail)
     refine wp_region_held_drew (S := fun z => z.rangeAt g (off + k * 3) [Value.int .u8 tz, .slice A2 m2 c2, .slice B2 n2 d2]) (by kernel_rfl) (mkS _ (BU_w.out.trans (Bu.below (Below.refl _ _).drew))) (fun hHeld => ?_)
     generalize hD : World.drew wr = D at hHeld ⊢
     have hbD : Below wr.heap.size wr D := by rw [← hD]; exact (Below.refl _ _).drew
     clear hD
     have BU_D := Lib.hid (BU_w.out.trans (Bu.below hbD))
     have RM_D := Lib.hid (row_on RM_w.out hbD)
     have RO_D := Lib.hid (own_onB RO_w.out hbD)
     clear hbD RM_w RO_w BU_w
     refine wpAnyH_take (i := 0) (oi := { dst := some 55, op := .fieldAddr 30 (.tmp 7) 3, type := 0, pos := "ref.go:84", after := #[], guard := none }) (v := ?_) rfl (by kernel_rfl) (by kernel_rfl) (by kernel_rfl) (fun _ _ _ h => h) (Or.inl ⟨by rfl, ?_⟩) hHeld ?_
     rotate_left
     ·
      intro w hSw
      clear hSw
      go_simp
      try with_reducible rfl
     try simp only [Act.put, List.setIfInBounds_toArray, List.set_cons_zero, List.set_cons_succ]
     refine wpAnyH_take (i := 2) (oi := { dst := some 57, op := .move (.tmp 8), type := 48, pos := "ref.go:84", after := #[], guard := none }) (v := ?_) rfl (by kernel_rfl) (by kernel_rfl) (by kernel_rfl) (fun _ _ _ h => h) (Or.inl ⟨by rfl, ?_⟩) hHeld ?_
     rotate_left
     ·
      intro w hSw
      clear hSw
      go_simp
      try with_reducible rfl
     try simp only [Act.put, List.setIfInBounds_toArray, List.set_cons_zero, List.set_cons_succ]
     refine wpAnyH_take (i := 3) (oi := { dst := some 58, op := .move (.tmp 9), type := 3, pos := "ref.go:84", after := #[], guard := none }) (v := ?_) rfl (by kernel_rfl) (by kernel_rfl) (by kernel_rfl) (fun _ _ _ h => h) (Or.inl ⟨by rfl, ?_⟩) hHeld ?_
     rotate_left
     ·
      intro w hSw
      clear hSw
      go_simp
      try with_reducible rfl
     try simp only [Act.put, List.setIfInBounds_toArray, List.set_cons_zero, List.set_cons_succ]
     refine wpAnyH_take (i := 4) (oi := { dst := some 59, op := .indexAddr 48 (.tmp 57) (.tmp 58), type := 0, pos := "ref.go:84", after := #[{ on := 2, ground := .data }, { on := 3, ground := .data }], guard := none }) (v := ?_) rfl (by kernel_rfl) (by kernel_rfl) (by kernel_rfl) (fun _ _ _ h => h) (Or.inl ⟨by rfl, ?_⟩) hHeld ?_
     rotate_left
     ·
      intro w hSw
      clear hSw
      go_simp
      try with_reducible rfl
     try simp only [Act.put, List.setIfInBounds_toArray, List.set_cons_zero, List.set_cons_succ]
     refine wpAnyH_take (i := 5) (oi := { dst := some 60, op := .load 50 (.tmp 59), type := 50, pos := "ref.go:84", after := #[{ on := 4, ground := .data }], guard := none }) (v := .agg ([Value.int .u8 tz, .slice A2 m2 c2, .slice B2 n2 d2]).toArray) rfl (by kernel_rfl) (by kernel_rfl) (by kernel_rfl) (fun _ _ _ h => h) (yieldsIf_load_mid (by rfl) _ _ rfl _ _ rfl [Value.int .u8 tz, .slice A2 m2 c2, .slice B2 n2 d2] _ (fun w hSw => hSw) Tryz.underlying50 rfl (sz3o _ _ _)) hHeld ?_
     try simp only [Act.put, List.setIfInBounds_toArray, List.set_cons_zero, List.set_cons_succ]
     refine wpAnyH_ready (rs := [1, 6]) (by kernel_rfl) (by simp) (AllReadyH.cons (o := { dst := some 56, op := .load 25 (.tmp 55), type := 25, pos := "ref.go:84", after := #[{ on := 0, ground := .data }], guard := none }) rfl (fun K hK => ?_) (AllReadyH.cons (o := { dst := some 61, op := .call { callee := .value (.func 27), args := #[.tmp 60, .const (.int .u8 5)], argTypes := #[50, 5] }, type := 22, pos := "ref.go:84", after := #[{ on := 5, ground := .data }], guard := none }) rfl (fun K hK => ?_) AllReadyH.nil))
     ·
      obtain ⟨_, _, _, _, _, hc5, _⟩ := facts8 RM_D.out
      go_simp
      clear hc5
      refine hK.out _ _ (mkS _ BU_D.out) (fun hHeld2 => ?_)
      clear hK K hHeld
      have hHeld := hHeld2
      clear hHeld2
      try simp only [Act.put, List.setIfInBounds_toArray, List.set_cons_zero, List.set_cons_succ]
      refine wpAnyH_ready (rs := [6]) (by kernel_rfl) (by simp) (AllReadyH.cons (o := { dst := some 61, op := .call { callee := .value (.func 27), args := #[.tmp 60, .const (.int .u8 5)], argTypes := #[50, 5] }, type := 22, pos := "ref.go:84", after := #[{ on := 5, ground := .data }], guard := none }) rfl (fun K hK => ?_) AllReadyH.nil)
      go_simp
      refine (NUM.out D (HAO.out D BU_D.out)).mono ?_
      rintro e y2 ⟨rfl, hb⟩
      have BU_y2 := Lib.hid (BU_D.out.trans (Bu.below hb))
      have RM_y2 := Lib.hid (row_on RM_D.out hb)
      have RO_y2 := Lib.hid (own_onB RO_D.out hb)
      clear hb
      go_simp
      refine hK.out _ _ (mkS _ BU_y2.out) (fun hHeld2 => ?_)
      clear hK K hHeld
      have hHeld := hHeld2
      clear hHeld2
      try simp only [Act.put, List.setIfInBounds_toArray, List.set_cons_zero, List.set_cons_succ]
      refine wpAnyH_ready (rs := [7]) (by kernel_rfl) (by simp) (AllReadyH.cons (o := { dst := some 62, op := .buildSlice 25 1 #[(0, .tmp 61)], type := 25, pos := "ref.go:84", after := #[{ on := 6, ground := .data }], guard := none }) rfl (fun K hK => ?_) AllReadyH.nil)
      go_simp
      generalize hV : World.alloc y2 _ = y3
      have hb : Below y2.heap.size y2 y3 := by rw [← hV]; exact below_new _ _
      have R9 := Lib.hid (show y3.heap[y2.heap.size]? = some (.cells #[.int .u64 X] 22 (0, 0)) by rw [← hV]; exact heap_alloc_new _ _)
      have BU_y3 := Lib.hid (BU_y2.out.trans (Bu.below hb))
      have RM_y3 := Lib.hid (row_on RM_y2.out hb)
      have RO_y3 := Lib.hid (own_onB RO_y2.out hb)
      clear hV hb
      refine hK.out _ _ (mkS _ BU_y3.out) (fun hHeld2 => ?_)
      clear hK K hHeld
      have hHeld := hHeld2
      clear hHeld2
      try simp only [Act.put, List.setIfInBounds_toArray, List.set_cons_zero, List.set_cons_succ]
      refine wpAnyH_ready (rs := [8]) (by kernel_rfl) (by simp) (AllReadyH.cons (o := { dst := some 63, op := .call { callee := .builtin .append, args := #[.tmp 56, .tmp 62], argTypes := #[25, 25] }, type := 25, pos := "ref.go:84", after := #[{ on := 1, ground := .data }, { on := 7, ground := .data }, { on := 6, ground := .chain }], guard := none }) rfl (fun K hK => ?_) AllReadyH.nil)
      try rw [if_pos (by rfl)]
      refine wp_append_u (.tmp 56) (.tmp 62) rfl LW _ _ _ rfl RO_y3.out _ X rfl (cell_of_one R9.out) (by have := HN8.out; omega) (by have h1 := BU_y3.out.size; have h2 := HLW.out; omega) ?_
      intro v' y4 hown hgr
      obtain ⟨A3, c3, rfl⟩ := own_open hown
      have OW := Lib.hid hown
      have hbk : ∀ k1, (Value.slice SA k sc).ownBlock = some k1 → LW ≤ k1 := fun k1 e => (own_block RO_y3.out e).1
      have RM_y4 := Lib.hid ((hgr.block M (Array.getElem?_eq_some_iff.1 RM_y3.out).1 (fun e => by have := hbk M e.symm; have := HML.out; omega)).trans RM_y3.out)
      have BU_y4 := Lib.hid (BU_y3.out.own hgr (fun k1 e => by rw [HLW.out]; exact hbk k1 e))
      clear hown hgr hbk
      refine hK.out _ _ (mkS _ BU_y4.out) (fun hHeld2 => ?_)
      clear hK K hHeld
      have hHeld := hHeld2
      clear hHeld2
      try simp only [Act.put, List.setIfInBounds_toArray, List.set_cons_zero, List.set_cons_succ]
      refine wpAnyH_take (i := 9) (oi := { dst := some 64, op := .fieldAddr 30 (.tmp 7) 3, type := 0, pos := "ref.go:84", after := #[{ on := 0, ground := .phase }, { on := 1, ground := .phase }, { on := 2, ground := .phase }, { on := 3, ground := .phase }, { on := 4, ground := .phase }, { on := 5, ground := .phase }, { on := 6, ground := .phase }, { on := 7, ground := .phase }, { on := 8, ground := .phase }], guard := none }) (v := ?_) rfl (by kernel_rfl) (by kernel_rfl) (by kernel_rfl) (fun _ _ _ h => h) (Or.inl ⟨by rfl, ?_⟩) hHeld ?_
      rotate_left
      ·
       intro w hSw
       clear hSw
       go_simp
       try with_reducible rfl
      try simp only [Act.put, List.setIfInBounds_toArray, List.set_cons_zero, List.set_cons_succ]
      refine wpAnyH_ready (rs := [10]) (by kernel_rfl) (by simp) (AllReadyH.cons (o := { dst := none, op := .store 25 (.tmp 64) (.tmp 63), type := 0, pos := "ref.go:84", after := #[{ on := 9, ground := .data }, { on := 8, ground := .data }, { on := 8, ground := .chain }, { on := 0, ground := .phase }, { on := 1, ground := .phase }, { on := 2, ground := .phase }, { on := 3, ground := .phase }, { on := 4, ground := .phase }, { on := 5, ground := .phase }, { on := 6, ground := .phase }, { on := 7, ground := .phase }, { on := 8, ground := .phase }], guard := none }) rfl (fun K hK => ?_) AllReadyH.nil)
      have hc10 : y4.frozen? ⟨M, 4, none⟩ = false := frozen_of_row _ _ _ _ _ RM_y4.out
      have hd10 : y4.cell? ⟨M, 4, none⟩ = some (.slice SA k sc) := cell_of_row _ _ 4 _ _ _ RM_y4.out
      have hz10 := (Array.getElem?_eq_some_iff.1 RM_y4.out).1
      go_simp
      generalize hV : World.setCell y4 _ _ = y5
      have BU_y5 := Lib.hid (show Bu M M W0 y5 by rw [← hV]; exact BU_y4.out.trans (Bu.set _ _ _))
      have RM_y5 := Lib.hid (show y5.heap[M]? = some (.cells #[.string ⟨(bytO g0).toArray⟩, .int .u64 (nmR g1 2), .int .i64 (smR (nmR g2 3) 1099511627776), .int .i64 (smR (nmR g3 4) 1099511627776), .slice A3 (k + 1) c3, .int .i64 (smR (nmR s0 1) 1000), .slice C1 ((bytO s1).length / 16) k1, .slice C2 ((bytO s2).length / 16) k2] 30 (0, 0)) by rw [← hV]; exact heap_setCell_same _ _ _ _ _ _ RM_y4.out)
      have RO_y5 := Lib.hid (show y5.ownsRow LW 22 1 (.slice A3 (k + 1) c3) (k + 1) (uvals (((kids g4).take (k + 1)).map (fun o => nmR o 5))) by
       rw [← hV, HTK.out, uvals_snoc]
       exact OW.out.kept (grown_setO _ _ _ _) (.inr (fun e => by have := (own_block OW.out e).1; have := HML.out; omega)))
      clear hV hc10 hd10 hz10
      refine hK.out _ _ (mkS _ BU_y5.out) (fun hHeld2 => ?_)
      clear hK K hHeld
      have hHeld := hHeld2
      clear hHeld2
      try simp only [Act.put, List.setIfInBounds_toArray, List.set_cons_zero, List.set_cons_succ]
      refine wpAnyH_done (by kernel_rfl) ?_ _
      clear mkS hHeld
      have hn5 := HN8.out
      go_wp2_with fail
      exact ⟨⟨k + 1, A3, c3, by omega, by go_num, RM_y5, RO_y5, BU_y5⟩, by simp [intOf]; omega⟩
     ·
      go_simp
      refine (NUM.out D (HAO.out D BU_D.out)).mono ?_
      rintro e y6 ⟨rfl, hb⟩
      have BU_y6 := Lib.hid (BU_D.out.trans (Bu.below hb))
      have RM_y6 := Lib.hid (row_on RM_D.out hb)
      have RO_y6 := Lib.hid (own_onB RO_D.out hb)
      clear hb
      go_simp
      refine hK.out _ _ (mkS _ BU_y6.out) (fun hHeld2 => ?_)
      clear hK K hHeld
      have hHeld := hHeld2
      clear hHeld2
      try simp only [Act.put, List.setIfInBounds_toArray, List.set_cons_zero, List.set_cons_succ]
      refine wpAnyH_ready (rs := [1, 7]) (by kernel_rfl) (by simp) (AllReadyH.cons (o := { dst := some 56, op := .load 25 (.tmp 55), type := 25, pos := "ref.go:84", after := #[{ on := 0, ground := .data }], guard := none }) rfl (fun K hK => ?_) (AllReadyH.cons (o := { dst := some 62, op := .buildSlice 25 1 #[(0, .tmp 61)], type := 25, pos := "ref.go:84", after := #[{ on := 6, ground := .data }], guard := none }) rfl (fun K hK => ?_) AllReadyH.nil))
      ·
       obtain ⟨_, _, _, _, _, hc5, _⟩ := facts8 RM_y6.out
       go_simp
       clear hc5
       refine hK.out _ _ (mkS _ BU_y6.out) (fun hHeld2 => ?_)
       clear hK K hHeld
       have hHeld := hHeld2
       clear hHeld2
       try simp only [Act.put, List.setIfInBounds_toArray, List.set_cons_zero, List.set_cons_succ]
       refine wpAnyH_ready (rs := [7]) (by kernel_rfl) (by simp) (AllReadyH.cons (o := { dst := some 62, op := .buildSlice 25 1 #[(0, .tmp 61)], type := 25, pos := "ref.go:84", after := #[{ on := 6, ground := .data }], guard := none }) rfl (fun K hK => ?_) AllReadyH.nil)
       go_simp
       generalize hV : World.alloc y6 _ = y8
       have hb : Below y6.heap.size y6 y8 := by rw [← hV]; exact below_new _ _
       have R9 := Lib.hid (show y8.heap[y6.heap.size]? = some (.cells #[.int .u64 X] 22 (0, 0)) by rw [← hV]; exact heap_alloc_new _ _)
       have BU_y8 := Lib.hid (BU_y6.out.trans (Bu.below hb))
       have RM_y8 := Lib.hid (row_on RM_y6.out hb)
       have RO_y8 := Lib.hid (own_onB RO_y6.out hb)
       clear hV hb
       refine hK.out _ _ (mkS _ BU_y8.out) (fun hHeld2 => ?_)
       clear hK K hHeld
       have hHeld := hHeld2
       clear hHeld2
       try simp only [Act.put, List.setIfInBounds_toArray, List.set_cons_zero, List.set_cons_succ]
       refine wpAnyH_ready (rs := [8]) (by kernel_rfl) (by simp) (AllReadyH.cons (o := { dst := some 63, op := .call { callee := .builtin .append, args := #[.tmp 56, .tmp 62], argTypes := #[25, 25] }, type := 25, pos := "ref.go:84", after := #[{ on := 1, ground := .data }, { on := 7, ground := .data }, { on := 6, ground := .chain }], guard := none }) rfl (fun K hK => ?_) AllReadyH.nil)
       try rw [if_pos (by rfl)]
       refine wp_append_u (.tmp 56) (.tmp 62) rfl LW _ _ _ rfl RO_y8.out _ X rfl (cell_of_one R9.out) (by have := HN8.out; omega) (by have h1 := BU_y8.out.size; have h2 := HLW.out; omega) ?_
       intro v' y9 hown hgr
       obtain ⟨A3, c3, rfl⟩ := own_open hown
       have OW := Lib.hid hown
       have hbk : ∀ k1, (Value.slice SA k sc).ownBlock = some k1 → LW ≤ k1 := fun k1 e => (own_block RO_y8.out e).1
       have RM_y9 := Lib.hid ((hgr.block M (Array.getElem?_eq_some_iff.1 RM_y8.out).1 (fun e => by have := hbk M e.symm; have := HML.out; omega)).trans RM_y8.out)
       have BU_y9 := Lib.hid (BU_y8.out.own hgr (fun k1 e => by rw [HLW.out]; exact hbk k1 e))
       clear hown hgr hbk
       refine hK.out _ _ (mkS _ BU_y9.out) (fun hHeld2 => ?_)
       clear hK K hHeld
       have hHeld := hHeld2
       clear hHeld2
       try simp only [Act.put, List.setIfInBounds_toArray, List.set_cons_zero, List.set_cons_succ]
       refine wpAnyH_take (i := 9) (oi := { dst := some 64, op := .fieldAddr 30 (.tmp 7) 3, type := 0, pos := "ref.go:84", after := #[{ on := 0, ground := .phase }, { on := 1, ground := .phase }, { on := 2, ground := .phase }, { on := 3, ground := .phase }, { on := 4, ground := .phase }, { on := 5, ground := .phase }, { on := 6, ground := .phase }, { on := 7, ground := .phase }, { on := 8, ground := .phase }], guard := none }) (v := ?_) rfl (by kernel_rfl) (by kernel_rfl) (by kernel_rfl) (fun _ _ _ h => h) (Or.inl ⟨by rfl, ?_⟩) hHeld ?_
       rotate_left
       ·
        intro w hSw
        clear hSw
        go_simp
        try with_reducible rfl
       try simp only [Act.put, List.setIfInBounds_toArray, List.set_cons_zero, List.set_cons_succ]
       refine wpAnyH_ready (rs := [10]) (by kernel_rfl) (by simp) (AllReadyH.cons (o := { dst := none, op := .store 25 (.tmp 64) (.tmp 63), type := 0, pos := "ref.go:84", after := #[{ on := 9, ground := .data }, { on := 8, ground := .data }, { on := 8, ground := .chain }, { on := 0, ground := .phase }, { on := 1, ground := .phase }, { on := 2, ground := .phase }, { on := 3, ground := .phase }, { on := 4, ground := .phase }, { on := 5, ground := .phase }, { on := 6, ground := .phase }, { on := 7, ground := .phase }, { on := 8, ground := .phase }], guard := none }) rfl (fun K hK => ?_) AllReadyH.nil)
       have hc10 : y9.frozen? ⟨M, 4, none⟩ = false := frozen_of_row _ _ _ _ _ RM_y9.out
       have hd10 : y9.cell? ⟨M, 4, none⟩ = some (.slice SA k sc) := cell_of_row _ _ 4 _ _ _ RM_y9.out
       have hz10 := (Array.getElem?_eq_some_iff.1 RM_y9.out).1
       go_simp
       generalize hV : World.setCell y9 _ _ = y10
       have BU_y10 := Lib.hid (show Bu M M W0 y10 by rw [← hV]; exact BU_y9.out.trans (Bu.set _ _ _))
       have RM_y10 := Lib.hid (show y10.heap[M]? = some (.cells #[.string ⟨(bytO g0).toArray⟩, .int .u64 (nmR g1 2), .int .i64 (smR (nmR g2 3) 1099511627776), .int .i64 (smR (nmR g3 4) 1099511627776), .slice A3 (k + 1) c3, .int .i64 (smR (nmR s0 1) 1000), .slice C1 ((bytO s1).length / 16) k1, .slice C2 ((bytO s2).length / 16) k2] 30 (0, 0)) by rw [← hV]; exact heap_setCell_same _ _ _ _ _ _ RM_y9.out)
       have RO_y10 := Lib.hid (show y10.ownsRow LW 22 1 (.slice A3 (k + 1) c3) (k + 1) (uvals (((kids g4).take (k + 1)).map (fun o => nmR o 5))) by
        rw [← hV, HTK.out, uvals_snoc]
        exact OW.out.kept (grown_setO _ _ _ _) (.inr (fun e => by have := (own_block OW.out e).1; have := HML.out; omega)))
       clear hV hc10 hd10 hz10
       refine hK.out _ _ (mkS _ BU_y10.out) (fun hHeld2 => ?_)
       clear hK K hHeld
       have hHeld := hHeld2
       clear hHeld2
       try simp only [Act.put, List.setIfInBounds_toArray, List.set_cons_zero, List.set_cons_succ]
       refine wpAnyH_done (by kernel_rfl) ?_ _
       clear mkS hHeld
       have hn5 := HN8.out
       go_wp2_with fail
       exact ⟨⟨k + 1, A3, c3, by omega, by go_num, RM_y10, RO_y10, BU_y10⟩, by simp [intOf]; omega⟩
      ·
       go_simp
       generalize hV : World.alloc y6 _ = y11
       have hb : Below y6.heap.size y6 y11 := by rw [← hV]; exact below_new _ _
       have R9 := Lib.hid (show y11.heap[y6.heap.size]? = some (.cells #[.int .u64 X] 22 (0, 0)) by rw [← hV]; exact heap_alloc_new _ _)
       have BU_y11 := Lib.hid (BU_y6.out.trans (Bu.below hb))
       have RM_y11 := Lib.hid (row_on RM_y6.out hb)
       have RO_y11 := Lib.hid (own_onB RO_y6.out hb)
       clear hV hb
       refine hK.out _ _ (mkS _ BU_y11.out) (fun hHeld2 => ?_)
       clear hK K hHeld
       have hHeld := hHeld2
       clear hHeld2
       try simp only [Act.put, List.setIfInBounds_toArray, List.set_cons_zero, List.set_cons_succ]
       refine wpAnyH_ready (rs := [1]) (by kernel_rfl) (by simp) (AllReadyH.cons (o := { dst := some 56, op := .load 25 (.tmp 55), type := 25, pos := "ref.go:84", after := #[{ on := 0, ground := .data }], guard := none }) rfl (fun K hK => ?_) AllReadyH.nil)
       obtain ⟨_, _, _, _, _, hc5, _⟩ := facts8 RM_y11.out
       go_simp
       clear hc5
       refine hK.out _ _ (mkS _ BU_y11.out) (fun hHeld2 => ?_)
       clear hK K hHeld
       have hHeld := hHeld2
       clear hHeld2
       try simp only [Act.put, List.setIfInBounds_toArray, List.set_cons_zero, List.set_cons_succ]
       refine wpAnyH_ready (rs := [8]) (by kernel_rfl) (by simp) (AllReadyH.cons (o := { dst := some 63, op := .call { callee := .builtin .append, args := #[.tmp 56, .tmp 62], argTypes := #[25, 25] }, type := 25, pos := "ref.go:84", after := #[{ on := 1, ground := .data }, { on := 7, ground := .data }, { on := 6, ground := .chain }], guard := none }) rfl (fun K hK => ?_) AllReadyH.nil)
       try rw [if_pos (by rfl)]
       refine wp_append_u (.tmp 56) (.tmp 62) rfl LW _ _ _ rfl RO_y11.out _ X rfl (cell_of_one R9.out) (by have := HN8.out; omega) (by have h1 := BU_y11.out.size; have h2 := HLW.out; omega) ?_
       intro v' y13 hown hgr
       obtain ⟨A3, c3, rfl⟩ := own_open hown
       have OW := Lib.hid hown
       have hbk : ∀ k1, (Value.slice SA k sc).ownBlock = some k1 → LW ≤ k1 := fun k1 e => (own_block RO_y11.out e).1
       have RM_y13 := Lib.hid ((hgr.block M (Array.getElem?_eq_some_iff.1 RM_y11.out).1 (fun e => by have := hbk M e.symm; have := HML.out; omega)).trans RM_y11.out)
       have BU_y13 := Lib.hid (BU_y11.out.own hgr (fun k1 e => by rw [HLW.out]; exact hbk k1 e))
       clear hown hgr hbk
       refine hK.out _ _ (mkS _ BU_y13.out) (fun hHeld2 => ?_)
       clear hK K hHeld
       have hHeld := hHeld2
       clear hHeld2
       try simp only [Act.put, List.setIfInBounds_toArray, List.set_cons_zero, List.set_cons_succ]
       refine wpAnyH_take (i := 9) (oi := { dst := some 64, op := .fieldAddr 30 (.tmp 7) 3, type := 0, pos := "ref.go:84", after := #[{ on := 0, ground := .phase }, { on := 1, ground := .phase }, { on := 2, ground := .phase }, { on := 3, ground := .phase }, { on := 4, ground := .phase }, { on := 5, ground := .phase }, { on := 6, ground := .phase }, { on := 7, ground := .phase }, { on := 8, ground := .phase }], guard := none }) (v := ?_) rfl (by kernel_rfl) (by kernel_rfl) (by kernel_rfl) (fun _ _ _ h => h) (Or.inl ⟨by rfl, ?_⟩) hHeld ?_
       rotate_left
       ·
        intro w hSw
        clear hSw
        go_simp
        try with_reducible rfl
       try simp only [Act.put, List.setIfInBounds_toArray, List.set_cons_zero, List.set_cons_succ]
       refine wpAnyH_ready (rs := [10]) (by kernel_rfl) (by simp) (AllReadyH.cons (o := { dst := none, op := .store 25 (.tmp 64) (.tmp 63), type := 0, pos := "ref.go:84", after := #[{ on := 9, ground := .data }, { on := 8, ground := .data }, { on := 8, ground := .chain }, { on := 0, ground := .phase }, { on := 1, ground := .phase }, { on := 2, ground := .phase }, { on := 3, ground := .phase }, { on := 4, ground := .phase }, { on := 5, ground := .phase }, { on := 6, ground := .phase }, { on := 7, ground := .phase }, { on := 8, ground := .phase }], guard := none }) rfl (fun K hK => ?_) AllReadyH.nil)
       have hc10 : y13.frozen? ⟨M, 4, none⟩ = false := frozen_of_row _ _ _ _ _ RM_y13.out
       have hd10 : y13.cell? ⟨M, 4, none⟩ = some (.slice SA k sc) := cell_of_row _ _ 4 _ _ _ RM_y13.out
       have hz10 := (Array.getElem?_eq_some_iff.1 RM_y13.out).1
       go_simp
       generalize hV : World.setCell y13 _ _ = y14
       have BU_y14 := Lib.hid (show Bu M M W0 y14 by rw [← hV]; exact BU_y13.out.trans (Bu.set _ _ _))
       have RM_y14 := Lib.hid (show y14.heap[M]? = some (.cells #[.string ⟨(bytO g0).toArray⟩, .int .u64 (nmR g1 2), .int .i64 (smR (nmR g2 3) 1099511627776), .int .i64 (smR (nmR g3 4) 1099511627776), .slice A3 (k + 1) c3, .int .i64 (smR (nmR s0 1) 1000), .slice C1 ((bytO s1).length / 16) k1, .slice C2 ((bytO s2).length / 16) k2] 30 (0, 0)) by rw [← hV]; exact heap_setCell_same _ _ _ _ _ _ RM_y13.out)
       have RO_y14 := Lib.hid (show y14.ownsRow LW 22 1 (.slice A3 (k + 1) c3) (k + 1) (uvals (((kids g4).take (k + 1)).map (fun o => nmR o 5))) by
        rw [← hV, HTK.out, uvals_snoc]
        exact OW.out.kept (grown_setO _ _ _ _) (.inr (fun e => by have := (own_block OW.out e).1; have := HML.out; omega)))
       clear hV hc10 hd10 hz10
       refine hK.out _ _ (mkS _ BU_y14.out) (fun hHeld2 => ?_)
       clear hK K hHeld
       have hHeld := hHeld2
       clear hHeld2
       try simp only [Act.put, List.setIfInBounds_toArray, List.set_cons_zero, List.set_cons_succ]
       refine wpAnyH_done (by kernel_rfl) ?_ _
       clear mkS hHeld
       have hn5 := HN8.out
       go_wp2_with fail
       exact ⟨⟨k + 1, A3, c3, by omega, by go_num, RM_y14, RO_y14, BU_y14⟩, by simp [intOf]; omega⟩
    ·
     have hkk : k = n8 := by omega
     subst hkk
     have hge : ¬ (k : Int) < (k : Int) := by omega
     have htk : (kids g4).take k = kids g4 := List.take_of_length_le (by rw [HNK.out]; exact Nat.le_refl _)
     have hlx : ((kids g4).map (fun o => nmR o 5)).length = k := by rw [List.length_map]; exact HNK.out
     have hro := RO_w.out
     rw [htk] at hro
     have hnum : Nums SA ((kids g4).map (fun o => nmR o 5)) wr := by
      obtain ⟨A', c', e, _, hn⟩ := nums_own (v := .slice SA k sc) (by rw [hlx]; exact hro)
      injection e with e1 e2 e3
      subst e1
      exact hn
     have HSB := Lib.hid (fun (g o : Nat) (e : SA = some ⟨g, o, none⟩) => show LW ≤ g from (own_block hro (by rw [e]; rfl)).1)
     obtain ⟨p, hp⟩ : ∃ p : Mp, p = ⟨SA, sc, C1, k1, C2, k2⟩ := ⟨_, rfl⟩
     have hcs : Shs C1 (chO (bytO s1)) wr ∧ Shs C2 (chO (bytO s2)) wr := ⟨(shs_bu1 HK1.out HMR.out (show 8 < 16 by decide) BU_w.out), (shs_bu1 HK2.out HMR.out (show 8 < 16 by decide) BU_w.out)⟩
     have HAT := Lib.hid (show RlAt L p wr by
      rw [HLL.out, hp]
      have h4 := HN4.out
      exact ⟨hnum, hcs.1, hcs.2, by show ((kids g4).map (fun o => nmR o 5)).length ≤ _; rw [List.length_map]; omega, by show (chO (bytO s1)).length ≤ _; rw [chO_len]; omega, by show (chO (bytO s2)).length ≤ _; rw [chO_len]; omega⟩)
     have HROW := Lib.hid (show wr.heap[M]? = some (.cells (rlC L p) 30 (0, 0)) by
      rw [HLL.out, hp]
      unfold rlC
      dsimp only
      rw [hlx, chO_len, chO_len]
      exact RM_w.out)
     have HSB2 := Lib.hid (show ∀ g o, p.SA = some ⟨g, o, none⟩ → LW ≤ g by rw [hp]; exact HSB.out)
     have HZ := Lib.hid (show L.iss.size ≤ maxLen by
      rw [HLL.out]
      have h4 := HN4.out.2.1
      show (bytO g0).toArray.size ≤ maxLen
      rw [List.size_toArray]
      unfold maxLen
      omega)
     have HB9 := Lib.hid (BU_w.out.under HBC.out (HBC.out.size) HMU.out HMU.out)
     have HRW := Lib.hid (row_on HRU.out HB9.out)
     have HBW := Lib.hid (chain HBU.out HB9.out)
     have HUL := Lib.hid (show w.heap.size < LW by have h1 := (Array.getElem?_eq_some_iff.1 HRU.out).1; have h2 := HBC.out.size; have h3 := HLW.out; omega)
     clear hge htk hlx hro hnum hcs RM_w RO_w BU_w HK1 HK2 HMR HELS HLL HN4 HNK HSB hp HML
     have hck := fun (V : World) (hb : Below wr.heap.size wr V) => lchk_ref L p V HZ.out (HAT.out.on hb).ser
     have hva := fun (h0 : rvC L = 0) (V : World) (hb : Below wr.heap.size wr V) => whole_ref L p (HWF.out.fit h0) V (HAT.out.on hb)
     have hpt := fun (h0 : rvC L = 0) (V : World) (x y : Value) (hat : At (fun _ => True) V (rlV L) x y) => rput_all 5000 (rlV L) (by have a := fit_ck (HWF.out.fit h0); have b := cnt_enc (rlV L); omega) (Nat.le_refl _) (by have a := fit_ck (HWF.out.fit h0); have b := siz_eq (rlV L); omega) V x y hat
     have hln := fun (h0 : rvC L = 0) => (show (enc (rlV L)).length ≤ 1000000 by have a := fit_ck (HWF.out.fit h0); omega)
     obtain ⟨oo, hoo⟩ : ∃ oo, rlV L = oo := ⟨_, rfl⟩
     obtain ⟨E, hE⟩ : ∃ E, rvC L = E := ⟨_, rfl⟩
     rw [hoo] at hva hpt hln HRES1
     rw [hE] at hck hva hpt hln HRES1
     unfold RpPost at hpt
     have HROW2 := HROW
     have HRLC := Lib.hid (show rlC L p = #[.string L.iss, .int .u64 L.num, .int .i64 L.fr, .int .i64 L.tt, .slice p.SA L.ser.length p.sc, .int .i64 L.sg.idx, .slice p.CA L.sg.cs.length p.cc, .slice p.PA L.sg.ps.length p.pc] from rfl)
     unfold rlC at hck hva HROW2
     obtain ⟨c0, g0⟩ : ∃ c : Value, .string L.iss = c := ⟨_, rfl⟩
     obtain ⟨c1, g1⟩ : ∃ c : Value, .int .u64 L.num = c := ⟨_, rfl⟩
     obtain ⟨c2, g2⟩ : ∃ c : Value, .int .i64 L.fr = c := ⟨_, rfl⟩
     obtain ⟨c3, g3⟩ : ∃ c : Value, .int .i64 L.tt = c := ⟨_, rfl⟩
     obtain ⟨c4, g4⟩ : ∃ c : Value, .slice p.SA L.ser.length p.sc = c := ⟨_, rfl⟩
     obtain ⟨c5, g5⟩ : ∃ c : Value, .int .i64 L.sg.idx = c := ⟨_, rfl⟩
     obtain ⟨c6, g6⟩ : ∃ c : Value, .slice p.CA L.sg.cs.length p.cc = c := ⟨_, rfl⟩
     obtain ⟨c7, g7⟩ : ∃ c : Value, .slice p.PA L.sg.ps.length p.pc = c := ⟨_, rfl⟩
     rw [g0, g1, g2, g3, g4, g5, g6, g7] at hck hva HROW2 HRLC
     have HCK := Lib.hid hck
     have HVA := Lib.hid hva
     have HPT := Lib.hid hpt
     have HLN := Lib.hid hln
     clear hck hva hpt hln hoo hE g0 g1 g2 g3 g4 g5 g6 g7 HZ HWF
     obtain ⟨hl1, p0, p1, p2, p3, p4, p5, p6, p7⟩ := facts8 HROW2.out
     go_wp2_with fail
     refine (HCK.out wr (Below.refl _ _)).mono ?_
     rintro e v1 ⟨rfl, hb1⟩
     have HR1 := Lib.hid (row_on HRW.out hb1)
     have HB1 := Lib.hid (chain HBW.out hb1)
     have HM1 := Lib.hid (row_on HROW2.out hb1)
     have HW1 := Lib.hid hb1
     clear hl1 p0 p1 p2 p3 p4 p5 p6 p7 hb1 HCK
     by_cases h9 : E = 0
     ·
      have HVA1 := Lib.hid (HVA.out h9)
      have HPT1 := Lib.hid (HPT.out h9)
      have HLN1 := Lib.hid (HLN.out h9)
      have HRES2 := Lib.hid (show r = if enc oo = b then (L, 0) else (rl0, 12) by rw [HRES1.out, h9]; simp)
      clear HVA HPT HLN HRES1
      subst h9
      obtain ⟨hl1, p0, p1, p2, p3, p4, p5, p6, p7⟩ := facts8 HM1.out
      go_wp2_with fail
      refine (HVA1.out v1 HW1.out).mono ?_
      rintro e v2 ⟨x2, y2, rfl, hat, hb2⟩
      have HB2 := Lib.hid (chain HB1.out hb2)
      have HR2 := Lib.hid (row_on HR1.out hb2)
      have HM2 := Lib.hid (row_on HM1.out hb2)
      have HW2 := Lib.hid (chain HW1.out hb2)
      have HPT2 := Lib.hid (HPT1.out v2 x2 y2 hat)
      obtain ⟨A2, m2, k2, B2, n2, q2, rfl, rfl⟩ := hat.slices
      clear hl1 p0 p1 p2 p3 p4 p5 p6 p7 hb2 hat HPT1 HVA1
      unfold cell3 at HPT2 ⊢
      go_wp2_with fail
      refine HPT2.out.mono ?_
      rintro e v3 ⟨w3, rfl, hown, hb3⟩
      have HB3 := Lib.hid (chain HB2.out hb3)
      have HR3 := Lib.hid (row_on HR2.out hb3)
      have HM3 := Lib.hid (row_on HM2.out hb3)
      have HW3 := Lib.hid (chain HW2.out hb3)
      obtain ⟨A4, c4', rfl, _, _, hs4⟩ := bytes_own8 hown
      have HS4 := Lib.hid hs4
      clear hown hb3 HPT2 hs4
      have HSB3 := Lib.hid (show Calls Tryz.prog 11 #[.slice A4 (enc oo).length c4', .slice A n c] v3 (fun e w' => e = .returned (.bool (decide (enc oo = b))) ∧ Below v3.heap.size v3 w') by
       rw [← HNB.out]
       exact samebytes_any (enc oo) b A4 A c4' c HLN1.out HNB2.out v3 HS4.out (HSRC.out v3 HB3.out))
      go_wp2_with fail
      refine HSB3.out.mono ?_
      rintro e v4 ⟨rfl, hb4⟩
      have HB4 := Lib.hid (chain HB3.out hb4)
      have HR4 := Lib.hid (row_on HR3.out hb4)
      have HM4 := Lib.hid (row_on HM3.out hb4)
      have HW4 := Lib.hid (chain HW3.out hb4)
      clear hb4 HSB3 HB1 HR1 HM1 HW1 HB2 HR2 HM2 HW2 HB3 HR3 HM3 HW3 HS4
      by_cases h8 : enc oo = b
      ·
       have hd : decide (enc oo = b) = true := by simp [h8]
       have HM5 := Lib.hid (show v4.heap[M]? = some (.cells #[.string L.iss, .int .u64 L.num, .int .i64 L.fr, .int .i64 L.tt, .slice p.SA L.ser.length p.sc, .int .i64 L.sg.idx, .slice p.CA L.sg.cs.length p.cc, .slice p.PA L.sg.ps.length p.pc] 30 (0, 0)) from row_on HROW.out HW4.out)
       obtain ⟨hl1, p0, p1, p2, p3, p4, p5, p6, p7⟩ := facts8 HM5.out
       clear HM4
       obtain ⟨hl0, f0, f1, f2, f3, f4, f5, f6, f7⟩ := facts8 HR4.out
       obtain ⟨z0, z1, z2, z3, z4, z5, z6, z7⟩ := free8 HR4.out
       rw [hd]
       clear hd
       go_wp2_with fail
       generalize hZ : World.setCell _ _ _ = Z
       obtain ⟨r1, r2, r3⟩ := put8 HR4.out (Nat.le_refl _) hZ
       clear hZ
       have hr : r = (L, 0) := by rw [HRES2.out, if_pos h8]
       refine bodyPost_ret (v := .tuple #[.agg (rlC r.1 p), .int .i64 r.2]) ?resY rfl ⟨p, rfl, ?_, HB4.out.trans r2⟩
       case resY =>
        obtain ⟨_, f0, f1, f2, f3, f4, f5, f6, f7⟩ := facts8 r1
        rw [hr]
        simp [results, Tryz.results10, go_sem, f0, f1, f2, f3, f4, f5, f6, f7]
        try rfl
       ·
        rw [hr]
        have hat := HAT.out.on HW4.out
        exact ⟨nums_keep hat.ser (fun g o e => by have := HSB2.out g o e; have := HUL.out; omega) r3, shs_keep hat.cs HR4.out (show 8 < 16 by decide) r3, shs_keep hat.ps HR4.out (show 8 < 16 by decide) r3, hat.ls, hat.lc, hat.lp⟩
      ·
       have hd : decide (enc oo = b) = false := by simp [h8]
       rw [hd]
       clear hd
       obtain ⟨hl0, f0, f1, f2, f3, f4, f5, f6, f7⟩ := facts8 HR4.out
       obtain ⟨z0, z1, z2, z3, z4, z5, z6, z7⟩ := free8 HR4.out
       go_wp2_with fail
       generalize hZ : World.setCell _ _ _ = Z
       obtain ⟨r1, r2, r3⟩ := put8 HR4.out (Nat.le_refl _) hZ
       clear hZ
       have hr : r = (rl0, 12) := by rw [HRES2.out, if_neg h8]
       refine bodyPost_ret (v := .tuple #[.agg (rlC r.1 mp0), .int .i64 r.2]) ?res4 rfl ⟨mp0, rfl, ?_, HB4.out.trans r2⟩
       case res4 =>
        obtain ⟨_, f0, f1, f2, f3, f4, f5, f6, f7⟩ := facts8 r1
        rw [hr]
        simp [results, Tryz.results10, go_sem, f0, f1, f2, f3, f4, f5, f6, f7]
        try rfl
       ·
        rw [hr]
        exact rl0_at _
     ·
      have HRES2 := Lib.hid (show r = (rl0, 12) by rw [HRES1.out, if_neg (fun k => h9 k.1)])
      obtain ⟨hl0, f0, f1, f2, f3, f4, f5, f6, f7⟩ := facts8 HR1.out
      obtain ⟨z0, z1, z2, z3, z4, z5, z6, z7⟩ := free8 HR1.out
      go_wp2_with fail
      generalize hZ : World.setCell _ _ _ = Z
      obtain ⟨r1, r2, r3⟩ := put8 HR1.out (Nat.le_refl _) hZ
      clear hZ
      have hr : r = (rl0, 12) := by rw [HRES2.out]
      refine bodyPost_ret (v := .tuple #[.agg (rlC r.1 mp0), .int .i64 r.2]) ?res1 rfl ⟨mp0, rfl, ?_, HB1.out.trans r2⟩
      case res1 =>
       obtain ⟨_, f0, f1, f2, f3, f4, f5, f6, f7⟩ := facts8 r1
       rw [hr]
       simp [results, Tryz.results10, go_sem, f0, f1, f2, f3, f4, f5, f6, f7]
       try rfl
      ·
       rw [hr]
       exact rl0_at _
 ·
  clear HGD
  obtain ⟨hl0, f0, f1, f2, f3, f4, f5, f6, f7⟩ := facts8 HR2.out
  obtain ⟨z0, z1, z2, z3, z4, z5, z6, z7⟩ := free8 HR2.out
  go_wp2_with fail
  generalize hZ : World.setCell _ _ _ = Z
  obtain ⟨r1, r2, r3⟩ := put8 HR2.out (Nat.le_refl _) hZ
  clear hZ
  have hr : r = (rl0, 12) := by rw [HRES.out, if_neg (fun k => h0 k.1)]
  refine bodyPost_ret (v := .tuple #[.agg (rlC r.1 mp0), .int .i64 r.2]) ?res2 rfl ⟨mp0, rfl, ?_, HB2.out.trans r2⟩
  case res2 =>
   obtain ⟨_, f0, f1, f2, f3, f4, f5, f6, f7⟩ := facts8 r1
   rw [hr]
   simp [results, Tryz.results10, go_sem, f0, f1, f2, f3, f4, f5, f6, f7]
   try rfl
  ·
   rw [hr]
   exact rl0_at _
end Sg
end Go.Proofs.YtcgffkkfeimifaaGreat
