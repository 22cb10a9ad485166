/-
  THE WALK over SpanNames.
-/
import Derived.Test.YtjngfieggacpiaaDoorSpNamesMath
namespace Go.Proofs.YtjngfieggacpiaaDoor
open Go.RowKit Adr Spn
set_option linter.unusedVariables false
set_option linter.unusedSimpArgs false
set_option maxRecDepth 100000 in
set_option maxHeartbeats 40000000 in
theorem spnames_true (w : World) (env : Env true w) : Calls Tryd.prog 4 #[] w fun e w' => e = .returned (.bool true) ∧ Below w.heap.size w w' := by
  have hG := env.big
  have HE := Lib.hid env
  clear env
  go_enter Tryd.func4, Tryd.ntmps4
  go_wp2_with fail
  refine (addr_any _ _).mono ?_
  rintro e w1 ⟨rfl, hb⟩
  have HB_1 := Lib.hid hb
  clear hb
  go_wp2_with fail
  refine (addr_any _ _).mono ?_
  rintro e w2 ⟨rfl, hb⟩
  have HB_2 := Lib.hid (HB_1.out.trans (hb.mono HB_1.out.size))
  clear HB_1
  clear hb
  go_wp2_with fail
  refine (sn_l _).mono ?_
  rintro e w3 ⟨g3, cap3, rfl, hb⟩
  have HB_3 := Lib.hid (HB_2.out.trans (hb.mono HB_2.out.size))
  clear HB_2
  clear hb
  go_wp2_with fail
  refine (addr_any _ _).mono ?_
  rintro e w4 ⟨rfl, hb⟩
  have HB_4 := Lib.hid (HB_3.out.trans (hb.mono HB_3.out.size))
  clear HB_3
  clear hb
  go_wp2_with fail
  refine (sn_m _).mono ?_
  rintro e w5 ⟨g5, cap5, rfl, hb⟩
  have HB_5 := Lib.hid (HB_4.out.trans (hb.mono HB_4.out.size))
  clear HB_4
  clear hb
  go_wp2_with fail
  refine (sn_one _).mono ?_
  rintro e w6 ⟨g6, cap6, rfl, hl, hcap, hb⟩
  have HB_6 := Lib.hid (HB_5.out.trans (hb.mono HB_5.out.size))
  clear HB_5
  clear hb
  have L6 := Lib.hid hl
  clear hl
  go_wp2_with fail
  refine (addr_any _ _).mono ?_
  rintro e w7 ⟨rfl, hb⟩
  have HB_7 := Lib.hid (HB_6.out.trans (hb.mono HB_6.out.size))
  clear HB_6
  have L6_7 := Lib.hid (L6.out.on hb)
  clear L6
  clear hb
  go_wp2_with fail
  refine (addr_any _ _).mono ?_
  rintro e w8 ⟨rfl, hb⟩
  have HB_8 := Lib.hid (HB_7.out.trans (hb.mono HB_7.out.size))
  clear HB_7
  have L6_8 := Lib.hid (L6_7.out.on hb)
  clear L6_7
  clear hb
  go_wp2_with fail
  refine (sn_bad1 _).mono ?_
  rintro e w9 ⟨rfl, hb⟩
  have HB_9 := Lib.hid (HB_8.out.trans (hb.mono HB_8.out.size))
  clear HB_8
  have L6_9 := Lib.hid (L6_8.out.on hb)
  clear L6_8
  clear hb
  go_wp2_with fail
  refine (sn_bad2 _).mono ?_
  rintro e w10 ⟨rfl, hb⟩
  have HB_10 := Lib.hid (HB_9.out.trans (hb.mono HB_9.out.size))
  clear HB_9
  have L6_10 := Lib.hid (L6_9.out.on hb)
  clear L6_9
  clear hb
  go_wp2_with fail
  refine (addr_any _ _).mono ?_
  rintro e w11 ⟨rfl, hb⟩
  have HB_11 := Lib.hid (HB_10.out.trans (hb.mono HB_10.out.size))
  clear HB_10
  have L6_11 := Lib.hid (L6_10.out.on hb)
  clear L6_10
  clear hb
  go_wp2_with fail
  refine (sn_n1 _).mono ?_
  rintro e w12 ⟨rfl, hb⟩
  have HB_12 := Lib.hid (HB_11.out.trans (hb.mono HB_11.out.size))
  clear HB_11
  have L6_12 := Lib.hid (L6_11.out.on hb)
  clear L6_11
  clear hb
  go_wp2_with fail
  generalize hv : World.alloc _ _ = v12
  have hb : Below w12.heap.size w12 v12 := by rw [← hv]; exact below_new _ _
  have HB_13 := Lib.hid (HB_12.out.trans (hb.mono HB_12.out.size))
  clear HB_12
  have L6_13 := Lib.hid (L6_12.out.on hb)
  clear L6_12
  clear hb hv
  refine (addr_any _ _).mono ?_
  rintro e w13 ⟨rfl, hb⟩
  have HB_14 := Lib.hid (HB_13.out.trans (hb.mono HB_13.out.size))
  clear HB_13
  have L6_14 := Lib.hid (L6_13.out.on hb)
  clear L6_13
  clear hb
  go_wp2_with fail
  refine (sn_n2 _).mono ?_
  rintro e w14 ⟨rfl, hb⟩
  have HB_15 := Lib.hid (HB_14.out.trans (hb.mono HB_14.out.size))
  clear HB_14
  have L6_15 := Lib.hid (L6_14.out.on hb)
  clear L6_14
  clear hb
  go_wp2_with fail
  generalize hv : World.alloc _ _ = v14
  have hb : Below w14.heap.size w14 v14 := by rw [← hv]; exact below_new _ _
  have HB_16 := Lib.hid (HB_15.out.trans (hb.mono HB_15.out.size))
  clear HB_15
  have L6_16 := Lib.hid (L6_15.out.on hb)
  clear L6_15
  have T14 : RowKit.Hid (Ad2 w14.heap.size v14 0 4294967296) := Lib.hid (by rw [← hv]; exact Ad2.new w14 0 4294967296 _)
  clear hb hv
  refine (sn_n3 _).mono ?_
  rintro e w15 ⟨rfl, hb⟩
  have HB_17 := Lib.hid (HB_16.out.trans (hb.mono HB_16.out.size))
  clear HB_16
  have L6_17 := Lib.hid (L6_16.out.on hb)
  clear L6_16
  have T14_17 := Lib.hid (T14.out.on hb)
  clear T14
  clear hb
  go_wp2_with fail
  generalize hv : World.alloc _ _ = v15
  have hb : Below w15.heap.size w15 v15 := by rw [← hv]; exact below_new _ _
  have HB_18 := Lib.hid (HB_17.out.trans (hb.mono HB_17.out.size))
  clear HB_17
  have L6_18 := Lib.hid (L6_17.out.on hb)
  clear L6_17
  have T14_18 := Lib.hid (T14_17.out.on hb)
  clear T14_17
  clear hb hv
  refine (addr_any _ _).mono ?_
  rintro e w16 ⟨rfl, hb⟩
  have HB_19 := Lib.hid (HB_18.out.trans (hb.mono HB_18.out.size))
  clear HB_18
  have L6_19 := Lib.hid (L6_18.out.on hb)
  clear L6_18
  have T14_19 := Lib.hid (T14_18.out.on hb)
  clear T14_18
  clear hb
  go_wp2_with fail
  refine (sn_n4 _).mono ?_
  rintro e w17 ⟨rfl, hb⟩
  have HB_20 := Lib.hid (HB_19.out.trans (hb.mono HB_19.out.size))
  clear HB_19
  have L6_20 := Lib.hid (L6_19.out.on hb)
  clear L6_19
  have T14_20 := Lib.hid (T14_19.out.on hb)
  clear T14_19
  clear hb
  go_wp2_with fail
  generalize hv : World.alloc _ _ = v17
  have hb : Below w17.heap.size w17 v17 := by rw [← hv]; exact below_new _ _
  have HB_21 := Lib.hid (HB_20.out.trans (hb.mono HB_20.out.size))
  clear HB_20
  have L6_21 := Lib.hid (L6_20.out.on hb)
  clear L6_20
  have T14_21 := Lib.hid (T14_20.out.on hb)
  clear T14_20
  have T17 : RowKit.Hid (Ad2 w17.heap.size v17 1 0) := Lib.hid (by rw [← hv]; exact Ad2.new w17 1 0 _)
  clear hb hv
  refine (sn_v1 _).mono ?_
  rintro e w18 ⟨rfl, hb⟩
  have HB_22 := Lib.hid (HB_21.out.trans (hb.mono HB_21.out.size))
  clear HB_21
  have L6_22 := Lib.hid (L6_21.out.on hb)
  clear L6_21
  have T14_22 := Lib.hid (T14_21.out.on hb)
  clear T14_21
  have T17_22 := Lib.hid (T17.out.on hb)
  clear T17
  clear hb
  go_wp2_with fail
  generalize hv : World.alloc _ _ = v18
  have hb : Below w18.heap.size w18 v18 := by rw [← hv]; exact below_new _ _
  have HB_23 := Lib.hid (HB_22.out.trans (hb.mono HB_22.out.size))
  clear HB_22
  have L6_23 := Lib.hid (L6_22.out.on hb)
  clear L6_22
  have T14_23 := Lib.hid (T14_22.out.on hb)
  clear T14_22
  have T17_23 := Lib.hid (T17_22.out.on hb)
  clear T17_22
  clear hb hv
  refine (sn_v2 _).mono ?_
  rintro e w19 ⟨rfl, hb⟩
  have HB_24 := Lib.hid (HB_23.out.trans (hb.mono HB_23.out.size))
  clear HB_23
  have L6_24 := Lib.hid (L6_23.out.on hb)
  clear L6_23
  have T14_24 := Lib.hid (T14_23.out.on hb)
  clear T14_23
  have T17_24 := Lib.hid (T17_23.out.on hb)
  clear T17_23
  clear hb
  go_wp2_with fail
  generalize hv : World.alloc _ _ = v19
  have hb : Below w19.heap.size w19 v19 := by rw [← hv]; exact below_new _ _
  have HB_25 := Lib.hid (HB_24.out.trans (hb.mono HB_24.out.size))
  clear HB_24
  have L6_25 := Lib.hid (L6_24.out.on hb)
  clear L6_24
  have T14_25 := Lib.hid (T14_24.out.on hb)
  clear T14_24
  have T17_25 := Lib.hid (T17_24.out.on hb)
  clear T17_24
  have T19 : RowKit.Hid (Ad2 w19.heap.size v19 0 18446744073709551615) := Lib.hid (by rw [← hv]; exact Ad2.new w19 0 18446744073709551615 _)
  clear hb hv
  refine (addr_any _ _).mono ?_
  rintro e w20 ⟨rfl, hb⟩
  have HB_26 := Lib.hid (HB_25.out.trans (hb.mono HB_25.out.size))
  clear HB_25
  have L6_26 := Lib.hid (L6_25.out.on hb)
  clear L6_25
  have T14_26 := Lib.hid (T14_25.out.on hb)
  clear T14_25
  have T17_26 := Lib.hid (T17_25.out.on hb)
  clear T17_25
  have T19_26 := Lib.hid (T19.out.on hb)
  clear T19
  clear hb
  go_wp2_with fail
  refine (sn_n5 _).mono ?_
  rintro e w21 ⟨rfl, hb⟩
  have HB_27 := Lib.hid (HB_26.out.trans (hb.mono HB_26.out.size))
  clear HB_26
  have L6_27 := Lib.hid (L6_26.out.on hb)
  clear L6_26
  have T14_27 := Lib.hid (T14_26.out.on hb)
  clear T14_26
  have T17_27 := Lib.hid (T17_26.out.on hb)
  clear T17_26
  have T19_27 := Lib.hid (T19_26.out.on hb)
  clear T19_26
  clear hb
  go_wp2_with fail
  generalize hv : World.alloc _ _ = v21
  have hb : Below w21.heap.size w21 v21 := by rw [← hv]; exact below_new _ _
  have HB_28 := Lib.hid (HB_27.out.trans (hb.mono HB_27.out.size))
  clear HB_27
  have L6_28 := Lib.hid (L6_27.out.on hb)
  clear L6_27
  have T14_28 := Lib.hid (T14_27.out.on hb)
  clear T14_27
  have T17_28 := Lib.hid (T17_27.out.on hb)
  clear T17_27
  have T19_28 := Lib.hid (T19_27.out.on hb)
  clear T19_27
  clear hb hv
  refine (sn_o1 _).mono ?_
  rintro e w22 ⟨rfl, hb⟩
  have HB_29 := Lib.hid (HB_28.out.trans (hb.mono HB_28.out.size))
  clear HB_28
  have L6_29 := Lib.hid (L6_28.out.on hb)
  clear L6_28
  have T14_29 := Lib.hid (T14_28.out.on hb)
  clear T14_28
  have T17_29 := Lib.hid (T17_28.out.on hb)
  clear T17_28
  have T19_29 := Lib.hid (T19_28.out.on hb)
  clear T19_28
  clear hb
  go_wp2_with fail
  generalize hv : World.alloc _ _ = v22
  have hb : Below w22.heap.size w22 v22 := by rw [← hv]; exact below_new _ _
  have HB_30 := Lib.hid (HB_29.out.trans (hb.mono HB_29.out.size))
  clear HB_29
  have L6_30 := Lib.hid (L6_29.out.on hb)
  clear L6_29
  have T14_30 := Lib.hid (T14_29.out.on hb)
  clear T14_29
  have T17_30 := Lib.hid (T17_29.out.on hb)
  clear T17_29
  have T19_30 := Lib.hid (T19_29.out.on hb)
  clear T19_29
  have T22 : RowKit.Hid (Sp4 w22.heap.size v22 9223372036854775808 0 18446744073709551615 18446744073709551615) := Lib.hid (by rw [← hv]; exact Sp4.new w22 9223372036854775808 0 18446744073709551615 18446744073709551615 _)
  clear hb hv
  refine (addr_any _ _).mono ?_
  rintro e w23 ⟨rfl, hb⟩
  have HB_31 := Lib.hid (HB_30.out.trans (hb.mono HB_30.out.size))
  clear HB_30
  have L6_31 := Lib.hid (L6_30.out.on hb)
  clear L6_30
  have T14_31 := Lib.hid (T14_30.out.on hb)
  clear T14_30
  have T17_31 := Lib.hid (T17_30.out.on hb)
  clear T17_30
  have T19_31 := Lib.hid (T19_30.out.on hb)
  clear T19_30
  have T22_31 := Lib.hid (T22.out.on hb)
  clear T22
  clear hb
  go_wp2_with fail
  refine (sn_o2 _).mono ?_
  rintro e w24 ⟨rfl, hb⟩
  have HB_32 := Lib.hid (HB_31.out.trans (hb.mono HB_31.out.size))
  clear HB_31
  have L6_32 := Lib.hid (L6_31.out.on hb)
  clear L6_31
  have T14_32 := Lib.hid (T14_31.out.on hb)
  clear T14_31
  have T17_32 := Lib.hid (T17_31.out.on hb)
  clear T17_31
  have T19_32 := Lib.hid (T19_31.out.on hb)
  clear T19_31
  have T22_32 := Lib.hid (T22_31.out.on hb)
  clear T22_31
  clear hb
  go_upto_region 15 with fail
  generalize hv : World.alloc _ _ = v24
  have hb : Below w24.heap.size w24 v24 := by rw [← hv]; exact below_new _ _
  have HB_33 := Lib.hid (HB_32.out.trans (hb.mono HB_32.out.size))
  clear HB_32
  have L6_33 := Lib.hid (L6_32.out.on hb)
  clear L6_32
  have T14_33 := Lib.hid (T14_32.out.on hb)
  clear T14_32
  have T17_33 := Lib.hid (T17_32.out.on hb)
  clear T17_32
  have T19_33 := Lib.hid (T19_32.out.on hb)
  clear T19_32
  have T22_33 := Lib.hid (T22_32.out.on hb)
  clear T22_32
  clear hb hv
  obtain ⟨zl, l0, l1, l2, l3⟩ := L6_33.out
  go_upto_region 16 with fail
  go_cut [30] (fun s30 wx => s30 = .bool true ∧ Below v24.heap.size v24 wx)
  case first =>
    have z0 := T14_33.out.lt
    obtain ⟨c00, c01, _, _⟩ := T14_33.out
    have z1 := T17_33.out.lt
    obtain ⟨c10, c11, _, _⟩ := T17_33.out
    have z2 := T19_33.out.lt
    obtain ⟨c20, c21, _, _⟩ := T19_33.out
    have z3 := T22_33.out.lt
    obtain ⟨c30, c31, c32, c33, _⟩ := T22_33.out
    go_region_held3 (fun z => z.cell? ⟨w14.heap.size, 0, none⟩ = some (.int .u64 0) ∧ z.cell? ⟨w14.heap.size, 1, none⟩ = some (.int .u64 4294967296) ∧ z.cell? ⟨w17.heap.size, 0, none⟩ = some (.int .u64 1) ∧ z.cell? ⟨w17.heap.size, 1, none⟩ = some (.int .u64 0) ∧ z.cell? ⟨w19.heap.size, 0, none⟩ = some (.int .u64 0) ∧ z.cell? ⟨w19.heap.size, 1, none⟩ = some (.int .u64 18446744073709551615) ∧ z.cell? ⟨w22.heap.size, 0, none⟩ = some (.int .u64 9223372036854775808) ∧ z.cell? ⟨w22.heap.size, 1, none⟩ = some (.int .u64 0) ∧ z.cell? ⟨w22.heap.size, 2, none⟩ = some (.int .u64 18446744073709551615) ∧ z.cell? ⟨w22.heap.size, 3, none⟩ = some (.int .u64 18446744073709551615))
      (first | exact ⟨c00, c01, c10, c11, c20, c21, c30, c31, c32, c33⟩ | exact ⟨(hcp _ _ z0).trans c00, (hcp _ _ z0).trans c01, (hcp _ _ z1).trans c10, (hcp _ _ z1).trans c11, (hcp _ _ z2).trans c20, (hcp _ _ z2).trans c21, (hcp _ _ z3).trans c30, (hcp _ _ z3).trans c31, (hcp _ _ z3).trans c32, (hcp _ _ z3).trans c33⟩ | exact ⟨(hcq _ _ y0).trans ((hcp _ _ z0).trans c00), (hcq _ _ y0).trans ((hcp _ _ z0).trans c01), (hcq _ _ y1).trans ((hcp _ _ z1).trans c10), (hcq _ _ y1).trans ((hcp _ _ z1).trans c11), (hcq _ _ y2).trans ((hcp _ _ z2).trans c20), (hcq _ _ y2).trans ((hcp _ _ z2).trans c21), (hcq _ _ y3).trans ((hcp _ _ z3).trans c30), (hcq _ _ y3).trans ((hcp _ _ z3).trans c31), (hcq _ _ y3).trans ((hcp _ _ z3).trans c32), (hcq _ _ y3).trans ((hcp _ _ z3).trans c33)⟩)
      (first | (go_at_call_of 16 (Value.int IntKind.u64 4294967296); refine (addr_any _ _).mono ?_; rintro e wp ⟨rfl, hbwp⟩; obtain ⟨hcp, hfp⟩ := bcellD hbwp; (have y0 : w14.heap.size < wp.heap.size := (by (have := hbwp.size; (try simp at this); omega)); have y1 : w17.heap.size < wp.heap.size := (by (have := hbwp.size; (try simp at this); omega)); have y2 : w19.heap.size < wp.heap.size := (by (have := hbwp.size; (try simp at this); omega)); have y3 : w22.heap.size < wp.heap.size := (by (have := hbwp.size; (try simp at this); omega)))) | (go_at_call_of 16 (Value.int IntKind.u64 18446744073709551615); refine (addr_any _ _).mono ?_; rintro e wq ⟨rfl, hbwq⟩; obtain ⟨hcq, hfq⟩ := bcell hbwq))
    have HV := Lib.hid ((((Below.refl v24.heap.size v24).drew).trans hbwp).trans (hbwq.mono (show v24.heap.size ≤ wp.heap.size by have := hbwp.size; simpa using this)))
    clear hcp hcq hfp hfq hbwp hbwq y0 y1 y2 y3
    go_wp2_with fail
    go_meet
    exact ⟨rfl, HV.out⟩
  case rest =>
    obtain ⟨rfl, hbc⟩ := hcut
    have HBC := Lib.hid (HB_33.out.trans (hbc.mono HB_33.out.size))
    clear L6_33
    clear T14_33
    clear T17_33
    clear T19_33
    clear T22_33
    clear hbc HB_33
    go_wp2_with fail
    obtain ⟨B, hB⟩ : ∃ B, wc.heap.size = B := ⟨_, rfl⟩
    rw [show (#[Value.string ⟨#[]⟩, Value.string ⟨#[49, 48, 46, 48, 46, 48, 46, 48, 45, 49, 48, 46, 48, 46, 48, 46, 50, 53, 53]⟩, Value.string ⟨#[49, 48, 46, 48, 46, 48, 46, 50, 45, 49, 48, 46, 48, 46, 48, 46, 49]⟩, Value.string ⟨#[49, 48, 46, 48, 46, 48, 46, 48]⟩, Value.string ⟨#[49, 48, 46, 48, 46, 48, 46, 48, 45]⟩, Value.string ⟨#[45]⟩, Value.string ⟨#[49, 48, 46, 48, 46, 48, 46, 49, 45, 58, 58, 49]⟩, Value.string ⟨#[49, 48, 46, 48, 46, 48, 46, 49, 45, 49, 48, 46, 48, 46, 48, 46, 52, 45, 49, 48, 46, 48, 46, 48, 46, 53]⟩, Value.string ⟨#[49, 48, 46, 48, 46, 48, 46, 49, 45, 49, 48, 46, 48, 46, 48, 46, 49]⟩, Value.string ⟨#[49, 48, 46, 48, 46, 48, 46, 49, 47, 56]⟩, Value.string ⟨#[58, 58, 45, 58, 58]⟩] : Array Value) = (snBad.map Value.string).toArray from rfl]
    generalize hv : World.alloc _ _ = vL
    have HS : RowKit.Hid (∀ (k : Nat) s, snBad[k]? = some s → vL.cell? ⟨B, k, none⟩ = some (.string s)) := Lib.hid (fun k s h => by rw [← hv, ← hB]; exact cell_lit _ (by rw [List.getElem?_map, h]; rfl))
    have HBL := Lib.hid (show Below w.heap.size w vL by rw [← hv]; exact HBC.out.alloc HBC.out.size _)
    have hBz : B < vL.heap.size := by rw [← hv, ← hB]; simp
    try rw [hB]
    clear hv hB HBC
    go_loopw [214] (fun i wr => ∃ k : Nat, k ≤ 11 ∧ i = .int .i64 (k : Int) ∧ Below vL.heap.size vL wr) (fun i _ => 12 - (intOf i).toNat)
    case atStart => exact ⟨0, Nat.zero_le _, rfl, Below.refl _ _⟩
    case round =>
      obtain ⟨k, hk, rfl, hb⟩ := hrel
      have HW := Lib.hid (HBL.out.trans (hb.mono HBL.out.size))
      by_cases hkn : k < 11
      · obtain ⟨s, hs⟩ : ∃ s, snBad[k]? = some s := ⟨snBad[k]'(by show k < 11; exact hkn), List.getElem?_eq_getElem _⟩
        have ck := (hb.cell (p := ⟨B, k, none⟩) hBz).trans (HS.out k s hs)
        obtain ⟨s1, s2⟩ := sn_bad s (List.mem_of_getElem? hs)
        have HP : RowKit.Hid (∀ w, Env true w → Calls Tryd.prog 20 #[.string s] w fun e w' => e = .returned (.tuple #[.int .u8 (spF s), .agg #[.int .u64 (aH (spA s)), .int .u64 (aL (spA s)), .int .u64 (aH (spM s)), .int .u64 (aL (spM s))], .int .i64 12]) ∧ Below w.heap.size w w') := Lib.hid (fun w env => by
          have h := sparse_any s w env s2
          rw [s1] at h
          exact h)
        generalize ((spF s : Nat) : Int) = xf at HP
        generalize aH (spA s) = xa at HP
        generalize aL (spA s) = xb at HP
        generalize aH (spM s) = xc at HP
        generalize aL (spM s) = xd at HP
        have hki : (k : Int) < 11 := by omega
        have HBW := Lib.hid hb
        clear hb s1 s2 hs
        go_wp2_with fail
        refine (HP.out _ (HE.out.below HW.out hG)).mono ?_
        rintro e wy ⟨rfl, hby⟩
        have HBY := Lib.hid (HBW.out.trans (hby.mono HBW.out.size))
        clear hby
        go_wp2_with fail
        go_roundw
        case rel => exact ⟨k + 1, by omega, by go_num, HBY.out.alloc HBY.out.size _⟩
        case measure => simp [intOf]; omega
      · have hk2 : k = 11 := by omega
        subst hk2
        clear hb HS
        go_wp2_with fail
        refine (sn_p _ (HE.out.below HW.out hG)).mono ?_
        rintro e wy ⟨rfl, hby⟩
        have HY := Lib.hid (HW.out.trans (hby.mono HW.out.size))
        clear hby HW
        go_upto_region 25 with fail
        obtain ⟨Y, hY⟩ : ∃ Y, wy.heap.size = Y := ⟨_, rfl⟩
        generalize hv : World.alloc _ _ = vy
        have TY : RowKit.Hid (Sp4 Y vy 0 1 0 2) := Lib.hid (by rw [← hv, ← hY]; exact Sp4.new wy _ _ _ _ _)
        have HZ := Lib.hid (show Below w.heap.size w vy by rw [← hv]; exact HY.out.alloc HY.out.size _)
        try rw [hY]
        clear hv hY HY
        go_wp2_with fail
        refine (sn_c1 _).mono ?_
        rintro e wa ⟨rfl, hb⟩
        have HZ1 := Lib.hid (HZ.out.trans (hb.mono HZ.out.size))
        have TY1 := Lib.hid (TY.out.on hb)
        clear hb HZ TY
        go_wp2_with fail
        refine (sn_c2 _).mono ?_
        rintro e wb ⟨rfl, hb⟩
        have HZ2 := Lib.hid (HZ1.out.trans (hb.mono HZ1.out.size))
        have TY2 := Lib.hid (TY1.out.on hb)
        clear hb HZ1 TY1
        go_wp2_with fail
        refine (sn_c3 _).mono ?_
        rintro e wd ⟨rfl, hb⟩
        have HZ3 := Lib.hid (HZ2.out.trans (hb.mono HZ2.out.size))
        have TY3 := Lib.hid (TY2.out.on hb)
        clear hb HZ2 TY2
        obtain ⟨c0, c1, c2, c3, _⟩ := TY3.out
        have z0 := TY3.out.lt
        go_upto_region 26 with fail
        go_region_held3 (fun z => z.cell? ⟨Y, 0, none⟩ = some (.int .u64 0) ∧ z.cell? ⟨Y, 1, none⟩ = some (.int .u64 1) ∧ z.cell? ⟨Y, 2, none⟩ = some (.int .u64 0) ∧ z.cell? ⟨Y, 3, none⟩ = some (.int .u64 2))
          (first | exact ⟨c0, c1, c2, c3⟩ | exact ⟨(hcp _ _ z0).trans c0, (hcp _ _ z0).trans c1, (hcp _ _ z0).trans c2, (hcp _ _ z0).trans c3⟩ | exact ⟨(hcq _ _ y0).trans ((hcp _ _ z0).trans c0), (hcq _ _ y0).trans ((hcp _ _ z0).trans c1), (hcq _ _ y0).trans ((hcp _ _ z0).trans c2), (hcq _ _ y0).trans ((hcp _ _ z0).trans c3)⟩ | exact ⟨(hcr _ _ x0).trans ((hcq _ _ y0).trans ((hcp _ _ z0).trans c0)), (hcr _ _ x0).trans ((hcq _ _ y0).trans ((hcp _ _ z0).trans c1)), (hcr _ _ x0).trans ((hcq _ _ y0).trans ((hcp _ _ z0).trans c2)), (hcr _ _ x0).trans ((hcq _ _ y0).trans ((hcp _ _ z0).trans c3))⟩)
          (first
            | (go_at_call 22; refine (alive2_any _ (HE.out.below HZ3.out.drew hG)).mono ?_; rintro e wp ⟨rfl, hbwp⟩; obtain ⟨hcp, hfp⟩ := bcellD hbwp; have y0 : Y < wp.heap.size := (by (have := hbwp.size; (try simp at this); omega)))
            | (go_at_call_of 16 (Value.int IntKind.u64 1); refine (addr_any _ _).mono ?_; rintro e wq ⟨rfl, hbwq⟩; obtain ⟨hcq, hfq⟩ := bcell hbwq; have x0 : Y < wq.heap.size := (by (have := hbwq.size; (try simp at this); omega)))
            | (go_at_call_of 16 (Value.int IntKind.u64 2); refine (addr_any _ _).mono ?_; rintro e wr2 ⟨rfl, hbwr⟩; obtain ⟨hcr, hfr⟩ := bcell hbwr))
        have HV := Lib.hid (((((Below.refl wd.heap.size wd).drew).trans hbwp).trans (hbwq.mono (show wd.heap.size ≤ wp.heap.size by have := hbwp.size; simpa using this))).trans (hbwr.mono (show wd.heap.size ≤ wq.heap.size by have := hbwp.size; have := hbwq.size; simp at *; omega)))
        clear hcp hcq hcr hfp hfq hfr hbwp hbwq hbwr y0 x0 c0 c1 c2 c3
        go_wp2_with fail
        go_ret
        exact ⟨rfl, HZ3.out.trans (HV.out.mono HZ3.out.size)⟩
end Go.Proofs.YtjngfieggacpiaaDoor
