/-
  THE LAW of layer 11 on Check, Same, Twin and Revoked. Written by wip/gen-sgl.py.
-/
import Derived.Test.YtganaidlpnnajaaSgJ
import Derived.Test.YtganaidlpnnajaaSgK
import Derived.Deep.RegionHeld3
namespace Go.Proofs.Ytganaidlpnnajaa
namespace Sg
open Go.RowKit Sha
set_option linter.unusedVariables false
set_option linter.unusedSimpArgs false
theorem sz8l (c : List Value) (h : c.length = 8) : (Try.prog.info? 30).map (·.size) = some c.length := by
  rw [h]
  kernel_rfl
theorem row_range {z : World} {g : Nat} {cs : List Value} {S : TypeId} {fr : Nat × Nat} (h : z.heap[g]? = some (.cells cs.toArray S fr)) : z.rangeAt g 0 cs := fun j v hj => by
  rw [cell_of_row _ _ _ _ _ _ h, Nat.zero_add]
  simpa using hj
theorem below_low {n N : Nat} {w z V : World} (h : Below n w z) (hn : n ≤ N) (hb : Below N z V) : Below n w V := h.trans ⟨hb.os, hb.tape, hb.output, hb.size, fun k hk => hb.block k (by omega)⟩
theorem row_low {N g : Nat} {z V : World} {ob : Obj} (h : z.heap[g]? = some ob) (hg : g < N) (hb : Below N z V) : V.heap[g]? = some ob := (hb.block g hg).trans h
/-- a row of the function's own, written whole -/
theorem put_row {V W : World} {old cs : Array Value} {S : TypeId} (hW : (V.alloc (.cells old S)).setCells V.heap.size 0 cs.toList = W) (h : old.size = cs.size) : Below V.heap.size V W ∧ W.heap[V.heap.size]? = some (.cells cs S (0, 0)) := by
  subst hW
  exact ⟨below_setCells cs.toList 0 _ (below_new _ _) (Nat.le_refl _), row_setCells (heap_alloc_new V (.cells old S)) h⟩
theorem lchk_any (l : Rl) (p : Mp) (w : World) (hz : l.iss.size ≤ maxLen) (h : Nums p.SA l.ser w) : Calls Try.prog 11 #[.agg (rlC l p)] w fun e w' => e = .returned (.int .i64 (rvC l)) ∧ Below w.heap.size w w' :=
  revcheck_any l.iss l.num l.fr l.tt p.SA l.ser p.sc l.sg.idx p.CA p.PA l.sg.cs.length p.cc l.sg.ps.length p.pc hz w h
theorem lchk_ref (l : Rl) (p : Mp) (w : World) (hz : l.iss.size ≤ maxLen) (h : Nums p.SA l.ser w) : Calls Try.prog 12 #[.agg (rlC l p)] w fun e w' => e = .returned (.int .i64 (rvC l)) ∧ Below w.heap.size w w' :=
  revcheck_ref l.iss l.num l.fr l.tt p.SA l.ser p.sc l.sg.idx p.CA p.PA l.sg.cs.length p.cc l.sg.ps.length p.pc hz w h
set_option maxRecDepth 100000 in
set_option maxHeartbeats 1000000 in
theorem law_any (l m : Rl) (p q : Mp) (t : Int) (hcp : Caps p) (w : World) (a1 : Nums p.SA l.ser w) (a2 : Shs p.CA l.sg.cs w) (a3 : Shs p.PA l.sg.ps w) (b1 : Nums q.SA m.ser w) (b2 : Shs q.CA m.sg.cs w) (b3 : Shs q.PA m.sg.ps w) :
    Calls Try.prog 3 #[.agg (rlC l p), .agg (rlC m q), .int .u64 t] w fun e w' => e = .returned (.bool true) ∧ Below w.heap.size w w' := by
  have HA : RowKit.Hid (grB l = false → RlAt l p w ∧ l.iss.size ≤ maxLen) := Lib.hid (fun h => by
    unfold grB at h
    rw [decide_eq_false_iff_not] at h
    exact ⟨⟨a1, a2, a3, by omega, by omega, by omega⟩, by unfold maxLen; omega⟩)
  have HB : RowKit.Hid (grB m = false → RlAt m q w) := Lib.hid (fun h => by
    unfold grB at h
    rw [decide_eq_false_iff_not] at h
    exact ⟨b1, b2, b3, by omega, by omega, by omega⟩)
  have HG1 := Lib.hid (fun (V : World) => great_any l p V)
  have HG2 := Lib.hid (fun (V : World) => great_any m q V)
  have HCP := Lib.hid hcp
  obtain ⟨x0, x1, x2, x3, x4, x5, x6, x7, hcl⟩ : ∃ x0 x1 x2 x3 x4 x5 x6 x7, rlC l p = #[x0, x1, x2, x3, x4, x5, x6, x7] := ⟨_, _, _, _, _, _, _, _, rfl⟩
  obtain ⟨y0, y1, y2, y3, y4, y5, y6, y7, hcm⟩ : ∃ y0 y1 y2 y3 y4 y5 y6 y7, rlC m q = #[y0, y1, y2, y3, y4, y5, y6, y7] := ⟨_, _, _, _, _, _, _, _, rfl⟩
  have HCL := Lib.hid hcl
  have HCM := Lib.hid hcm
  rw [hcl] at HG1
  rw [hcm] at HG2
  rw [hcl, hcm]
  obtain ⟨hb0, hra, hrb⟩ := two_rows w (.cells #[x0, x1, x2, x3, x4, x5, x6, x7] 30) (.cells #[y0, y1, y2, y3, y4, y5, y6, y7] 30)
  have HB0 := Lib.hid hb0
  have HRa := Lib.hid hra
  have HRb := Lib.hid hrb
  clear a1 a2 a3 b1 b2 b3 hcp hcl hcm hb0 hra hrb
  go_enter Try.func3, Try.ntmps3
  go_upto_region 1 with (fail)
  generalize World.alloc (World.alloc w _) _ = V0 at HB0 HRa HRb ⊢
  generalize hgl : grB l = gl at HA HG1
  generalize hgm : grB m = gm at HB HG2
  clear hgl hgm
  go_wp2_with (first | (refine wpList_load_row rfl 30 (.tmp 3) rfl (w.heap.size) rfl 30 #[x0, x1, x2, x3, x4, x5, x6, x7] (0, 0) _ HRa.out Try.underlying30 rfl (sz8 _ rfl) ?_))
  refine (HG1.out _).mono ?_
  rintro e V1 ⟨rfl, hb⟩
  have HB1 := Lib.hid (chain HB0.out hb)
  have HRa := Lib.hid (row_on HRa.out hb)
  have HRb := Lib.hid (row_on HRb.out hb)
  clear hb
  cases gl
  · obtain ⟨v0, a0, a1, a2, a3, a4, a5, a6, a7⟩ := facts8 HRb.out
    go_wp2_with fail
    refine (HG2.out _).mono ?_
    rintro e V2 ⟨rfl, hb⟩
    have HB2 := Lib.hid (chain HB1.out hb)
    have HRa := Lib.hid (row_on HRa.out hb)
    have HRb := Lib.hid (row_on HRb.out hb)
    clear hb v0 a0 a1 a2 a3 a4 a5 a6 a7
    cases gm
    · obtain ⟨ha, hz⟩ := HA.out (by simp)
      have HA2 := Lib.hid ha
      have HB2' := Lib.hid (HB.out (by simp))
      have HZ := Lib.hid hz
      clear ha hz HA HB HG1 HG2
      have HT := Lib.hid (rtwin_ref l p V2 (HA2.out.on HB2.out) HCP.out)
      rw [HCL.out] at HT
      go_upto_region 4 with (first | (refine wpList_load_row rfl 30 (.tmp 3) rfl (w.heap.size) rfl 30 #[x0, x1, x2, x3, x4, x5, x6, x7] (0, 0) _ HRa.out Try.underlying30 rfl (sz8 _ rfl) ?_))
      refine HT.out.mono ?_
      rintro e V3 ⟨m1, rfl, hm1, hb⟩
      obtain ⟨t0, t1, t2, t3, t4, t5, t6, t7, hct⟩ : ∃ t0 t1 t2 t3 t4 t5 t6 t7, rlC l m1 = #[t0, t1, t2, t3, t4, t5, t6, t7] := ⟨_, _, _, _, _, _, _, _, rfl⟩
      have HCt := Lib.hid hct
      have HOt : RowKit.Hid ((#[t0, t1, t2, t3, t4, t5, t6, t7] : Array Value).all (·.oneCell') = true) := Lib.hid (by rw [← hct]; simp [rlC, Value.oneCell'])
      rw [hct]
      clear hct
      have HB3 := Lib.hid (chain HB2.out hb)
      have HRa := Lib.hid (row_on HRa.out hb)
      have HRb := Lib.hid (row_on HRb.out hb)
      clear hb
      go_upto_region 4 with (refine wpList_store_mid rfl 30 (.tmp 7) (.tmp 21) rfl V3.heap.size 0 #[t0, t1, t2, t3, t4, t5, t6, t7] rfl rfl (there_row (heap_alloc_new _ _) 8 (show 8 ≤ 8 by decide)) (sz8 _ rfl) HOt.out ?_)
      generalize hW : World.setCells _ _ _ _ = W4
      have hbw : Below V3.heap.size V3 W4 := (put_row (cs := #[t0, t1, t2, t3, t4, t5, t6, t7]) hW rfl).1
      have HRc := Lib.hid (show W4.heap[V3.heap.size]? = some (.cells #[t0, t1, t2, t3, t4, t5, t6, t7] 30 (0, 0)) from (put_row (cs := #[t0, t1, t2, t3, t4, t5, t6, t7]) hW rfl).2)
      clear hW
      have HB4 := Lib.hid (chain HB3.out hbw)
      have HRa := Lib.hid (row_on HRa.out hbw)
      have HRb := Lib.hid (row_on HRb.out hbw)
      have HM1 := Lib.hid (hm1.on hbw)
      clear hbw hm1 HT
      generalize V3.heap.size = X7 at HRc ⊢
      have CR1 := Lib.hid (fun (z : World) (hb : Below w.heap.size w z) => revoked_any l p t HZ.out z (HA2.out.on hb))
      have CR2 := Lib.hid (fun (z : World) (hb : Below w.heap.size w z) => revoked_ref l p t HZ.out z (HA2.out.on hb))
      rw [HCL.out] at CR1 CR2
      have HRVB : RowKit.Hid (∃ b, rvB l t = b) := Lib.hid ⟨_, rfl⟩
      obtain ⟨vb, hvb⟩ := HRVB.out
      obtain ⟨vc, hvc⟩ : ∃ b, rvC l = b := ⟨_, rfl⟩
      rw [hvb, hvc] at CR1 CR2
      clear HRVB hvb
      have HVC := Lib.hid hvc
      clear hvc
      go_upto_region 5 with (first | (refine wpList_load_row rfl 30 (.tmp 3) rfl (w.heap.size) rfl 30 #[x0, x1, x2, x3, x4, x5, x6, x7] (0, 0) _ HRa.out Try.underlying30 rfl (sz8 _ rfl) ?_))
      refine (CR1.out _ HB4.out).mono ?_
      rintro e V5 ⟨rfl, hb⟩
      have HB5 := Lib.hid (chain HB4.out hb)
      have HRa := Lib.hid (row_on HRa.out hb)
      have HRb := Lib.hid (row_on HRb.out hb)
      have HRc := Lib.hid (row_on HRc.out hb)
      have HM1 := Lib.hid (HM1.out.on hb)
      clear hb
      go_upto_region 6 with (first | (refine wpList_load_row rfl 30 (.tmp 3) rfl (w.heap.size) rfl 30 #[x0, x1, x2, x3, x4, x5, x6, x7] (0, 0) _ HRa.out Try.underlying30 rfl (sz8 _ rfl) ?_))
      refine (CR2.out _ HB5.out).mono ?_
      rintro e V6 ⟨rfl, hb⟩
      have HB6 := Lib.hid (chain HB5.out hb)
      have HRa := Lib.hid (row_on HRa.out hb)
      have HRb := Lib.hid (row_on HRb.out hb)
      have HRc := Lib.hid (row_on HRc.out hb)
      have HM1 := Lib.hid (HM1.out.on hb)
      clear hb
      have HLT6 : RowKit.Hid (w.heap.size + 1 < V6.heap.size ∧ X7 < V6.heap.size) := Lib.hid ⟨(Array.getElem?_eq_some_iff.1 HRb.out).1, (Array.getElem?_eq_some_iff.1 HRc.out).1⟩
      have HT2 := Lib.hid (rtwin_any l p V6 (HA2.out.on HB6.out) HCP.out)
      rw [HCL.out] at HT2
      go_upto_region 7 with (first | (refine wpList_load_row rfl 30 (.tmp 3) rfl (w.heap.size) rfl 30 #[x0, x1, x2, x3, x4, x5, x6, x7] (0, 0) _ HRa.out Try.underlying30 rfl (sz8 _ rfl) ?_))
      refine HT2.out.mono ?_
      rintro e V7 ⟨m2, rfl, hm2, hb, ow1, ow2, -⟩
      obtain ⟨s0, s1, s2, s3, s4, s5, s6, s7, hcs⟩ : ∃ s0 s1 s2 s3 s4 s5 s6 s7, rlC l m2 = #[s0, s1, s2, s3, s4, s5, s6, s7] := ⟨_, _, _, _, _, _, _, _, rfl⟩
      have HCs := Lib.hid hcs
      have HOs : RowKit.Hid ((#[s0, s1, s2, s3, s4, s5, s6, s7] : Array Value).all (·.oneCell') = true) := Lib.hid (by rw [← hcs]; simp [rlC, Value.oneCell'])
      rw [hcs]
      clear hcs
      have HSZ : RowKit.Hid (V6.heap.size ≤ V7.heap.size) := Lib.hid hb.size
      have HB7 := Lib.hid (chain HB6.out hb)
      have HRa7 := Lib.hid (row_on HRa.out hb)
      have HRb7 := Lib.hid (row_on HRb.out hb)
      have HRc7 := Lib.hid (row_on HRc.out hb)
      have HN7 := Lib.hid hb
      clear hb
      go_upto_region 7 with (refine wpList_store_mid rfl 30 (.tmp 12) (.tmp 35) rfl V7.heap.size 0 #[s0, s1, s2, s3, s4, s5, s6, s7] rfl rfl (there_row (heap_alloc_new _ _) 8 (show 8 ≤ 8 by decide)) (sz8 _ rfl) HOs.out ?_)
      generalize hW : World.setCells _ _ _ _ = W8
      have hbw : Below V7.heap.size V7 W8 := (put_row (cs := #[s0, s1, s2, s3, s4, s5, s6, s7]) hW rfl).1
      have HRd := Lib.hid (show W8.heap[V7.heap.size]? = some (.cells #[s0, s1, s2, s3, s4, s5, s6, s7] 30 (0, 0)) from (put_row (cs := #[s0, s1, s2, s3, s4, s5, s6, s7]) hW rfl).2)
      clear hW
      have HB8 := Lib.hid (chain HB7.out hbw)
      have HRa := Lib.hid (row_on HRa7.out hbw)
      have HRb := Lib.hid (row_on HRb7.out hbw)
      have HRc := Lib.hid (row_on HRc7.out hbw)
      have HM16 := HM1
      have HN8 := Lib.hid (chain HN7.out hbw)
      have HM1 := Lib.hid ((HM1.out.on HN7.out).on hbw)
      have HM2 := Lib.hid (hm2.on hbw)
      have HO1 := Lib.hid (ow1.on hbw)
      have HO2 := Lib.hid (ow2.on hbw)
      have HLT : RowKit.Hid (w.heap.size + 1 < V6.heap.size ∧ X7 < V6.heap.size) := Lib.hid (HLT6.out)
      have HSZ2 : RowKit.Hid (V6.heap.size ≤ W8.heap.size) := Lib.hid (Nat.le_trans HSZ.out hbw.size)
      clear hbw hm2 ow1 ow2 HT2 HN7 HSZ HRa7 HRb7 HRc7 CR1 CR2
      generalize V7.heap.size = X12 at HRd ⊢
      refine wp_region_held_drew (S := fun z => z.rangeAt (w.heap.size) 0 [x0, x1, x2, x3, x4, x5, x6, x7] ∧ z.rangeAt (w.heap.size + 1) 0 [y0, y1, y2, y3, y4, y5, y6, y7] ∧ z.rangeAt (X7) 0 [t0, t1, t2, t3, t4, t5, t6, t7] ∧ z.rangeAt (X12) 0 [s0, s1, s2, s3, s4, s5, s6, s7]) (by kernel_rfl) ⟨row_range HRa.out, row_range HRb.out, row_range HRc.out, row_range HRd.out⟩ (fun hHeld => ?_)
      generalize hU : World.drew W8 = U at hHeld ⊢
      have hbU : Below W8.heap.size W8 U := by rw [← hU]; exact (Below.refl _ _).drew
      clear hU
      have HB_U := Lib.hid (Below.refl U.heap.size U)
      have HBU := Lib.hid (chain HB8.out hbU)
      have HRa := Lib.hid (row_on HRa.out hbU)
      have HRb := Lib.hid (row_on HRb.out hbU)
      have HRc := Lib.hid (row_on HRc.out hbU)
      have HRd := Lib.hid (row_on HRd.out hbU)
      have HM1 := Lib.hid (HM1.out.on hbU)
      have HM2 := Lib.hid (HM2.out.on hbU)
      have HO1 := Lib.hid (HO1.out.on hbU)
      have HO2 := Lib.hid (HO2.out.on hbU)
      have HSZU : RowKit.Hid (V6.heap.size ≤ U.heap.size) := Lib.hid (Nat.le_trans HSZ2.out hbU.size)
      have HNU := Lib.hid (chain HN8.out hbU)
      clear hbU HSZ2 HN8
      have mkS : ∀ z, Below U.heap.size U z → (fun z => z.rangeAt (w.heap.size) 0 [x0, x1, x2, x3, x4, x5, x6, x7] ∧ z.rangeAt (w.heap.size + 1) 0 [y0, y1, y2, y3, y4, y5, y6, y7] ∧ z.rangeAt (X7) 0 [t0, t1, t2, t3, t4, t5, t6, t7] ∧ z.rangeAt (X12) 0 [s0, s1, s2, s3, s4, s5, s6, s7]) z := fun z hz => ⟨row_range (row_on HRa.out hz), row_range (row_on HRb.out hz), row_range (row_on HRc.out hz), row_range (row_on HRd.out hz)⟩
      have HAU := Lib.hid (HA2.out.on HBU.out)
      have HBMU := Lib.hid (HB2'.out.on HBU.out)
      have C1 := Lib.hid (fun (z : World) (hb : Below U.heap.size U z) => lchk_any l p z HZ.out (HAU.out.on hb).ser)
      have C3 := Lib.hid (fun (z : World) (hb : Below U.heap.size U z) => lchk_ref l p z HZ.out (HAU.out.on hb).ser)
      have C8 := Lib.hid (fun (z : World) (hb : Below U.heap.size U z) => revsame_any l m p q z (HAU.out.on hb) (HBMU.out.on hb))
      have C11 := Lib.hid (fun (z : World) (hb : Below U.heap.size U z) => revsame_ref l m p q z (HAU.out.on hb) (HBMU.out.on hb))
      have C17 := Lib.hid (fun (z : World) (hb : Below U.heap.size U z) => revsame_any l l p m1 z (HAU.out.on hb) (HM1.out.on hb))
      have C32 := Lib.hid (fun (z : World) (hb : Below U.heap.size U z) => revsame_ref l l p m2 z (HAU.out.on hb) (HM2.out.on hb))
      have HCt2 := HCt.out
      have HCs2 := HCs.out
      rw [decide_eq_true (rfl : l = l)] at C17 C32
      rw [HVC.out] at C1 C3
      rw [HCL.out] at C1 C3 C8 C11 C17 C32
      rw [HCM.out] at C8 C11
      rw [HCt2] at C17
      rw [HCs2] at C32
      generalize decide (l = m) = dm at C8 C11
      clear HCt2 HCs2
      refine wpAnyH_take (i := 0) (oi := { dst := Option.some 36, op := Go.Op.load 30 (Go.Operand.tmp 3), type := 30, pos := "law.go:32", after := #[], guard := Option.none }) (v := .agg #[x0, x1, x2, x3, x4, x5, x6, x7]) rfl (by kernel_rfl) (by kernel_rfl) (by kernel_rfl) (fun _ _ _ h => h) (yieldsIf_load_mid (by rfl) _ _ rfl _ _ rfl ([x0, x1, x2, x3, x4, x5, x6, x7]) _ (fun w hSw => hSw.1) Try.underlying30 rfl (sz8l _ rfl)) hHeld ?_
      try simp only [Act.put, List.setIfInBounds_toArray, List.set_cons_zero, List.set_cons_succ]
      refine wpAnyH_take (i := 2) (oi := { dst := Option.some 38, op := Go.Op.load 30 (Go.Operand.tmp 3), type := 30, pos := "law.go:32", after := #[], guard := Option.none }) (v := .agg #[x0, x1, x2, x3, x4, x5, x6, x7]) rfl (by kernel_rfl) (by kernel_rfl) (by kernel_rfl) (fun _ _ _ h => h) (yieldsIf_load_mid (by rfl) _ _ rfl _ _ rfl ([x0, x1, x2, x3, x4, x5, x6, x7]) _ (fun w hSw => hSw.1) Try.underlying30 rfl (sz8l _ rfl)) hHeld ?_
      try simp only [Act.put, List.setIfInBounds_toArray, List.set_cons_zero, List.set_cons_succ]
      refine wpAnyH_ready (rs := [1]) (by kernel_rfl) (by simp) (AllReadyH.cons (o := { dst := Option.some 37, op := Go.Op.call { callee := Go.Callee.value (Go.Operand.func 11), args := #[Go.Operand.tmp 36], argTypes := #[30] }, type := 33, pos := "law.go:32", after := #[{ on := 0, ground := Go.Ground.data }], guard := Option.none }) rfl (fun K hK => ?_) AllReadyH.nil)
      go_simp
      refine (C1.out U HB_U.out).mono ?_
      rintro e z1 ⟨rfl, hb⟩
      have HB_z1 := Lib.hid (chain HB_U.out hb)
      clear hb
      go_simp
      refine hK.out _ _ (mkS _ HB_z1.out) (fun hHeld2 => ?_)
      clear hK K hHeld
      have hHeld := hHeld2
      clear hHeld2
      try simp only [Act.put, List.setIfInBounds_toArray, List.set_cons_zero, List.set_cons_succ]
      refine wpAnyH_ready (rs := [3]) (by kernel_rfl) (by simp) (AllReadyH.cons (o := { dst := Option.some 39, op := Go.Op.call { callee := Go.Callee.value (Go.Operand.func 12), args := #[Go.Operand.tmp 38], argTypes := #[30] }, type := 3, pos := "law.go:32", after := #[{ on := 2, ground := Go.Ground.data }, { on := 1, ground := Go.Ground.chain }], guard := Option.none }) rfl (fun K hK => ?_) AllReadyH.nil)
      go_simp
      refine (C3.out z1 HB_z1.out).mono ?_
      rintro e z3 ⟨rfl, hb⟩
      have HB_z3 := Lib.hid (chain HB_z1.out hb)
      clear hb
      go_simp
      refine hK.out _ _ (mkS _ HB_z3.out) (fun hHeld2 => ?_)
      clear hK K hHeld
      have hHeld := hHeld2
      clear hHeld2
      try simp only [Act.put, List.setIfInBounds_toArray, List.set_cons_zero, List.set_cons_succ]
      refine wpAnyH_take (i := 4) (oi := { dst := Option.some 40, op := Go.Op.binOp Go.BinOp.eql 3 (Go.Operand.tmp 37) (Go.Operand.tmp 39) 3, type := 4, pos := "law.go:32", after := #[{ on := 1, ground := Go.Ground.data }, { on := 3, ground := Go.Ground.data }], guard := Option.none }) (v := ?_) rfl (by kernel_rfl) (by kernel_rfl) (by kernel_rfl) (fun _ _ _ h => h) (Or.inl ⟨by rfl, ?_⟩) hHeld ?_
      rotate_left
      · intro w hSw
        clear hSw
        go_simp
        try with_reducible rfl
      try simp only [Act.put, List.setIfInBounds_toArray, List.set_cons_zero, List.set_cons_succ]
      refine wpAnyH_take (i := 5) (oi := { dst := Option.some 41, op := Go.Op.move (Go.Operand.tmp 40), type := 4, pos := "law.go:32", after := #[{ on := 4, ground := Go.Ground.data }, { on := 3, ground := Go.Ground.chain }], guard := Option.none }) (v := ?_) rfl (by kernel_rfl) (by kernel_rfl) (by kernel_rfl) (fun _ _ _ h => h) (Or.inl ⟨by rfl, ?_⟩) hHeld ?_
      rotate_left
      · intro w hSw
        clear hSw
        go_simp
        try with_reducible rfl
      try simp only [Act.put, List.setIfInBounds_toArray, List.set_cons_zero, List.set_cons_succ]
      refine wpAnyH_take (i := 6) (oi := { dst := Option.some 42, op := Go.Op.load 30 (Go.Operand.tmp 3), type := 30, pos := "law.go:32", after := #[{ on := 5, ground := Go.Ground.guard }], guard := Option.some (5, Bool.true) }) (v := .agg #[x0, x1, x2, x3, x4, x5, x6, x7]) rfl (by kernel_rfl) (by kernel_rfl) (by kernel_rfl) (fun _ _ _ h => h) (yieldsIf_load_mid (by rfl) _ _ rfl _ _ rfl ([x0, x1, x2, x3, x4, x5, x6, x7]) _ (fun w hSw => hSw.1) Try.underlying30 rfl (sz8l _ rfl)) hHeld ?_
      try simp only [Act.put, List.setIfInBounds_toArray, List.set_cons_zero, List.set_cons_succ]
      refine wpAnyH_take (i := 7) (oi := { dst := Option.some 43, op := Go.Op.load 30 (Go.Operand.tmp 4), type := 30, pos := "law.go:32", after := #[{ on := 5, ground := Go.Ground.guard }], guard := Option.some (5, Bool.true) }) (v := .agg #[y0, y1, y2, y3, y4, y5, y6, y7]) rfl (by kernel_rfl) (by kernel_rfl) (by kernel_rfl) (fun _ _ _ h => h) (yieldsIf_load_mid (by rfl) _ _ rfl _ _ rfl ([y0, y1, y2, y3, y4, y5, y6, y7]) _ (fun w hSw => hSw.2.1) Try.underlying30 rfl (sz8l _ rfl)) hHeld ?_
      try simp only [Act.put, List.setIfInBounds_toArray, List.set_cons_zero, List.set_cons_succ]
      refine wpAnyH_take (i := 9) (oi := { dst := Option.some 45, op := Go.Op.load 30 (Go.Operand.tmp 3), type := 30, pos := "law.go:32", after := #[{ on := 5, ground := Go.Ground.guard }], guard := Option.some (5, Bool.true) }) (v := .agg #[x0, x1, x2, x3, x4, x5, x6, x7]) rfl (by kernel_rfl) (by kernel_rfl) (by kernel_rfl) (fun _ _ _ h => h) (yieldsIf_load_mid (by rfl) _ _ rfl _ _ rfl ([x0, x1, x2, x3, x4, x5, x6, x7]) _ (fun w hSw => hSw.1) Try.underlying30 rfl (sz8l _ rfl)) hHeld ?_
      try simp only [Act.put, List.setIfInBounds_toArray, List.set_cons_zero, List.set_cons_succ]
      refine wpAnyH_take (i := 10) (oi := { dst := Option.some 46, op := Go.Op.load 30 (Go.Operand.tmp 4), type := 30, pos := "law.go:32", after := #[{ on := 5, ground := Go.Ground.guard }], guard := Option.some (5, Bool.true) }) (v := .agg #[y0, y1, y2, y3, y4, y5, y6, y7]) rfl (by kernel_rfl) (by kernel_rfl) (by kernel_rfl) (fun _ _ _ h => h) (yieldsIf_load_mid (by rfl) _ _ rfl _ _ rfl ([y0, y1, y2, y3, y4, y5, y6, y7]) _ (fun w hSw => hSw.2.1) Try.underlying30 rfl (sz8l _ rfl)) hHeld ?_
      try simp only [Act.put, List.setIfInBounds_toArray, List.set_cons_zero, List.set_cons_succ]
      refine wpAnyH_ready (rs := [8]) (by kernel_rfl) (by simp) (AllReadyH.cons (o := { dst := Option.some 44, op := Go.Op.call { callee := Go.Callee.value (Go.Operand.func 13), args := #[Go.Operand.tmp 42, Go.Operand.tmp 43], argTypes := #[30, 30] }, type := 4, pos := "law.go:32", after := #[{ on := 6, ground := Go.Ground.data }, { on := 7, ground := Go.Ground.data }, { on := 5, ground := Go.Ground.chain }, { on := 5, ground := Go.Ground.guard }], guard := Option.some (5, Bool.true) }) rfl (fun K hK => ?_) AllReadyH.nil)
      go_simp
      refine (C8.out z3 HB_z3.out).mono ?_
      rintro e z8 ⟨rfl, hb⟩
      have HB_z8 := Lib.hid (chain HB_z3.out hb)
      clear hb
      go_simp
      refine hK.out _ _ (mkS _ HB_z8.out) (fun hHeld2 => ?_)
      clear hK K hHeld
      have hHeld := hHeld2
      clear hHeld2
      try simp only [Act.put, List.setIfInBounds_toArray, List.set_cons_zero, List.set_cons_succ]
      refine wpAnyH_ready (rs := [11]) (by kernel_rfl) (by simp) (AllReadyH.cons (o := { dst := Option.some 47, op := Go.Op.call { callee := Go.Callee.value (Go.Operand.func 14), args := #[Go.Operand.tmp 45, Go.Operand.tmp 46], argTypes := #[30, 30] }, type := 4, pos := "law.go:32", after := #[{ on := 9, ground := Go.Ground.data }, { on := 10, ground := Go.Ground.data }, { on := 8, ground := Go.Ground.chain }, { on := 5, ground := Go.Ground.guard }], guard := Option.some (5, Bool.true) }) rfl (fun K hK => ?_) AllReadyH.nil)
      go_simp
      refine (C11.out z8 HB_z8.out).mono ?_
      rintro e z11 ⟨rfl, hb⟩
      have HB_z11 := Lib.hid (chain HB_z8.out hb)
      clear hb
      go_simp
      refine hK.out _ _ (mkS _ HB_z11.out) (fun hHeld2 => ?_)
      clear hK K hHeld
      have hHeld := hHeld2
      clear hHeld2
      try simp only [Act.put, List.setIfInBounds_toArray, List.set_cons_zero, List.set_cons_succ]
      refine wpAnyH_take (i := 12) (oi := { dst := Option.some 48, op := Go.Op.binOp Go.BinOp.eql 4 (Go.Operand.tmp 44) (Go.Operand.tmp 47) 4, type := 4, pos := "law.go:32", after := #[{ on := 8, ground := Go.Ground.data }, { on := 11, ground := Go.Ground.data }, { on := 5, ground := Go.Ground.guard }], guard := Option.some (5, Bool.true) }) (v := ?_) rfl (by kernel_rfl) (by kernel_rfl) (by kernel_rfl) (fun _ _ _ h => h) (Or.inl ⟨by rfl, ?_⟩) hHeld ?_
      rotate_left
      · intro w hSw
        clear hSw
        go_simp
        try with_reducible rfl
      try simp only [Act.put, List.setIfInBounds_toArray, List.set_cons_zero, List.set_cons_succ]
      refine wpAnyH_take (i := 13) (oi := { dst := Option.some 49, op := Go.Op.pick (Go.Operand.tmp 41) (Go.Operand.tmp 48) (Go.Operand.const (Go.Value.bool Bool.false)), type := 4, pos := "law.go:32", after := #[{ on := 5, ground := Go.Ground.data }, { on := 12, ground := Go.Ground.data }], guard := Option.none }) (v := ?_) rfl (by kernel_rfl) (by kernel_rfl) (by kernel_rfl) (fun _ _ _ h => h) (Or.inl ⟨by rfl, ?_⟩) hHeld ?_
      rotate_left
      · intro w hSw
        clear hSw
        go_simp
        try with_reducible rfl
      try simp only [Act.put, List.setIfInBounds_toArray, List.set_cons_zero, List.set_cons_succ]
      refine wpAnyH_take (i := 14) (oi := { dst := Option.some 50, op := Go.Op.move (Go.Operand.tmp 49), type := 4, pos := "law.go:32", after := #[{ on := 13, ground := Go.Ground.data }, { on := 11, ground := Go.Ground.chain }], guard := Option.none }) (v := ?_) rfl (by kernel_rfl) (by kernel_rfl) (by kernel_rfl) (fun _ _ _ h => h) (Or.inl ⟨by rfl, ?_⟩) hHeld ?_
      rotate_left
      · intro w hSw
        clear hSw
        go_simp
        try with_reducible rfl
      try simp only [Act.put, List.setIfInBounds_toArray, List.set_cons_zero, List.set_cons_succ]
      refine wpAnyH_take (i := 15) (oi := { dst := Option.some 51, op := Go.Op.load 30 (Go.Operand.tmp 3), type := 30, pos := "law.go:32", after := #[{ on := 14, ground := Go.Ground.guard }], guard := Option.some (14, Bool.true) }) (v := .agg #[x0, x1, x2, x3, x4, x5, x6, x7]) rfl (by kernel_rfl) (by kernel_rfl) (by kernel_rfl) (fun _ _ _ h => h) (yieldsIf_load_mid (by rfl) _ _ rfl _ _ rfl ([x0, x1, x2, x3, x4, x5, x6, x7]) _ (fun w hSw => hSw.1) Try.underlying30 rfl (sz8l _ rfl)) hHeld ?_
      try simp only [Act.put, List.setIfInBounds_toArray, List.set_cons_zero, List.set_cons_succ]
      refine wpAnyH_take (i := 16) (oi := { dst := Option.some 52, op := Go.Op.load 30 (Go.Operand.tmp 7), type := 30, pos := "law.go:32", after := #[{ on := 14, ground := Go.Ground.guard }], guard := Option.some (14, Bool.true) }) (v := .agg #[t0, t1, t2, t3, t4, t5, t6, t7]) rfl (by kernel_rfl) (by kernel_rfl) (by kernel_rfl) (fun _ _ _ h => h) (yieldsIf_load_mid (by rfl) _ _ rfl _ _ rfl ([t0, t1, t2, t3, t4, t5, t6, t7]) _ (fun w hSw => hSw.2.2.1) Try.underlying30 rfl (sz8l _ rfl)) hHeld ?_
      try simp only [Act.put, List.setIfInBounds_toArray, List.set_cons_zero, List.set_cons_succ]
      refine wpAnyH_ready (rs := [17]) (by kernel_rfl) (by simp) (AllReadyH.cons (o := { dst := Option.some 53, op := Go.Op.call { callee := Go.Callee.value (Go.Operand.func 13), args := #[Go.Operand.tmp 51, Go.Operand.tmp 52], argTypes := #[30, 30] }, type := 4, pos := "law.go:32", after := #[{ on := 15, ground := Go.Ground.data }, { on := 16, ground := Go.Ground.data }, { on := 14, ground := Go.Ground.chain }, { on := 14, ground := Go.Ground.guard }], guard := Option.some (14, Bool.true) }) rfl (fun K hK => ?_) AllReadyH.nil)
      go_simp
      refine (C17.out z11 HB_z11.out).mono ?_
      rintro e z17 ⟨rfl, hb⟩
      have HB_z17 := Lib.hid (chain HB_z11.out hb)
      clear hb
      go_simp
      refine hK.out _ _ (mkS _ HB_z17.out) (fun hHeld2 => ?_)
      clear hK K hHeld
      have hHeld := hHeld2
      clear hHeld2
      try simp only [Act.put, List.setIfInBounds_toArray, List.set_cons_zero, List.set_cons_succ]
      refine wpAnyH_take (i := 18) (oi := { dst := Option.some 54, op := Go.Op.pick (Go.Operand.tmp 50) (Go.Operand.tmp 53) (Go.Operand.const (Go.Value.bool Bool.false)), type := 4, pos := "law.go:32", after := #[{ on := 14, ground := Go.Ground.data }, { on := 17, ground := Go.Ground.data }], guard := Option.none }) (v := ?_) rfl (by kernel_rfl) (by kernel_rfl) (by kernel_rfl) (fun _ _ _ h => h) (Or.inl ⟨by rfl, ?_⟩) hHeld ?_
      rotate_left
      · intro w hSw
        clear hSw
        go_simp
        try with_reducible rfl
      try simp only [Act.put, List.setIfInBounds_toArray, List.set_cons_zero, List.set_cons_succ]
      refine wpAnyH_take (i := 19) (oi := { dst := Option.some 55, op := Go.Op.move (Go.Operand.tmp 54), type := 4, pos := "law.go:32", after := #[{ on := 18, ground := Go.Ground.data }, { on := 17, ground := Go.Ground.chain }], guard := Option.none }) (v := ?_) rfl (by kernel_rfl) (by kernel_rfl) (by kernel_rfl) (fun _ _ _ h => h) (Or.inl ⟨by rfl, ?_⟩) hHeld ?_
      rotate_left
      · intro w hSw
        clear hSw
        go_simp
        try with_reducible rfl
      try simp only [Act.put, List.setIfInBounds_toArray, List.set_cons_zero, List.set_cons_succ]
      refine wpAnyH_take (i := 20) (oi := { dst := Option.some 56, op := Go.Op.move (Go.Operand.tmp 8), type := 4, pos := "law.go:32", after := #[{ on := 19, ground := Go.Ground.guard }], guard := Option.some (19, Bool.true) }) (v := ?_) rfl (by kernel_rfl) (by kernel_rfl) (by kernel_rfl) (fun _ _ _ h => h) (Or.inl ⟨by rfl, ?_⟩) hHeld ?_
      rotate_left
      · intro w hSw
        clear hSw
        go_simp
        try with_reducible rfl
      try simp only [Act.put, List.setIfInBounds_toArray, List.set_cons_zero, List.set_cons_succ]
      refine wpAnyH_take (i := 21) (oi := { dst := Option.some 57, op := Go.Op.move (Go.Operand.tmp 10), type := 4, pos := "law.go:32", after := #[{ on := 19, ground := Go.Ground.guard }], guard := Option.some (19, Bool.true) }) (v := ?_) rfl (by kernel_rfl) (by kernel_rfl) (by kernel_rfl) (fun _ _ _ h => h) (Or.inl ⟨by rfl, ?_⟩) hHeld ?_
      rotate_left
      · intro w hSw
        clear hSw
        go_simp
        try with_reducible rfl
      try simp only [Act.put, List.setIfInBounds_toArray, List.set_cons_zero, List.set_cons_succ]
      refine wpAnyH_take (i := 22) (oi := { dst := Option.some 58, op := Go.Op.binOp Go.BinOp.eql 4 (Go.Operand.tmp 56) (Go.Operand.tmp 57) 4, type := 4, pos := "law.go:32", after := #[{ on := 20, ground := Go.Ground.data }, { on := 21, ground := Go.Ground.data }, { on := 19, ground := Go.Ground.guard }], guard := Option.some (19, Bool.true) }) (v := ?_) rfl (by kernel_rfl) (by kernel_rfl) (by kernel_rfl) (fun _ _ _ h => h) (Or.inl ⟨by rfl, ?_⟩) hHeld ?_
      rotate_left
      · intro w hSw
        clear hSw
        go_simp
        try with_reducible rfl
      try simp only [Act.put, List.setIfInBounds_toArray, List.set_cons_zero, List.set_cons_succ]
      refine wpAnyH_take (i := 23) (oi := { dst := Option.some 59, op := Go.Op.pick (Go.Operand.tmp 55) (Go.Operand.tmp 58) (Go.Operand.const (Go.Value.bool Bool.false)), type := 4, pos := "law.go:32", after := #[{ on := 19, ground := Go.Ground.data }, { on := 22, ground := Go.Ground.data }], guard := Option.none }) (v := ?_) rfl (by kernel_rfl) (by kernel_rfl) (by kernel_rfl) (fun _ _ _ h => h) (Or.inl ⟨by rfl, ?_⟩) hHeld ?_
      rotate_left
      · intro w hSw
        clear hSw
        go_simp
        try with_reducible rfl
      try simp only [Act.put, List.setIfInBounds_toArray, List.set_cons_zero, List.set_cons_succ]
      refine wpAnyH_take (i := 24) (oi := { dst := Option.some 60, op := Go.Op.move (Go.Operand.tmp 59), type := 4, pos := "law.go:32", after := #[{ on := 23, ground := Go.Ground.data }, { on := 19, ground := Go.Ground.chain }], guard := Option.none }) (v := ?_) rfl (by kernel_rfl) (by kernel_rfl) (by kernel_rfl) (fun _ _ _ h => h) (Or.inl ⟨by rfl, ?_⟩) hHeld ?_
      rotate_left
      · intro w hSw
        clear hSw
        go_simp
        try with_reducible rfl
      try simp only [Act.put, List.setIfInBounds_toArray, List.set_cons_zero, List.set_cons_succ]
      refine wpAnyH_take (i := 25) (oi := { dst := Option.some 61, op := Go.Op.move (Go.Operand.tmp 9), type := 33, pos := "law.go:32", after := #[{ on := 24, ground := Go.Ground.guard }], guard := Option.some (24, Bool.true) }) (v := ?_) rfl (by kernel_rfl) (by kernel_rfl) (by kernel_rfl) (fun _ _ _ h => h) (Or.inl ⟨by rfl, ?_⟩) hHeld ?_
      rotate_left
      · intro w hSw
        clear hSw
        go_simp
        try with_reducible rfl
      try simp only [Act.put, List.setIfInBounds_toArray, List.set_cons_zero, List.set_cons_succ]
      refine wpAnyH_take (i := 26) (oi := { dst := Option.some 62, op := Go.Op.move (Go.Operand.tmp 11), type := 3, pos := "law.go:32", after := #[{ on := 24, ground := Go.Ground.guard }], guard := Option.some (24, Bool.true) }) (v := ?_) rfl (by kernel_rfl) (by kernel_rfl) (by kernel_rfl) (fun _ _ _ h => h) (Or.inl ⟨by rfl, ?_⟩) hHeld ?_
      rotate_left
      · intro w hSw
        clear hSw
        go_simp
        try with_reducible rfl
      try simp only [Act.put, List.setIfInBounds_toArray, List.set_cons_zero, List.set_cons_succ]
      refine wpAnyH_take (i := 27) (oi := { dst := Option.some 63, op := Go.Op.binOp Go.BinOp.eql 3 (Go.Operand.tmp 61) (Go.Operand.tmp 62) 3, type := 4, pos := "law.go:32", after := #[{ on := 25, ground := Go.Ground.data }, { on := 26, ground := Go.Ground.data }, { on := 24, ground := Go.Ground.guard }], guard := Option.some (24, Bool.true) }) (v := ?_) rfl (by kernel_rfl) (by kernel_rfl) (by kernel_rfl) (fun _ _ _ h => h) (Or.inl ⟨by rfl, ?_⟩) hHeld ?_
      rotate_left
      · intro w hSw
        clear hSw
        go_simp
        try with_reducible rfl
      try simp only [Act.put, List.setIfInBounds_toArray, List.set_cons_zero, List.set_cons_succ]
      refine wpAnyH_take (i := 28) (oi := { dst := Option.some 64, op := Go.Op.pick (Go.Operand.tmp 60) (Go.Operand.tmp 63) (Go.Operand.const (Go.Value.bool Bool.false)), type := 4, pos := "law.go:32", after := #[{ on := 24, ground := Go.Ground.data }, { on := 27, ground := Go.Ground.data }], guard := Option.none }) (v := ?_) rfl (by kernel_rfl) (by kernel_rfl) (by kernel_rfl) (fun _ _ _ h => h) (Or.inl ⟨by rfl, ?_⟩) hHeld ?_
      rotate_left
      · intro w hSw
        clear hSw
        go_simp
        try with_reducible rfl
      try simp only [Act.put, List.setIfInBounds_toArray, List.set_cons_zero, List.set_cons_succ]
      refine wpAnyH_take (i := 29) (oi := { dst := Option.some 65, op := Go.Op.move (Go.Operand.tmp 64), type := 4, pos := "law.go:32", after := #[{ on := 28, ground := Go.Ground.data }, { on := 24, ground := Go.Ground.chain }], guard := Option.none }) (v := ?_) rfl (by kernel_rfl) (by kernel_rfl) (by kernel_rfl) (fun _ _ _ h => h) (Or.inl ⟨by rfl, ?_⟩) hHeld ?_
      rotate_left
      · intro w hSw
        clear hSw
        go_simp
        try with_reducible rfl
      try simp only [Act.put, List.setIfInBounds_toArray, List.set_cons_zero, List.set_cons_succ]
      refine wpAnyH_take (i := 30) (oi := { dst := Option.some 66, op := Go.Op.load 30 (Go.Operand.tmp 3), type := 30, pos := "law.go:32", after := #[{ on := 29, ground := Go.Ground.guard }], guard := Option.some (29, Bool.true) }) (v := .agg #[x0, x1, x2, x3, x4, x5, x6, x7]) rfl (by kernel_rfl) (by kernel_rfl) (by kernel_rfl) (fun _ _ _ h => h) (yieldsIf_load_mid (by rfl) _ _ rfl _ _ rfl ([x0, x1, x2, x3, x4, x5, x6, x7]) _ (fun w hSw => hSw.1) Try.underlying30 rfl (sz8l _ rfl)) hHeld ?_
      try simp only [Act.put, List.setIfInBounds_toArray, List.set_cons_zero, List.set_cons_succ]
      refine wpAnyH_take (i := 31) (oi := { dst := Option.some 67, op := Go.Op.load 30 (Go.Operand.tmp 12), type := 30, pos := "law.go:32", after := #[{ on := 29, ground := Go.Ground.guard }], guard := Option.some (29, Bool.true) }) (v := .agg #[s0, s1, s2, s3, s4, s5, s6, s7]) rfl (by kernel_rfl) (by kernel_rfl) (by kernel_rfl) (fun _ _ _ h => h) (yieldsIf_load_mid (by rfl) _ _ rfl _ _ rfl ([s0, s1, s2, s3, s4, s5, s6, s7]) _ (fun w hSw => hSw.2.2.2) Try.underlying30 rfl (sz8l _ rfl)) hHeld ?_
      try simp only [Act.put, List.setIfInBounds_toArray, List.set_cons_zero, List.set_cons_succ]
      refine wpAnyH_ready (rs := [32]) (by kernel_rfl) (by simp) (AllReadyH.cons (o := { dst := Option.some 68, op := Go.Op.call { callee := Go.Callee.value (Go.Operand.func 14), args := #[Go.Operand.tmp 66, Go.Operand.tmp 67], argTypes := #[30, 30] }, type := 4, pos := "law.go:32", after := #[{ on := 30, ground := Go.Ground.data }, { on := 31, ground := Go.Ground.data }, { on := 29, ground := Go.Ground.chain }, { on := 29, ground := Go.Ground.guard }], guard := Option.some (29, Bool.true) }) rfl (fun K hK => ?_) AllReadyH.nil)
      go_simp
      refine (C32.out z17 HB_z17.out).mono ?_
      rintro e z32 ⟨rfl, hb⟩
      have HB_z32 := Lib.hid (chain HB_z17.out hb)
      clear hb
      go_simp
      refine hK.out _ _ (mkS _ HB_z32.out) (fun hHeld2 => ?_)
      clear hK K hHeld
      have hHeld := hHeld2
      clear hHeld2
      try simp only [Act.put, List.setIfInBounds_toArray, List.set_cons_zero, List.set_cons_succ]
      refine wpAnyH_take (i := 33) (oi := { dst := Option.some 69, op := Go.Op.pick (Go.Operand.tmp 65) (Go.Operand.tmp 68) (Go.Operand.const (Go.Value.bool Bool.false)), type := 4, pos := "law.go:32", after := #[{ on := 29, ground := Go.Ground.data }, { on := 32, ground := Go.Ground.data }], guard := Option.none }) (v := ?_) rfl (by kernel_rfl) (by kernel_rfl) (by kernel_rfl) (fun _ _ _ h => h) (Or.inl ⟨by rfl, ?_⟩) hHeld ?_
      rotate_left
      · intro w hSw
        clear hSw
        go_simp
        try with_reducible rfl
      try simp only [Act.put, List.setIfInBounds_toArray, List.set_cons_zero, List.set_cons_succ]
      refine wpAnyH_take (i := 34) (oi := { dst := Option.some 13, op := Go.Op.assign (Go.Operand.tmp 69), type := 4, pos := "law.go:32", after := #[{ on := 33, ground := Go.Ground.data }, { on := 32, ground := Go.Ground.chain }, { on := 0, ground := Go.Ground.phase }, { on := 1, ground := Go.Ground.phase }, { on := 2, ground := Go.Ground.phase }, { on := 3, ground := Go.Ground.phase }, { on := 4, ground := Go.Ground.phase }, { on := 5, ground := Go.Ground.phase }, { on := 6, ground := Go.Ground.phase }, { on := 7, ground := Go.Ground.phase }, { on := 8, ground := Go.Ground.phase }, { on := 9, ground := Go.Ground.phase }, { on := 10, ground := Go.Ground.phase }, { on := 11, ground := Go.Ground.phase }, { on := 12, ground := Go.Ground.phase }, { on := 13, ground := Go.Ground.phase }, { on := 14, ground := Go.Ground.phase }, { on := 15, ground := Go.Ground.phase }, { on := 16, ground := Go.Ground.phase }, { on := 17, ground := Go.Ground.phase }, { on := 18, ground := Go.Ground.phase }, { on := 19, ground := Go.Ground.phase }, { on := 20, ground := Go.Ground.phase }, { on := 21, ground := Go.Ground.phase }, { on := 22, ground := Go.Ground.phase }, { on := 23, ground := Go.Ground.phase }, { on := 24, ground := Go.Ground.phase }, { on := 25, ground := Go.Ground.phase }, { on := 26, ground := Go.Ground.phase }, { on := 27, ground := Go.Ground.phase }, { on := 28, ground := Go.Ground.phase }, { on := 29, ground := Go.Ground.phase }, { on := 30, ground := Go.Ground.phase }, { on := 31, ground := Go.Ground.phase }, { on := 32, ground := Go.Ground.phase }, { on := 33, ground := Go.Ground.phase }], guard := Option.none }) (v := ?_) rfl (by kernel_rfl) (by kernel_rfl) (by kernel_rfl) (fun _ _ _ h => h) (Or.inl ⟨by rfl, ?_⟩) hHeld ?_
      rotate_left
      · intro w hSw
        clear hSw
        go_simp
        try with_reducible rfl
      try simp only [Act.put, List.setIfInBounds_toArray, List.set_cons_zero, List.set_cons_succ]
      refine wpAnyH_done (by kernel_rfl) ?_ _

      have CSP := Lib.hid (spoil_any V6.heap.size l m2 z32 (Nat.le_trans HSZU.out HB_z32.out.size) (HM2.out.on HB_z32.out) (HO1.out.on HB_z32.out) (HO2.out.on HB_z32.out))
      rw [HCs.out] at CSP
      have HRd := Lib.hid (row_on HRd.out HB_z32.out)
      have HRa := Lib.hid (row_on HRa.out HB_z32.out)
      have HRc := Lib.hid (row_on HRc.out HB_z32.out)
      have HNZ := Lib.hid (chain HNU.out HB_z32.out)
      have HBZ := Lib.hid (chain HBU.out HB_z32.out)
      clear mkS C1 C3 C8 C11 C17 C32
      go_wp2_with (first | (refine wpList_load_row rfl 30 (.tmp 12) rfl (X12) rfl 30 #[s0, s1, s2, s3, s4, s5, s6, s7] (0, 0) _ HRd.out Try.underlying30 rfl (sz8 _ rfl) ?_))
      refine CSP.out.mono ?_
      rintro e w9 ⟨rfl, hb⟩
      have HB9 := Lib.hid (below_low HBZ.out (show w.heap.size ≤ V6.heap.size by have := HLT.out; omega) hb)
      have HM9 := Lib.hid (HM16.out.on (below_low HNZ.out (Nat.le_refl _) hb))
      have HRa := Lib.hid (row_low HRa.out (show w.heap.size < V6.heap.size by have := HLT.out; omega) hb)
      have HRc := Lib.hid (row_low HRc.out HLT.out.2 hb)
      have HA9 := Lib.hid (HA2.out.on HB9.out)
      have C9 := Lib.hid (revsame_ref l l p m1 w9 HA9.out HM9.out)
      have HCt2 := HCt.out
      rw [decide_eq_true (rfl : l = l), HCL.out, HCt2] at C9
      clear hb HCt2
      obtain ⟨v0, a0, a1, a2, a3, a4, a5, a6, a7⟩ := facts8 HRa.out
      obtain ⟨u0, b0, b1, b2, b3, b4, b5, b6, b7⟩ := facts8 HRc.out
      go_wp2_with fail
      refine C9.out.mono ?_
      rintro e w10 ⟨rfl, hb⟩
      have HB10 := Lib.hid (chain HB9.out hb)
      clear hb v0 a0 a1 a2 a3 a4 a5 a6 a7 u0 b0 b1 b2 b3 b4 b5 b6 b7
      go_wp2_with fail
      go_ret
      exact ⟨rfl, HB10.out⟩
    · go_wp2_with fail
      go_ret
      exact ⟨rfl, HB2.out⟩
  · go_wp2_with fail
    go_ret
    exact ⟨rfl, HB1.out⟩
end Sg
end Go.Proofs.Ytganaidlpnnajaa
