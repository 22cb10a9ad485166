import Derived.Test.YtcgffkkfeimifaaGreatDoorRwHI
import Derived.Test.YtcgffkkfeimifaaGreatDoorSgJP
import Derived.Deep.RegionHeld3
namespace Go.Proofs.YtcgffkkfeimifaaGreatDoor
open Go.RowKit Sha Ots
set_option linter.unusedVariables false
set_option linter.unusedSimpArgs false
namespace Sg
open Oc
set_option maxRecDepth 100000 in
set_option maxHeartbeats 16000000 in
theorem signs_any (l : Rl) (p : Mp) (hcp : Caps p) (hwf : Wf l) (seed : List UInt8) (hs : seed.length = 16) (h n : Int) (R : List UInt8) (hR : R.length = 16) (x : Int) (w : World) (a1 : Nums p.SA l.ser w) (a2 : Shs p.CA l.sg.cs w) (a3 : Shs p.PA l.sg.ps w) (env : DEnv w) :
  Calls Tryz.prog 4 #[.agg (rlC l p), .agg (bcells seed), .int .i64 h, .int .i64 n, .agg (pkc R x)] w fun e w' => e = .returned (.bool true) ∧ Below w.heap.size w w' := by
 have hg1 := fun (V : World) => great_any l p V
 have HA : RowKit.Hid (grB l = false → RlAt l p w ∧ l.iss.size ≤ maxLen) := Lib.hid (fun h => by
  unfold grB at h
  rw [decide_eq_false_iff_not] at h
  exact ⟨⟨a1, a2, a3, by omega, by omega, by omega⟩, by unfold maxLen; omega⟩)
 have htw := fun (k : RlAt l p w) (V : World) (hb : Below w.heap.size w V) => rtwin_ref l p V (k.on hb) hcp
 have hsg := fun (hz : l.iss.size ≤ maxLen) (k : RlAt l p w) (V : World) (hb : Below w.heap.size w V) => sign_own l p hz hwf hcp.s seed hs h n V (k.on hb) (env.on hb)
 have hsr := fun (hz : l.iss.size ≤ maxLen) (k : RlAt l p w) (V : World) (hb : Below w.heap.size w V) => sign_rref l p hz hwf hcp seed hs h n V (k.on hb)
 have hv1 := fun (hz : l.iss.size ≤ maxLen) (k : RlAt l p w) (V : World) (hb : Below w.heap.size w V) => verify_rev l p hz hwf R hR x V (k.on hb) (env.on hb)
 have hv2 := fun (hz : l.iss.size ≤ maxLen) (k : RlAt l p w) (V : World) (hb : Below w.heap.size w V) => verify_rref l p hz hwf R hR x V (k.on hb)
 have hsl := fun (k : RlAt l p w) (V : World) (m : Mp) (hb : Below w.heap.size w V) (hm : RlAt l m V) => (show Calls Tryz.prog 21 #[.agg (rlC l p), .agg (rlC l m)] V (fun e w' => e = .returned (.bool true) ∧ Below V.heap.size V w') from by
  have k := revsame_ref l l p m V (k.on hb) hm
  rw [decide_eq_true (rfl : l = l)] at k
  exact k)
 have hsz : (Tryz.prog.info? 41).map (·.size) = some (bcells seed).size := sz16 seed hs
 have hszk : (Tryz.prog.info? 43).map (·.size) = some (bvals R ++ [Value.int .i64 x]).length := by
  have h1 := sz17 R x hR
  unfold pkc at h1
  rw [List.size_toArray] at h1
  exact h1
 obtain ⟨vv, hvv⟩ : ∃ vv, vfV l R x = vv := ⟨_, rfl⟩
 obtain ⟨r, hr⟩ : ∃ r, sgR l seed h n = r := ⟨_, rfl⟩
 obtain ⟨s, e9⟩ := r
 obtain ⟨SD, hSD⟩ : ∃ SD, bcells seed = SD := ⟨_, rfl⟩
 obtain ⟨G1, hG1⟩ : ∃ G, grB l = G := ⟨_, rfl⟩
 rw [hG1] at HA hg1
 rw [hr, hSD] at hsg hsr
 rw [hvv] at hv1 hv2
 unfold pkc at hv1 hv2 ⊢
 obtain ⟨PKL, hPK⟩ : ∃ PKL, bvals R ++ [Value.int .i64 x] = PKL := ⟨_, rfl⟩
 rw [hPK] at hv1 hv2 hszk ⊢
 rw [hSD] at hsz ⊢
 have HSM := Lib.hid (fun (V : World) (m2 m3 : Mp) (h2 : RlAt s m2 V) (h3 : RlAt s m3 V) => (show Calls Tryz.prog 21 #[.agg (rlC s m2), .agg (rlC s m3)] V (fun e w' => e = .returned (.bool true) ∧ Below V.heap.size V w') from by
  have k := revsame_ref s s m2 m3 V h2 h3
  rw [decide_eq_true (rfl : s = s)] at k
  exact k))
 have HSL0 := Lib.hid hsl
 rw [show rlC l p = #[Value.string l.iss, .int .u64 l.num, .int .i64 l.fr, .int .i64 l.tt, .slice p.SA l.ser.length p.sc, .int .i64 l.sg.idx, .slice p.CA l.sg.cs.length p.cc, .slice p.PA l.sg.ps.length p.pc] from rfl] at hg1 htw hsg hsr ⊢
 have HG1 := Lib.hid hg1
 have HTW0 := Lib.hid htw
 have HSG0 := Lib.hid hsg
 have HSR0 := Lib.hid hsr
 have HV10 := Lib.hid hv1
 have HV20 := Lib.hid hv2
 have HSZ := Lib.hid hsz
 have HSZK := Lib.hid hszk
 obtain ⟨hw0, hra, hrb, hrc⟩ := three_rows3 w #[Value.string l.iss, .int .u64 l.num, .int .i64 l.fr, .int .i64 l.tt, .slice p.SA l.ser.length p.sc, .int .i64 l.sg.idx, .slice p.CA l.sg.cs.length p.cc, .slice p.PA l.sg.ps.length p.pc] SD PKL.toArray 32 41 43
 have HRL0 := Lib.hid hra
 have HRS0 := Lib.hid hrb
 have HRK0 := Lib.hid hrc
 have HB0 := Lib.hid hw0
 clear hg1 htw hsg hsr hv1 hv2 hsl hsz hszk hw0 hra hrb hrc hvv hr hSD hG1 hPK hcp hwf hs hR a1 a2 a3 env
 go_enter Tryz.func4, Tryz.ntmps4
 go_upto_region 1 with (fail)
 generalize World.alloc (World.alloc (World.alloc w _) _) _ = V0 at HRL0 HRS0 HRK0 HB0 ⊢
 obtain ⟨hl0, f0, f1, f2, f3, f4, f5, f6, f7⟩ := facts8 HRL0.out
 go_wp2_with fail
 refine (HG1.out V0).mono ?_
 rintro e V1 ⟨rfl, hb⟩
 clear HG1
 clear hl0 f0 f1 f2 f3 f4 f5 f6 f7
 have HRL1 := Lib.hid (row_on HRL0.out hb)
 have HRS1 := Lib.hid (row_on HRS0.out hb)
 have HRK1 := Lib.hid (row_on HRK0.out hb)
 have HB1 := Lib.hid (chain HB0.out hb)
 clear hb HRL0 HRS0 HRK0 HB0
 cases G1 with
 | true =>
  go_wp2_with fail
  refine bodyPost_ret (v := .bool true) (by simp [results, Tryz.results4, go_sem]) rfl ⟨rfl, HB1.out⟩
 | false =>
  obtain ⟨ha, hz⟩ := HA.out rfl
  have HTW := Lib.hid (HTW0.out ha)
  have HSG := Lib.hid (HSG0.out hz ha)
  have HSR := Lib.hid (HSR0.out hz ha)
  have HV1 := Lib.hid (HV10.out hz ha)
  have HV2 := Lib.hid (HV20.out hz ha)
  have HSL := Lib.hid (HSL0.out ha)
  clear ha hz HA HTW0 HSG0 HSR0 HV10 HV20 HSL0
  by_cases i1 : h > 1
  ·
   by_cases i2 : h ≤ 4
   ·
    go_wp2_with fail
    refine bodyPost_ret (v := .bool true) (by simp [results, Tryz.results4, go_sem]) rfl ⟨rfl, HB1.out⟩
   ·
    skip
    have hm1 := HTW.out V1 HB1.out
    unfold RTwin at hm1
    obtain ⟨hl0, f0, f1, f2, f3, f4, f5, f6, f7⟩ := facts8 HRL1.out
    go_wp2_with fail
    refine hm1.mono ?_
    clear hm1
    rintro e V2 ⟨m1, rfl, hl, hb⟩
    have HTL2 := Lib.hid hl
    clear hl
    clear hl0 f0 f1 f2 f3 f4 f5 f6 f7
    have HRL2 := Lib.hid (row_on HRL1.out hb)
    have HRS2 := Lib.hid (row_on HRS1.out hb)
    have HRK2 := Lib.hid (row_on HRK1.out hb)
    have HB2 := Lib.hid (chain HB1.out hb)
    clear hb HRL1 HRS1 HRK1 HB1
    unfold rlC
    dsimp only
    go_upto_region 4 with (fail)
    have HW13 := Lib.hid (heap_alloc_new V2 (.cells #[Value.string l.iss, .int .u64 l.num, .int .i64 l.fr, .int .i64 l.tt, .slice m1.SA l.ser.length m1.sc, .int .i64 l.sg.idx, .slice m1.CA l.sg.cs.length m1.cc, .slice m1.PA l.sg.ps.length m1.pc] 32))
    obtain ⟨W1, hM⟩ : ∃ q, V2.heap.size = q := ⟨_, rfl⟩
    rw [hM] at HW13 ⊢
    generalize hV : World.alloc V2 _ = V3 at HW13 ⊢
    have hb : Below V2.heap.size V2 V3 := by rw [← hV]; exact below_new _ _
    clear hV hM
    have HRL3 := Lib.hid (row_on HRL2.out hb)
    have HRS3 := Lib.hid (row_on HRS2.out hb)
    have HRK3 := Lib.hid (row_on HRK2.out hb)
    have HTL3 := Lib.hid (HTL2.out.on hb)
    have HB3 := Lib.hid (chain HB2.out hb)
    clear hb HRL2 HRS2 HRK2 HTL2 HB2
    have HRL3k := HRL3
    have HB3k := HB3
    have HTL3k := HTL3
    have hsg := HSG.out V3 HB3.out
    unfold SoPost at hsg
    obtain ⟨hl0, f0, f1, f2, f3, f4, f5, f6, f7⟩ := facts8 HRL3.out
    go_wp2_with (refine wpList_load_row rfl 41 (.tmp 6) rfl (w.heap.size + 1) rfl 41 SD (0, 0) _ HRS3.out Tryz.underlying41 rfl HSZ.out ?_)
    refine hsg.mono ?_
    clear hsg
    rintro e V4 ⟨m2, rfl, ha2, ho1, ho2, hb⟩
    have HA24 := Lib.hid ha2
    have HO14 := Lib.hid ho1
    have HO24 := Lib.hid ho2
    have HF4 := Lib.hid hb
    clear ha2 ho1 ho2
    clear hl0 f0 f1 f2 f3 f4 f5 f6 f7
    have HW14 := Lib.hid (row_on HW13.out hb)
    have HTL4 := Lib.hid (HTL3.out.on hb)
    have HRL4 := Lib.hid (row_on HRL3.out hb)
    have HRS4 := Lib.hid (row_on HRS3.out hb)
    have HRK4 := Lib.hid (row_on HRK3.out hb)
    have HB4 := Lib.hid (chain HB3.out hb)
    clear hb HRL3 HRS3 HRK3 HB3
    unfold rlC
    dsimp only
    go_upto_region 5 with (fail)
    have HW25 := Lib.hid (heap_alloc_new V4 (.cells #[Value.string s.iss, .int .u64 s.num, .int .i64 s.fr, .int .i64 s.tt, .slice m2.SA s.ser.length m2.sc, .int .i64 s.sg.idx, .slice m2.CA s.sg.cs.length m2.cc, .slice m2.PA s.sg.ps.length m2.pc] 32))
    obtain ⟨W2, hM⟩ : ∃ q, V4.heap.size = q := ⟨_, rfl⟩
    rw [hM] at HW25 ⊢
    generalize hV : World.alloc V4 _ = V5 at HW25 ⊢
    have hb : Below V4.heap.size V4 V5 := by rw [← hV]; exact below_new _ _
    clear hV hM
    have HRL5 := Lib.hid (row_on HRL4.out hb)
    have HRS5 := Lib.hid (row_on HRS4.out hb)
    have HRK5 := Lib.hid (row_on HRK4.out hb)
    have HA25 := Lib.hid (HA24.out.on hb)
    have HO15 := Lib.hid (HO14.out.on hb)
    have HO25 := Lib.hid (HO24.out.on hb)
    have HB5 := Lib.hid (chain HB4.out hb)
    have HF5 := Lib.hid (chain HF4.out hb)
    clear hb HRL4 HRS4 HRK4 HA24 HO14 HO24 HB4 HF4
    have hsr := HSR.out V5 HB5.out
    unfold RvdPost at hsr
    obtain ⟨hl0, f0, f1, f2, f3, f4, f5, f6, f7⟩ := facts8 HRL5.out
    go_wp2_with (refine wpList_load_row rfl 41 (.tmp 6) rfl (w.heap.size + 1) rfl 41 SD (0, 0) _ HRS5.out Tryz.underlying41 rfl HSZ.out ?_)
    refine hsr.mono ?_
    clear hsr
    rintro e V6 ⟨m3, rfl, ha3, hb⟩
    have HA36 := Lib.hid ha3
    have HW26 := Lib.hid (row_on HW25.out hb)
    clear ha3
    clear hl0 f0 f1 f2 f3 f4 f5 f6 f7
    have HRL6 := Lib.hid (row_on HRL5.out hb)
    have HRS6 := Lib.hid (row_on HRS5.out hb)
    have HRK6 := Lib.hid (row_on HRK5.out hb)
    have HA26 := Lib.hid (HA25.out.on hb)
    have HO16 := Lib.hid (HO15.out.on hb)
    have HO26 := Lib.hid (HO25.out.on hb)
    have HB6 := Lib.hid (chain HB5.out hb)
    have HF6 := Lib.hid (chain HF5.out hb)
    clear hb HRL5 HRS5 HRK5 HA25 HO15 HO25 HB5 HF5
    unfold rlC
    dsimp only
    go_upto_region 6 with (fail)
    have HW37 := Lib.hid (heap_alloc_new V6 (.cells #[Value.string s.iss, .int .u64 s.num, .int .i64 s.fr, .int .i64 s.tt, .slice m3.SA s.ser.length m3.sc, .int .i64 s.sg.idx, .slice m3.CA s.sg.cs.length m3.cc, .slice m3.PA s.sg.ps.length m3.pc] 32))
    obtain ⟨W3, hM⟩ : ∃ q, V6.heap.size = q := ⟨_, rfl⟩
    rw [hM] at HW37 ⊢
    generalize hV : World.alloc V6 _ = V7 at HW37 ⊢
    have hb : Below V6.heap.size V6 V7 := by rw [← hV]; exact below_new _ _
    clear hV hM
    have HW27 := Lib.hid (row_on HW26.out hb)
    have HRL7 := Lib.hid (row_on HRL6.out hb)
    have HRS7 := Lib.hid (row_on HRS6.out hb)
    have HRK7 := Lib.hid (row_on HRK6.out hb)
    have HA27 := Lib.hid (HA26.out.on hb)
    have HA37 := Lib.hid (HA36.out.on hb)
    have HO17 := Lib.hid (HO16.out.on hb)
    have HO27 := Lib.hid (HO26.out.on hb)
    have HB7 := Lib.hid (chain HB6.out hb)
    have HF7 := Lib.hid (chain HF6.out hb)
    clear hb HRL6 HRS6 HRK6 HA26 HA36 HO16 HO26 HB6 HF6
    obtain ⟨U, hU⟩ : ∃ U, V7.drew = U := ⟨_, rfl⟩
    have hbU : Below V7.heap.size V7 U := by rw [← hU]; exact (Below.refl _ _).drew
    have HW2 := Lib.hid (row_on HW27.out hbU)
    have HW3 := Lib.hid (row_on HW37.out hbU)
    have HRLU := Lib.hid (row_on HRL7.out hbU)
    have HRKU := Lib.hid (row_on HRK7.out hbU)
    have HA2 := Lib.hid (HA27.out.on hbU)
    have HA3 := Lib.hid (HA37.out.on hbU)
    have HO1 := Lib.hid (HO17.out.on hbU)
    have HO2 := Lib.hid (HO27.out.on hbU)
    have HBW := Lib.hid (chain HB7.out hbU)
    have HFU := Lib.hid (chain HF7.out hbU)
    have HBU0 := Lib.hid (Below.refl U.heap.size U)
    have mkS : ∀ z : World, Below U.heap.size U z → (fun (z : World) => z.rangeAt W2 0 [Value.string s.iss, .int .u64 s.num, .int .i64 s.fr, .int .i64 s.tt, .slice m2.SA s.ser.length m2.sc, .int .i64 s.sg.idx, .slice m2.CA s.sg.cs.length m2.cc, .slice m2.PA s.sg.ps.length m2.pc] ∧ z.rangeAt W3 0 [Value.string s.iss, .int .u64 s.num, .int .i64 s.fr, .int .i64 s.tt, .slice m3.SA s.ser.length m3.sc, .int .i64 s.sg.idx, .slice m3.CA s.sg.cs.length m3.cc, .slice m3.PA s.sg.ps.length m3.pc] ∧ z.rangeAt w.heap.size 0 [Value.string l.iss, .int .u64 l.num, .int .i64 l.fr, .int .i64 l.tt, .slice p.SA l.ser.length p.sc, .int .i64 l.sg.idx, .slice p.CA l.sg.cs.length p.cc, .slice p.PA l.sg.ps.length p.pc] ∧ z.rangeAt (w.heap.size + 2) 0 PKL) z := fun z hz => ⟨row_range (cs := [Value.string s.iss, .int .u64 s.num, .int .i64 s.fr, .int .i64 s.tt, .slice m2.SA s.ser.length m2.sc, .int .i64 s.sg.idx, .slice m2.CA s.sg.cs.length m2.cc, .slice m2.PA s.sg.ps.length m2.pc]) (row_on HW2.out hz), row_range (cs := [Value.string s.iss, .int .u64 s.num, .int .i64 s.fr, .int .i64 s.tt, .slice m3.SA s.ser.length m3.sc, .int .i64 s.sg.idx, .slice m3.CA s.sg.cs.length m3.cc, .slice m3.PA s.sg.ps.length m3.pc]) (row_on HW3.out hz), row_range (cs := [Value.string l.iss, .int .u64 l.num, .int .i64 l.fr, .int .i64 l.tt, .slice p.SA l.ser.length p.sc, .int .i64 l.sg.idx, .slice p.CA l.sg.cs.length p.cc, .slice p.PA l.sg.ps.length p.pc]) (row_on HRLU.out hz), row_range (cs := PKL) (row_on HRKU.out hz)⟩
    have hS0 : (fun (z : World) => z.rangeAt W2 0 [Value.string s.iss, .int .u64 s.num, .int .i64 s.fr, .int .i64 s.tt, .slice m2.SA s.ser.length m2.sc, .int .i64 s.sg.idx, .slice m2.CA s.sg.cs.length m2.cc, .slice m2.PA s.sg.ps.length m2.pc] ∧ z.rangeAt W3 0 [Value.string s.iss, .int .u64 s.num, .int .i64 s.fr, .int .i64 s.tt, .slice m3.SA s.ser.length m3.sc, .int .i64 s.sg.idx, .slice m3.CA s.sg.cs.length m3.cc, .slice m3.PA s.sg.ps.length m3.pc] ∧ z.rangeAt w.heap.size 0 [Value.string l.iss, .int .u64 l.num, .int .i64 l.fr, .int .i64 l.tt, .slice p.SA l.ser.length p.sc, .int .i64 l.sg.idx, .slice p.CA l.sg.cs.length p.cc, .slice p.PA l.sg.ps.length p.pc] ∧ z.rangeAt (w.heap.size + 2) 0 PKL) V7.drew := by rw [hU]; exact mkS _ HBU0.out
    clear hbU HW27 HW37 HRL7 HRK7 HRS7 HA27 HA37 HO17 HO27 HB7 HF7 HW26
    refine wp_region_held_drew (S := fun (z : World) => z.rangeAt W2 0 [Value.string s.iss, .int .u64 s.num, .int .i64 s.fr, .int .i64 s.tt, .slice m2.SA s.ser.length m2.sc, .int .i64 s.sg.idx, .slice m2.CA s.sg.cs.length m2.cc, .slice m2.PA s.sg.ps.length m2.pc] ∧ z.rangeAt W3 0 [Value.string s.iss, .int .u64 s.num, .int .i64 s.fr, .int .i64 s.tt, .slice m3.SA s.ser.length m3.sc, .int .i64 s.sg.idx, .slice m3.CA s.sg.cs.length m3.cc, .slice m3.PA s.sg.ps.length m3.pc] ∧ z.rangeAt w.heap.size 0 [Value.string l.iss, .int .u64 l.num, .int .i64 l.fr, .int .i64 l.tt, .slice p.SA l.ser.length p.sc, .int .i64 l.sg.idx, .slice p.CA l.sg.cs.length p.cc, .slice p.PA l.sg.ps.length p.pc] ∧ z.rangeAt (w.heap.size + 2) 0 PKL) (by kernel_rfl) hS0 (fun hHeld => ?_)
    rw [hU] at hHeld ⊢
    clear hS0 hU
    refine wpAnyH_take (i := 0) (oi := { dst := some 45, op := .load 32 (.tmp 12), type := 32, pos := "law.go:60", after := #[], guard := none }) (v := .agg ([Value.string s.iss, .int .u64 s.num, .int .i64 s.fr, .int .i64 s.tt, .slice m2.SA s.ser.length m2.sc, .int .i64 s.sg.idx, .slice m2.CA s.sg.cs.length m2.cc, .slice m2.PA s.sg.ps.length m2.pc]).toArray) rfl (by kernel_rfl) (by kernel_rfl) (by kernel_rfl) (fun _ _ _ h => h) (yieldsIf_load_mid (by rfl) _ _ rfl _ _ rfl ([Value.string s.iss, .int .u64 s.num, .int .i64 s.fr, .int .i64 s.tt, .slice m2.SA s.ser.length m2.sc, .int .i64 s.sg.idx, .slice m2.CA s.sg.cs.length m2.cc, .slice m2.PA s.sg.ps.length m2.pc]) _ (fun w hSw => hSw.1) Tryz.underlying32 rfl (sz8l _ rfl)) hHeld ?_
    try simp only [Act.put, List.setIfInBounds_toArray, List.set_cons_zero, List.set_cons_succ]
    refine wpAnyH_take (i := 1) (oi := { dst := some 46, op := .load 32 (.tmp 14), type := 32, pos := "law.go:60", after := #[], guard := none }) (v := .agg ([Value.string s.iss, .int .u64 s.num, .int .i64 s.fr, .int .i64 s.tt, .slice m3.SA s.ser.length m3.sc, .int .i64 s.sg.idx, .slice m3.CA s.sg.cs.length m3.cc, .slice m3.PA s.sg.ps.length m3.pc]).toArray) rfl (by kernel_rfl) (by kernel_rfl) (by kernel_rfl) (fun _ _ _ h => h) (yieldsIf_load_mid (by rfl) _ _ rfl _ _ rfl ([Value.string s.iss, .int .u64 s.num, .int .i64 s.fr, .int .i64 s.tt, .slice m3.SA s.ser.length m3.sc, .int .i64 s.sg.idx, .slice m3.CA s.sg.cs.length m3.cc, .slice m3.PA s.sg.ps.length m3.pc]) _ (fun w hSw => hSw.2.1) Tryz.underlying32 rfl (sz8l _ rfl)) hHeld ?_
    try simp only [Act.put, List.setIfInBounds_toArray, List.set_cons_zero, List.set_cons_succ]
    refine wpAnyH_ready (rs := [2]) (by kernel_rfl) (by simp) (AllReadyH.cons (o := { dst := some 47, op := .call { callee := .value (.func 21), args := #[.tmp 45, .tmp 46], argTypes := #[32, 32] }, type := 4, pos := "law.go:60", after := #[{ on := 0, ground := .data }, { on := 1, ground := .data }], guard := none }) rfl (fun K hK => ?_) AllReadyH.nil)
    go_simp
    have h := HSM.out U _ _ (HA2.out.on HBU0.out) (HA3.out.on HBU0.out)
    unfold rlC at h
    refine h.mono ?_
    clear h
    rintro e y2 ⟨rfl, hb⟩
    have HBU2 := Lib.hid (chain HBU0.out hb)
    clear hb
    go_simp
    refine hK.out _ _ (mkS _ HBU2.out) (fun hHeld2 => ?_)
    clear hK K hHeld
    have hHeld := hHeld2
    clear hHeld2
    try simp only [Act.put, List.setIfInBounds_toArray, List.set_cons_zero, List.set_cons_succ]
    refine wpAnyH_take (i := 3) (oi := { dst := some 48, op := .move (.tmp 47), type := 4, pos := "law.go:60", after := #[{ on := 2, ground := .data }, { on := 2, ground := .chain }], guard := none }) (v := ?_) rfl (by kernel_rfl) (by kernel_rfl) (by kernel_rfl) (fun _ _ _ h => h) (Or.inl ⟨by rfl, ?_⟩) hHeld ?_
    rotate_left
    ·
     intro w hSw
     clear hSw
     go_simp
     try with_reducible rfl
    try simp only [Act.put, List.setIfInBounds_toArray, List.set_cons_zero, List.set_cons_succ]
    refine wpAnyH_take (i := 4) (oi := { dst := some 49, op := .move (.tmp 13), type := 24, pos := "law.go:60", after := #[{ on := 3, ground := .guard }], guard := some (3, true) }) (v := ?_) rfl (by kernel_rfl) (by kernel_rfl) (by kernel_rfl) (fun _ _ _ h => h) (Or.inl ⟨by rfl, ?_⟩) hHeld ?_
    rotate_left
    ·
     intro w hSw
     clear hSw
     go_simp
     try with_reducible rfl
    try simp only [Act.put, List.setIfInBounds_toArray, List.set_cons_zero, List.set_cons_succ]
    refine wpAnyH_take (i := 5) (oi := { dst := some 50, op := .move (.tmp 15), type := 3, pos := "law.go:60", after := #[{ on := 3, ground := .guard }], guard := some (3, true) }) (v := ?_) rfl (by kernel_rfl) (by kernel_rfl) (by kernel_rfl) (fun _ _ _ h => h) (Or.inl ⟨by rfl, ?_⟩) hHeld ?_
    rotate_left
    ·
     intro w hSw
     clear hSw
     go_simp
     try with_reducible rfl
    try simp only [Act.put, List.setIfInBounds_toArray, List.set_cons_zero, List.set_cons_succ]
    refine wpAnyH_take (i := 6) (oi := { dst := some 51, op := .binOp .eql 3 (.tmp 49) (.tmp 50) 3, type := 4, pos := "law.go:60", after := #[{ on := 4, ground := .data }, { on := 5, ground := .data }, { on := 3, ground := .guard }], guard := some (3, true) }) (v := ?_) rfl (by kernel_rfl) (by kernel_rfl) (by kernel_rfl) (fun _ _ _ h => h) (Or.inl ⟨by rfl, ?_⟩) hHeld ?_
    rotate_left
    ·
     intro w hSw
     clear hSw
     go_simp
     try with_reducible rfl
    try simp only [Act.put, List.setIfInBounds_toArray, List.set_cons_zero, List.set_cons_succ]
    refine wpAnyH_take (i := 7) (oi := { dst := some 52, op := .pick (.tmp 48) (.tmp 51) (.const (.bool false)), type := 4, pos := "law.go:60", after := #[{ on := 3, ground := .data }, { on := 6, ground := .data }], guard := none }) (v := ?_) rfl (by kernel_rfl) (by kernel_rfl) (by kernel_rfl) (fun _ _ _ h => h) (Or.inl ⟨by rfl, ?_⟩) hHeld ?_
    rotate_left
    ·
     intro w hSw
     clear hSw
     go_simp
     try with_reducible rfl
    try simp only [Act.put, List.setIfInBounds_toArray, List.set_cons_zero, List.set_cons_succ]
    refine wpAnyH_take (i := 8) (oi := { dst := some 53, op := .move (.tmp 52), type := 4, pos := "law.go:60", after := #[{ on := 7, ground := .data }, { on := 3, ground := .chain }], guard := none }) (v := ?_) rfl (by kernel_rfl) (by kernel_rfl) (by kernel_rfl) (fun _ _ _ h => h) (Or.inl ⟨by rfl, ?_⟩) hHeld ?_
    rotate_left
    ·
     intro w hSw
     clear hSw
     go_simp
     try with_reducible rfl
    try simp only [Act.put, List.setIfInBounds_toArray, List.set_cons_zero, List.set_cons_succ]
    refine wpAnyH_take (i := 9) (oi := { dst := some 54, op := .load 32 (.tmp 5), type := 32, pos := "law.go:60", after := #[{ on := 8, ground := .guard }], guard := some (8, true) }) (v := .agg ([Value.string l.iss, .int .u64 l.num, .int .i64 l.fr, .int .i64 l.tt, .slice p.SA l.ser.length p.sc, .int .i64 l.sg.idx, .slice p.CA l.sg.cs.length p.cc, .slice p.PA l.sg.ps.length p.pc]).toArray) rfl (by kernel_rfl) (by kernel_rfl) (by kernel_rfl) (fun _ _ _ h => h) (yieldsIf_load_mid (by rfl) _ _ rfl _ _ rfl ([Value.string l.iss, .int .u64 l.num, .int .i64 l.fr, .int .i64 l.tt, .slice p.SA l.ser.length p.sc, .int .i64 l.sg.idx, .slice p.CA l.sg.cs.length p.cc, .slice p.PA l.sg.ps.length p.pc]) _ (fun w hSw => hSw.2.2.1) Tryz.underlying32 rfl (sz8l _ rfl)) hHeld ?_
    try simp only [Act.put, List.setIfInBounds_toArray, List.set_cons_zero, List.set_cons_succ]
    refine wpAnyH_take (i := 10) (oi := { dst := some 55, op := .load 43 (.tmp 9), type := 43, pos := "law.go:60", after := #[{ on := 8, ground := .guard }], guard := some (8, true) }) (v := .agg (PKL).toArray) rfl (by kernel_rfl) (by kernel_rfl) (by kernel_rfl) (fun _ _ _ h => h) (yieldsIf_load_mid (by rfl) _ _ rfl _ _ rfl (PKL) _ (fun w hSw => hSw.2.2.2) Tryz.underlying43 rfl HSZK.out) hHeld ?_
    try simp only [Act.put, List.setIfInBounds_toArray, List.set_cons_zero, List.set_cons_succ]
    refine wpAnyH_take (i := 12) (oi := { dst := some 57, op := .load 32 (.tmp 5), type := 32, pos := "law.go:60", after := #[{ on := 8, ground := .guard }], guard := some (8, true) }) (v := .agg ([Value.string l.iss, .int .u64 l.num, .int .i64 l.fr, .int .i64 l.tt, .slice p.SA l.ser.length p.sc, .int .i64 l.sg.idx, .slice p.CA l.sg.cs.length p.cc, .slice p.PA l.sg.ps.length p.pc]).toArray) rfl (by kernel_rfl) (by kernel_rfl) (by kernel_rfl) (fun _ _ _ h => h) (yieldsIf_load_mid (by rfl) _ _ rfl _ _ rfl ([Value.string l.iss, .int .u64 l.num, .int .i64 l.fr, .int .i64 l.tt, .slice p.SA l.ser.length p.sc, .int .i64 l.sg.idx, .slice p.CA l.sg.cs.length p.cc, .slice p.PA l.sg.ps.length p.pc]) _ (fun w hSw => hSw.2.2.1) Tryz.underlying32 rfl (sz8l _ rfl)) hHeld ?_
    try simp only [Act.put, List.setIfInBounds_toArray, List.set_cons_zero, List.set_cons_succ]
    refine wpAnyH_take (i := 13) (oi := { dst := some 58, op := .load 43 (.tmp 9), type := 43, pos := "law.go:60", after := #[{ on := 8, ground := .guard }], guard := some (8, true) }) (v := .agg (PKL).toArray) rfl (by kernel_rfl) (by kernel_rfl) (by kernel_rfl) (fun _ _ _ h => h) (yieldsIf_load_mid (by rfl) _ _ rfl _ _ rfl (PKL) _ (fun w hSw => hSw.2.2.2) Tryz.underlying43 rfl HSZK.out) hHeld ?_
    try simp only [Act.put, List.setIfInBounds_toArray, List.set_cons_zero, List.set_cons_succ]
    refine wpAnyH_ready (rs := [11]) (by kernel_rfl) (by simp) (AllReadyH.cons (o := { dst := some 56, op := .call { callee := .value (.func 17), args := #[.tmp 54, .tmp 55], argTypes := #[32, 43] }, type := 24, pos := "law.go:60", after := #[{ on := 9, ground := .data }, { on := 10, ground := .data }, { on := 8, ground := .chain }, { on := 8, ground := .guard }], guard := some (8, true) }) rfl (fun K hK => ?_) AllReadyH.nil)
    go_simp
    have h := HV1.out y2 (chain HBW.out HBU2.out)
    unfold rlC at h
    refine h.mono ?_
    clear h
    rintro e y11 ⟨rfl, hb⟩
    have HBU11 := Lib.hid (chain HBU2.out hb)
    clear hb
    go_simp
    refine hK.out _ _ (mkS _ HBU11.out) (fun hHeld2 => ?_)
    clear hK K hHeld
    have hHeld := hHeld2
    clear hHeld2
    try simp only [Act.put, List.setIfInBounds_toArray, List.set_cons_zero, List.set_cons_succ]
    refine wpAnyH_ready (rs := [14]) (by kernel_rfl) (by simp) (AllReadyH.cons (o := { dst := some 59, op := .call { callee := .value (.func 22), args := #[.tmp 57, .tmp 58], argTypes := #[32, 43] }, type := 3, pos := "law.go:60", after := #[{ on := 12, ground := .data }, { on := 13, ground := .data }, { on := 11, ground := .chain }, { on := 8, ground := .guard }], guard := some (8, true) }) rfl (fun K hK => ?_) AllReadyH.nil)
    go_simp
    have h := HV2.out y11 (chain HBW.out HBU11.out)
    unfold rlC at h
    refine h.mono ?_
    clear h
    rintro e y14 ⟨rfl, hb⟩
    have HBU14 := Lib.hid (chain HBU11.out hb)
    clear hb
    go_simp
    refine hK.out _ _ (mkS _ HBU14.out) (fun hHeld2 => ?_)
    clear hK K hHeld
    have hHeld := hHeld2
    clear hHeld2
    try simp only [Act.put, List.setIfInBounds_toArray, List.set_cons_zero, List.set_cons_succ]
    refine wpAnyH_take (i := 15) (oi := { dst := some 60, op := .binOp .eql 3 (.tmp 56) (.tmp 59) 3, type := 4, pos := "law.go:60", after := #[{ on := 11, ground := .data }, { on := 14, ground := .data }, { on := 8, ground := .guard }], guard := some (8, true) }) (v := ?_) rfl (by kernel_rfl) (by kernel_rfl) (by kernel_rfl) (fun _ _ _ h => h) (Or.inl ⟨by rfl, ?_⟩) hHeld ?_
    rotate_left
    ·
     intro w hSw
     clear hSw
     go_simp
     try with_reducible rfl
    try simp only [Act.put, List.setIfInBounds_toArray, List.set_cons_zero, List.set_cons_succ]
    refine wpAnyH_take (i := 16) (oi := { dst := some 61, op := .pick (.tmp 53) (.tmp 60) (.const (.bool false)), type := 4, pos := "law.go:60", after := #[{ on := 8, ground := .data }, { on := 15, ground := .data }], guard := none }) (v := ?_) rfl (by kernel_rfl) (by kernel_rfl) (by kernel_rfl) (fun _ _ _ h => h) (Or.inl ⟨by rfl, ?_⟩) hHeld ?_
    rotate_left
    ·
     intro w hSw
     clear hSw
     go_simp
     try with_reducible rfl
    try simp only [Act.put, List.setIfInBounds_toArray, List.set_cons_zero, List.set_cons_succ]
    refine wpAnyH_take (i := 17) (oi := { dst := some 16, op := .assign (.tmp 61), type := 4, pos := "law.go:60", after := #[{ on := 16, ground := .data }, { on := 14, ground := .chain }, { on := 0, ground := .phase }, { on := 1, ground := .phase }, { on := 2, ground := .phase }, { on := 3, ground := .phase }, { on := 4, ground := .phase }, { on := 5, ground := .phase }, { on := 6, ground := .phase }, { on := 7, ground := .phase }, { on := 8, ground := .phase }, { on := 9, ground := .phase }, { on := 10, ground := .phase }, { on := 11, ground := .phase }, { on := 12, ground := .phase }, { on := 13, ground := .phase }, { on := 14, ground := .phase }, { on := 15, ground := .phase }, { on := 16, ground := .phase }], guard := none }) (v := ?_) rfl (by kernel_rfl) (by kernel_rfl) (by kernel_rfl) (fun _ _ _ h => h) (Or.inl ⟨by rfl, ?_⟩) hHeld ?_
    rotate_left
    ·
     intro w hSw
     clear hSw
     go_simp
     try with_reducible rfl
    try simp only [Act.put, List.setIfInBounds_toArray, List.set_cons_zero, List.set_cons_succ]
    refine wpAnyH_done (by kernel_rfl) ?_ _
    clear mkS
    have HA2y := Lib.hid (HA2.out.on HBU14.out)
    have hsp := spoil_any V3.heap.size s m2 y14 (Nat.le_trans HFU.out.size HBU14.out.size) HA2y.out (HO1.out.on HBU14.out) (HO2.out.on HBU14.out)
    unfold rlC at hsp
    have HW2y := Lib.hid (row_on HW2.out HBU14.out)
    have HFy := Lib.hid (chain HFU.out HBU14.out)
    obtain ⟨hl0, f0, f1, f2, f3, f4, f5, f6, f7⟩ := facts8 HW2y.out
    go_wp2_with fail
    refine hsp.mono ?_
    clear hsp
    rintro e V9 ⟨rfl, hb⟩
    have HF9 := Lib.hid (HFy.out.trans hb)
    have HRL9 := Lib.hid (row_on HRL3k.out HF9.out)
    have HW19 := Lib.hid (row_on HW13.out HF9.out)
    have HB9 := Lib.hid (chain HB3k.out HF9.out)
    clear hb
    clear hl0 f0 f1 f2 f3 f4 f5 f6 f7
    obtain ⟨hl0, f0, f1, f2, f3, f4, f5, f6, f7⟩ := facts8 HRL9.out
    obtain ⟨hl1, p0, p1, p2, p3, p4, p5, p6, p7⟩ := facts8 HW19.out
    have hsm := HSL.out V9 m1 HB9.out (HTL3k.out.on HF9.out)
    unfold rlC at hsm
    go_wp2_with fail
    refine hsm.mono ?_
    clear hsm
    rintro e V10 ⟨rfl, hb⟩
    have HB10 := Lib.hid (chain HB9.out hb)
    clear hb
    go_wp2_with fail
    refine bodyPost_ret (v := .bool true) (by simp [results, Tryz.results4, go_sem]) rfl ⟨rfl, HB10.out⟩
  ·
   skip
   have hm1 := HTW.out V1 HB1.out
   unfold RTwin at hm1
   obtain ⟨hl0, f0, f1, f2, f3, f4, f5, f6, f7⟩ := facts8 HRL1.out
   go_wp2_with fail
   refine hm1.mono ?_
   clear hm1
   rintro e V2 ⟨m1, rfl, hl, hb⟩
   have HTL2 := Lib.hid hl
   clear hl
   clear hl0 f0 f1 f2 f3 f4 f5 f6 f7
   have HRL2 := Lib.hid (row_on HRL1.out hb)
   have HRS2 := Lib.hid (row_on HRS1.out hb)
   have HRK2 := Lib.hid (row_on HRK1.out hb)
   have HB2 := Lib.hid (chain HB1.out hb)
   clear hb HRL1 HRS1 HRK1 HB1
   unfold rlC
   dsimp only
   go_upto_region 4 with (fail)
   have HW13 := Lib.hid (heap_alloc_new V2 (.cells #[Value.string l.iss, .int .u64 l.num, .int .i64 l.fr, .int .i64 l.tt, .slice m1.SA l.ser.length m1.sc, .int .i64 l.sg.idx, .slice m1.CA l.sg.cs.length m1.cc, .slice m1.PA l.sg.ps.length m1.pc] 32))
   obtain ⟨W1, hM⟩ : ∃ q, V2.heap.size = q := ⟨_, rfl⟩
   rw [hM] at HW13 ⊢
   generalize hV : World.alloc V2 _ = V3 at HW13 ⊢
   have hb : Below V2.heap.size V2 V3 := by rw [← hV]; exact below_new _ _
   clear hV hM
   have HRL3 := Lib.hid (row_on HRL2.out hb)
   have HRS3 := Lib.hid (row_on HRS2.out hb)
   have HRK3 := Lib.hid (row_on HRK2.out hb)
   have HTL3 := Lib.hid (HTL2.out.on hb)
   have HB3 := Lib.hid (chain HB2.out hb)
   clear hb HRL2 HRS2 HRK2 HTL2 HB2
   have HRL3k := HRL3
   have HB3k := HB3
   have HTL3k := HTL3
   have hsg := HSG.out V3 HB3.out
   unfold SoPost at hsg
   obtain ⟨hl0, f0, f1, f2, f3, f4, f5, f6, f7⟩ := facts8 HRL3.out
   go_wp2_with (refine wpList_load_row rfl 41 (.tmp 6) rfl (w.heap.size + 1) rfl 41 SD (0, 0) _ HRS3.out Tryz.underlying41 rfl HSZ.out ?_)
   refine hsg.mono ?_
   clear hsg
   rintro e V4 ⟨m2, rfl, ha2, ho1, ho2, hb⟩
   have HA24 := Lib.hid ha2
   have HO14 := Lib.hid ho1
   have HO24 := Lib.hid ho2
   have HF4 := Lib.hid hb
   clear ha2 ho1 ho2
   clear hl0 f0 f1 f2 f3 f4 f5 f6 f7
   have HW14 := Lib.hid (row_on HW13.out hb)
   have HTL4 := Lib.hid (HTL3.out.on hb)
   have HRL4 := Lib.hid (row_on HRL3.out hb)
   have HRS4 := Lib.hid (row_on HRS3.out hb)
   have HRK4 := Lib.hid (row_on HRK3.out hb)
   have HB4 := Lib.hid (chain HB3.out hb)
   clear hb HRL3 HRS3 HRK3 HB3
   unfold rlC
   dsimp only
   go_upto_region 5 with (fail)
   have HW25 := Lib.hid (heap_alloc_new V4 (.cells #[Value.string s.iss, .int .u64 s.num, .int .i64 s.fr, .int .i64 s.tt, .slice m2.SA s.ser.length m2.sc, .int .i64 s.sg.idx, .slice m2.CA s.sg.cs.length m2.cc, .slice m2.PA s.sg.ps.length m2.pc] 32))
   obtain ⟨W2, hM⟩ : ∃ q, V4.heap.size = q := ⟨_, rfl⟩
   rw [hM] at HW25 ⊢
   generalize hV : World.alloc V4 _ = V5 at HW25 ⊢
   have hb : Below V4.heap.size V4 V5 := by rw [← hV]; exact below_new _ _
   clear hV hM
   have HRL5 := Lib.hid (row_on HRL4.out hb)
   have HRS5 := Lib.hid (row_on HRS4.out hb)
   have HRK5 := Lib.hid (row_on HRK4.out hb)
   have HA25 := Lib.hid (HA24.out.on hb)
   have HO15 := Lib.hid (HO14.out.on hb)
   have HO25 := Lib.hid (HO24.out.on hb)
   have HB5 := Lib.hid (chain HB4.out hb)
   have HF5 := Lib.hid (chain HF4.out hb)
   clear hb HRL4 HRS4 HRK4 HA24 HO14 HO24 HB4 HF4
   have hsr := HSR.out V5 HB5.out
   unfold RvdPost at hsr
   obtain ⟨hl0, f0, f1, f2, f3, f4, f5, f6, f7⟩ := facts8 HRL5.out
   go_wp2_with (refine wpList_load_row rfl 41 (.tmp 6) rfl (w.heap.size + 1) rfl 41 SD (0, 0) _ HRS5.out Tryz.underlying41 rfl HSZ.out ?_)
   refine hsr.mono ?_
   clear hsr
   rintro e V6 ⟨m3, rfl, ha3, hb⟩
   have HA36 := Lib.hid ha3
   have HW26 := Lib.hid (row_on HW25.out hb)
   clear ha3
   clear hl0 f0 f1 f2 f3 f4 f5 f6 f7
   have HRL6 := Lib.hid (row_on HRL5.out hb)
   have HRS6 := Lib.hid (row_on HRS5.out hb)
   have HRK6 := Lib.hid (row_on HRK5.out hb)
   have HA26 := Lib.hid (HA25.out.on hb)
   have HO16 := Lib.hid (HO15.out.on hb)
   have HO26 := Lib.hid (HO25.out.on hb)
   have HB6 := Lib.hid (chain HB5.out hb)
   have HF6 := Lib.hid (chain HF5.out hb)
   clear hb HRL5 HRS5 HRK5 HA25 HO15 HO25 HB5 HF5
   unfold rlC
   dsimp only
   go_upto_region 6 with (fail)
   have HW37 := Lib.hid (heap_alloc_new V6 (.cells #[Value.string s.iss, .int .u64 s.num, .int .i64 s.fr, .int .i64 s.tt, .slice m3.SA s.ser.length m3.sc, .int .i64 s.sg.idx, .slice m3.CA s.sg.cs.length m3.cc, .slice m3.PA s.sg.ps.length m3.pc] 32))
   obtain ⟨W3, hM⟩ : ∃ q, V6.heap.size = q := ⟨_, rfl⟩
   rw [hM] at HW37 ⊢
   generalize hV : World.alloc V6 _ = V7 at HW37 ⊢
   have hb : Below V6.heap.size V6 V7 := by rw [← hV]; exact below_new _ _
   clear hV hM
   have HW27 := Lib.hid (row_on HW26.out hb)
   have HRL7 := Lib.hid (row_on HRL6.out hb)
   have HRS7 := Lib.hid (row_on HRS6.out hb)
   have HRK7 := Lib.hid (row_on HRK6.out hb)
   have HA27 := Lib.hid (HA26.out.on hb)
   have HA37 := Lib.hid (HA36.out.on hb)
   have HO17 := Lib.hid (HO16.out.on hb)
   have HO27 := Lib.hid (HO26.out.on hb)
   have HB7 := Lib.hid (chain HB6.out hb)
   have HF7 := Lib.hid (chain HF6.out hb)
   clear hb HRL6 HRS6 HRK6 HA26 HA36 HO16 HO26 HB6 HF6
   obtain ⟨U, hU⟩ : ∃ U, V7.drew = U := ⟨_, rfl⟩
   have hbU : Below V7.heap.size V7 U := by rw [← hU]; exact (Below.refl _ _).drew
   have HW2 := Lib.hid (row_on HW27.out hbU)
   have HW3 := Lib.hid (row_on HW37.out hbU)
   have HRLU := Lib.hid (row_on HRL7.out hbU)
   have HRKU := Lib.hid (row_on HRK7.out hbU)
   have HA2 := Lib.hid (HA27.out.on hbU)
   have HA3 := Lib.hid (HA37.out.on hbU)
   have HO1 := Lib.hid (HO17.out.on hbU)
   have HO2 := Lib.hid (HO27.out.on hbU)
   have HBW := Lib.hid (chain HB7.out hbU)
   have HFU := Lib.hid (chain HF7.out hbU)
   have HBU0 := Lib.hid (Below.refl U.heap.size U)
   have mkS : ∀ z : World, Below U.heap.size U z → (fun (z : World) => z.rangeAt W2 0 [Value.string s.iss, .int .u64 s.num, .int .i64 s.fr, .int .i64 s.tt, .slice m2.SA s.ser.length m2.sc, .int .i64 s.sg.idx, .slice m2.CA s.sg.cs.length m2.cc, .slice m2.PA s.sg.ps.length m2.pc] ∧ z.rangeAt W3 0 [Value.string s.iss, .int .u64 s.num, .int .i64 s.fr, .int .i64 s.tt, .slice m3.SA s.ser.length m3.sc, .int .i64 s.sg.idx, .slice m3.CA s.sg.cs.length m3.cc, .slice m3.PA s.sg.ps.length m3.pc] ∧ z.rangeAt w.heap.size 0 [Value.string l.iss, .int .u64 l.num, .int .i64 l.fr, .int .i64 l.tt, .slice p.SA l.ser.length p.sc, .int .i64 l.sg.idx, .slice p.CA l.sg.cs.length p.cc, .slice p.PA l.sg.ps.length p.pc] ∧ z.rangeAt (w.heap.size + 2) 0 PKL) z := fun z hz => ⟨row_range (cs := [Value.string s.iss, .int .u64 s.num, .int .i64 s.fr, .int .i64 s.tt, .slice m2.SA s.ser.length m2.sc, .int .i64 s.sg.idx, .slice m2.CA s.sg.cs.length m2.cc, .slice m2.PA s.sg.ps.length m2.pc]) (row_on HW2.out hz), row_range (cs := [Value.string s.iss, .int .u64 s.num, .int .i64 s.fr, .int .i64 s.tt, .slice m3.SA s.ser.length m3.sc, .int .i64 s.sg.idx, .slice m3.CA s.sg.cs.length m3.cc, .slice m3.PA s.sg.ps.length m3.pc]) (row_on HW3.out hz), row_range (cs := [Value.string l.iss, .int .u64 l.num, .int .i64 l.fr, .int .i64 l.tt, .slice p.SA l.ser.length p.sc, .int .i64 l.sg.idx, .slice p.CA l.sg.cs.length p.cc, .slice p.PA l.sg.ps.length p.pc]) (row_on HRLU.out hz), row_range (cs := PKL) (row_on HRKU.out hz)⟩
   have hS0 : (fun (z : World) => z.rangeAt W2 0 [Value.string s.iss, .int .u64 s.num, .int .i64 s.fr, .int .i64 s.tt, .slice m2.SA s.ser.length m2.sc, .int .i64 s.sg.idx, .slice m2.CA s.sg.cs.length m2.cc, .slice m2.PA s.sg.ps.length m2.pc] ∧ z.rangeAt W3 0 [Value.string s.iss, .int .u64 s.num, .int .i64 s.fr, .int .i64 s.tt, .slice m3.SA s.ser.length m3.sc, .int .i64 s.sg.idx, .slice m3.CA s.sg.cs.length m3.cc, .slice m3.PA s.sg.ps.length m3.pc] ∧ z.rangeAt w.heap.size 0 [Value.string l.iss, .int .u64 l.num, .int .i64 l.fr, .int .i64 l.tt, .slice p.SA l.ser.length p.sc, .int .i64 l.sg.idx, .slice p.CA l.sg.cs.length p.cc, .slice p.PA l.sg.ps.length p.pc] ∧ z.rangeAt (w.heap.size + 2) 0 PKL) V7.drew := by rw [hU]; exact mkS _ HBU0.out
   clear hbU HW27 HW37 HRL7 HRK7 HRS7 HA27 HA37 HO17 HO27 HB7 HF7 HW26
   refine wp_region_held_drew (S := fun (z : World) => z.rangeAt W2 0 [Value.string s.iss, .int .u64 s.num, .int .i64 s.fr, .int .i64 s.tt, .slice m2.SA s.ser.length m2.sc, .int .i64 s.sg.idx, .slice m2.CA s.sg.cs.length m2.cc, .slice m2.PA s.sg.ps.length m2.pc] ∧ z.rangeAt W3 0 [Value.string s.iss, .int .u64 s.num, .int .i64 s.fr, .int .i64 s.tt, .slice m3.SA s.ser.length m3.sc, .int .i64 s.sg.idx, .slice m3.CA s.sg.cs.length m3.cc, .slice m3.PA s.sg.ps.length m3.pc] ∧ z.rangeAt w.heap.size 0 [Value.string l.iss, .int .u64 l.num, .int .i64 l.fr, .int .i64 l.tt, .slice p.SA l.ser.length p.sc, .int .i64 l.sg.idx, .slice p.CA l.sg.cs.length p.cc, .slice p.PA l.sg.ps.length p.pc] ∧ z.rangeAt (w.heap.size + 2) 0 PKL) (by kernel_rfl) hS0 (fun hHeld => ?_)
   rw [hU] at hHeld ⊢
   clear hS0 hU
   refine wpAnyH_take (i := 0) (oi := { dst := some 45, op := .load 32 (.tmp 12), type := 32, pos := "law.go:60", after := #[], guard := none }) (v := .agg ([Value.string s.iss, .int .u64 s.num, .int .i64 s.fr, .int .i64 s.tt, .slice m2.SA s.ser.length m2.sc, .int .i64 s.sg.idx, .slice m2.CA s.sg.cs.length m2.cc, .slice m2.PA s.sg.ps.length m2.pc]).toArray) rfl (by kernel_rfl) (by kernel_rfl) (by kernel_rfl) (fun _ _ _ h => h) (yieldsIf_load_mid (by rfl) _ _ rfl _ _ rfl ([Value.string s.iss, .int .u64 s.num, .int .i64 s.fr, .int .i64 s.tt, .slice m2.SA s.ser.length m2.sc, .int .i64 s.sg.idx, .slice m2.CA s.sg.cs.length m2.cc, .slice m2.PA s.sg.ps.length m2.pc]) _ (fun w hSw => hSw.1) Tryz.underlying32 rfl (sz8l _ rfl)) hHeld ?_
   try simp only [Act.put, List.setIfInBounds_toArray, List.set_cons_zero, List.set_cons_succ]
   refine wpAnyH_take (i := 1) (oi := { dst := some 46, op := .load 32 (.tmp 14), type := 32, pos := "law.go:60", after := #[], guard := none }) (v := .agg ([Value.string s.iss, .int .u64 s.num, .int .i64 s.fr, .int .i64 s.tt, .slice m3.SA s.ser.length m3.sc, .int .i64 s.sg.idx, .slice m3.CA s.sg.cs.length m3.cc, .slice m3.PA s.sg.ps.length m3.pc]).toArray) rfl (by kernel_rfl) (by kernel_rfl) (by kernel_rfl) (fun _ _ _ h => h) (yieldsIf_load_mid (by rfl) _ _ rfl _ _ rfl ([Value.string s.iss, .int .u64 s.num, .int .i64 s.fr, .int .i64 s.tt, .slice m3.SA s.ser.length m3.sc, .int .i64 s.sg.idx, .slice m3.CA s.sg.cs.length m3.cc, .slice m3.PA s.sg.ps.length m3.pc]) _ (fun w hSw => hSw.2.1) Tryz.underlying32 rfl (sz8l _ rfl)) hHeld ?_
   try simp only [Act.put, List.setIfInBounds_toArray, List.set_cons_zero, List.set_cons_succ]
   refine wpAnyH_ready (rs := [2]) (by kernel_rfl) (by simp) (AllReadyH.cons (o := { dst := some 47, op := .call { callee := .value (.func 21), args := #[.tmp 45, .tmp 46], argTypes := #[32, 32] }, type := 4, pos := "law.go:60", after := #[{ on := 0, ground := .data }, { on := 1, ground := .data }], guard := none }) rfl (fun K hK => ?_) AllReadyH.nil)
   go_simp
   have h := HSM.out U _ _ (HA2.out.on HBU0.out) (HA3.out.on HBU0.out)
   unfold rlC at h
   refine h.mono ?_
   clear h
   rintro e y2 ⟨rfl, hb⟩
   have HBU2 := Lib.hid (chain HBU0.out hb)
   clear hb
   go_simp
   refine hK.out _ _ (mkS _ HBU2.out) (fun hHeld2 => ?_)
   clear hK K hHeld
   have hHeld := hHeld2
   clear hHeld2
   try simp only [Act.put, List.setIfInBounds_toArray, List.set_cons_zero, List.set_cons_succ]
   refine wpAnyH_take (i := 3) (oi := { dst := some 48, op := .move (.tmp 47), type := 4, pos := "law.go:60", after := #[{ on := 2, ground := .data }, { on := 2, ground := .chain }], guard := none }) (v := ?_) rfl (by kernel_rfl) (by kernel_rfl) (by kernel_rfl) (fun _ _ _ h => h) (Or.inl ⟨by rfl, ?_⟩) hHeld ?_
   rotate_left
   ·
    intro w hSw
    clear hSw
    go_simp
    try with_reducible rfl
   try simp only [Act.put, List.setIfInBounds_toArray, List.set_cons_zero, List.set_cons_succ]
   refine wpAnyH_take (i := 4) (oi := { dst := some 49, op := .move (.tmp 13), type := 24, pos := "law.go:60", after := #[{ on := 3, ground := .guard }], guard := some (3, true) }) (v := ?_) rfl (by kernel_rfl) (by kernel_rfl) (by kernel_rfl) (fun _ _ _ h => h) (Or.inl ⟨by rfl, ?_⟩) hHeld ?_
   rotate_left
   ·
    intro w hSw
    clear hSw
    go_simp
    try with_reducible rfl
   try simp only [Act.put, List.setIfInBounds_toArray, List.set_cons_zero, List.set_cons_succ]
   refine wpAnyH_take (i := 5) (oi := { dst := some 50, op := .move (.tmp 15), type := 3, pos := "law.go:60", after := #[{ on := 3, ground := .guard }], guard := some (3, true) }) (v := ?_) rfl (by kernel_rfl) (by kernel_rfl) (by kernel_rfl) (fun _ _ _ h => h) (Or.inl ⟨by rfl, ?_⟩) hHeld ?_
   rotate_left
   ·
    intro w hSw
    clear hSw
    go_simp
    try with_reducible rfl
   try simp only [Act.put, List.setIfInBounds_toArray, List.set_cons_zero, List.set_cons_succ]
   refine wpAnyH_take (i := 6) (oi := { dst := some 51, op := .binOp .eql 3 (.tmp 49) (.tmp 50) 3, type := 4, pos := "law.go:60", after := #[{ on := 4, ground := .data }, { on := 5, ground := .data }, { on := 3, ground := .guard }], guard := some (3, true) }) (v := ?_) rfl (by kernel_rfl) (by kernel_rfl) (by kernel_rfl) (fun _ _ _ h => h) (Or.inl ⟨by rfl, ?_⟩) hHeld ?_
   rotate_left
   ·
    intro w hSw
    clear hSw
    go_simp
    try with_reducible rfl
   try simp only [Act.put, List.setIfInBounds_toArray, List.set_cons_zero, List.set_cons_succ]
   refine wpAnyH_take (i := 7) (oi := { dst := some 52, op := .pick (.tmp 48) (.tmp 51) (.const (.bool false)), type := 4, pos := "law.go:60", after := #[{ on := 3, ground := .data }, { on := 6, ground := .data }], guard := none }) (v := ?_) rfl (by kernel_rfl) (by kernel_rfl) (by kernel_rfl) (fun _ _ _ h => h) (Or.inl ⟨by rfl, ?_⟩) hHeld ?_
   rotate_left
   ·
    intro w hSw
    clear hSw
    go_simp
    try with_reducible rfl
   try simp only [Act.put, List.setIfInBounds_toArray, List.set_cons_zero, List.set_cons_succ]
   refine wpAnyH_take (i := 8) (oi := { dst := some 53, op := .move (.tmp 52), type := 4, pos := "law.go:60", after := #[{ on := 7, ground := .data }, { on := 3, ground := .chain }], guard := none }) (v := ?_) rfl (by kernel_rfl) (by kernel_rfl) (by kernel_rfl) (fun _ _ _ h => h) (Or.inl ⟨by rfl, ?_⟩) hHeld ?_
   rotate_left
   ·
    intro w hSw
    clear hSw
    go_simp
    try with_reducible rfl
   try simp only [Act.put, List.setIfInBounds_toArray, List.set_cons_zero, List.set_cons_succ]
   refine wpAnyH_take (i := 9) (oi := { dst := some 54, op := .load 32 (.tmp 5), type := 32, pos := "law.go:60", after := #[{ on := 8, ground := .guard }], guard := some (8, true) }) (v := .agg ([Value.string l.iss, .int .u64 l.num, .int .i64 l.fr, .int .i64 l.tt, .slice p.SA l.ser.length p.sc, .int .i64 l.sg.idx, .slice p.CA l.sg.cs.length p.cc, .slice p.PA l.sg.ps.length p.pc]).toArray) rfl (by kernel_rfl) (by kernel_rfl) (by kernel_rfl) (fun _ _ _ h => h) (yieldsIf_load_mid (by rfl) _ _ rfl _ _ rfl ([Value.string l.iss, .int .u64 l.num, .int .i64 l.fr, .int .i64 l.tt, .slice p.SA l.ser.length p.sc, .int .i64 l.sg.idx, .slice p.CA l.sg.cs.length p.cc, .slice p.PA l.sg.ps.length p.pc]) _ (fun w hSw => hSw.2.2.1) Tryz.underlying32 rfl (sz8l _ rfl)) hHeld ?_
   try simp only [Act.put, List.setIfInBounds_toArray, List.set_cons_zero, List.set_cons_succ]
   refine wpAnyH_take (i := 10) (oi := { dst := some 55, op := .load 43 (.tmp 9), type := 43, pos := "law.go:60", after := #[{ on := 8, ground := .guard }], guard := some (8, true) }) (v := .agg (PKL).toArray) rfl (by kernel_rfl) (by kernel_rfl) (by kernel_rfl) (fun _ _ _ h => h) (yieldsIf_load_mid (by rfl) _ _ rfl _ _ rfl (PKL) _ (fun w hSw => hSw.2.2.2) Tryz.underlying43 rfl HSZK.out) hHeld ?_
   try simp only [Act.put, List.setIfInBounds_toArray, List.set_cons_zero, List.set_cons_succ]
   refine wpAnyH_take (i := 12) (oi := { dst := some 57, op := .load 32 (.tmp 5), type := 32, pos := "law.go:60", after := #[{ on := 8, ground := .guard }], guard := some (8, true) }) (v := .agg ([Value.string l.iss, .int .u64 l.num, .int .i64 l.fr, .int .i64 l.tt, .slice p.SA l.ser.length p.sc, .int .i64 l.sg.idx, .slice p.CA l.sg.cs.length p.cc, .slice p.PA l.sg.ps.length p.pc]).toArray) rfl (by kernel_rfl) (by kernel_rfl) (by kernel_rfl) (fun _ _ _ h => h) (yieldsIf_load_mid (by rfl) _ _ rfl _ _ rfl ([Value.string l.iss, .int .u64 l.num, .int .i64 l.fr, .int .i64 l.tt, .slice p.SA l.ser.length p.sc, .int .i64 l.sg.idx, .slice p.CA l.sg.cs.length p.cc, .slice p.PA l.sg.ps.length p.pc]) _ (fun w hSw => hSw.2.2.1) Tryz.underlying32 rfl (sz8l _ rfl)) hHeld ?_
   try simp only [Act.put, List.setIfInBounds_toArray, List.set_cons_zero, List.set_cons_succ]
   refine wpAnyH_take (i := 13) (oi := { dst := some 58, op := .load 43 (.tmp 9), type := 43, pos := "law.go:60", after := #[{ on := 8, ground := .guard }], guard := some (8, true) }) (v := .agg (PKL).toArray) rfl (by kernel_rfl) (by kernel_rfl) (by kernel_rfl) (fun _ _ _ h => h) (yieldsIf_load_mid (by rfl) _ _ rfl _ _ rfl (PKL) _ (fun w hSw => hSw.2.2.2) Tryz.underlying43 rfl HSZK.out) hHeld ?_
   try simp only [Act.put, List.setIfInBounds_toArray, List.set_cons_zero, List.set_cons_succ]
   refine wpAnyH_ready (rs := [11]) (by kernel_rfl) (by simp) (AllReadyH.cons (o := { dst := some 56, op := .call { callee := .value (.func 17), args := #[.tmp 54, .tmp 55], argTypes := #[32, 43] }, type := 24, pos := "law.go:60", after := #[{ on := 9, ground := .data }, { on := 10, ground := .data }, { on := 8, ground := .chain }, { on := 8, ground := .guard }], guard := some (8, true) }) rfl (fun K hK => ?_) AllReadyH.nil)
   go_simp
   have h := HV1.out y2 (chain HBW.out HBU2.out)
   unfold rlC at h
   refine h.mono ?_
   clear h
   rintro e y11 ⟨rfl, hb⟩
   have HBU11 := Lib.hid (chain HBU2.out hb)
   clear hb
   go_simp
   refine hK.out _ _ (mkS _ HBU11.out) (fun hHeld2 => ?_)
   clear hK K hHeld
   have hHeld := hHeld2
   clear hHeld2
   try simp only [Act.put, List.setIfInBounds_toArray, List.set_cons_zero, List.set_cons_succ]
   refine wpAnyH_ready (rs := [14]) (by kernel_rfl) (by simp) (AllReadyH.cons (o := { dst := some 59, op := .call { callee := .value (.func 22), args := #[.tmp 57, .tmp 58], argTypes := #[32, 43] }, type := 3, pos := "law.go:60", after := #[{ on := 12, ground := .data }, { on := 13, ground := .data }, { on := 11, ground := .chain }, { on := 8, ground := .guard }], guard := some (8, true) }) rfl (fun K hK => ?_) AllReadyH.nil)
   go_simp
   have h := HV2.out y11 (chain HBW.out HBU11.out)
   unfold rlC at h
   refine h.mono ?_
   clear h
   rintro e y14 ⟨rfl, hb⟩
   have HBU14 := Lib.hid (chain HBU11.out hb)
   clear hb
   go_simp
   refine hK.out _ _ (mkS _ HBU14.out) (fun hHeld2 => ?_)
   clear hK K hHeld
   have hHeld := hHeld2
   clear hHeld2
   try simp only [Act.put, List.setIfInBounds_toArray, List.set_cons_zero, List.set_cons_succ]
   refine wpAnyH_take (i := 15) (oi := { dst := some 60, op := .binOp .eql 3 (.tmp 56) (.tmp 59) 3, type := 4, pos := "law.go:60", after := #[{ on := 11, ground := .data }, { on := 14, ground := .data }, { on := 8, ground := .guard }], guard := some (8, true) }) (v := ?_) rfl (by kernel_rfl) (by kernel_rfl) (by kernel_rfl) (fun _ _ _ h => h) (Or.inl ⟨by rfl, ?_⟩) hHeld ?_
   rotate_left
   ·
    intro w hSw
    clear hSw
    go_simp
    try with_reducible rfl
   try simp only [Act.put, List.setIfInBounds_toArray, List.set_cons_zero, List.set_cons_succ]
   refine wpAnyH_take (i := 16) (oi := { dst := some 61, op := .pick (.tmp 53) (.tmp 60) (.const (.bool false)), type := 4, pos := "law.go:60", after := #[{ on := 8, ground := .data }, { on := 15, ground := .data }], guard := none }) (v := ?_) rfl (by kernel_rfl) (by kernel_rfl) (by kernel_rfl) (fun _ _ _ h => h) (Or.inl ⟨by rfl, ?_⟩) hHeld ?_
   rotate_left
   ·
    intro w hSw
    clear hSw
    go_simp
    try with_reducible rfl
   try simp only [Act.put, List.setIfInBounds_toArray, List.set_cons_zero, List.set_cons_succ]
   refine wpAnyH_take (i := 17) (oi := { dst := some 16, op := .assign (.tmp 61), type := 4, pos := "law.go:60", after := #[{ on := 16, ground := .data }, { on := 14, ground := .chain }, { on := 0, ground := .phase }, { on := 1, ground := .phase }, { on := 2, ground := .phase }, { on := 3, ground := .phase }, { on := 4, ground := .phase }, { on := 5, ground := .phase }, { on := 6, ground := .phase }, { on := 7, ground := .phase }, { on := 8, ground := .phase }, { on := 9, ground := .phase }, { on := 10, ground := .phase }, { on := 11, ground := .phase }, { on := 12, ground := .phase }, { on := 13, ground := .phase }, { on := 14, ground := .phase }, { on := 15, ground := .phase }, { on := 16, ground := .phase }], guard := none }) (v := ?_) rfl (by kernel_rfl) (by kernel_rfl) (by kernel_rfl) (fun _ _ _ h => h) (Or.inl ⟨by rfl, ?_⟩) hHeld ?_
   rotate_left
   ·
    intro w hSw
    clear hSw
    go_simp
    try with_reducible rfl
   try simp only [Act.put, List.setIfInBounds_toArray, List.set_cons_zero, List.set_cons_succ]
   refine wpAnyH_done (by kernel_rfl) ?_ _
   clear mkS
   have HA2y := Lib.hid (HA2.out.on HBU14.out)
   have hsp := spoil_any V3.heap.size s m2 y14 (Nat.le_trans HFU.out.size HBU14.out.size) HA2y.out (HO1.out.on HBU14.out) (HO2.out.on HBU14.out)
   unfold rlC at hsp
   have HW2y := Lib.hid (row_on HW2.out HBU14.out)
   have HFy := Lib.hid (chain HFU.out HBU14.out)
   obtain ⟨hl0, f0, f1, f2, f3, f4, f5, f6, f7⟩ := facts8 HW2y.out
   go_wp2_with fail
   refine hsp.mono ?_
   clear hsp
   rintro e V9 ⟨rfl, hb⟩
   have HF9 := Lib.hid (HFy.out.trans hb)
   have HRL9 := Lib.hid (row_on HRL3k.out HF9.out)
   have HW19 := Lib.hid (row_on HW13.out HF9.out)
   have HB9 := Lib.hid (chain HB3k.out HF9.out)
   clear hb
   clear hl0 f0 f1 f2 f3 f4 f5 f6 f7
   obtain ⟨hl0, f0, f1, f2, f3, f4, f5, f6, f7⟩ := facts8 HRL9.out
   obtain ⟨hl1, p0, p1, p2, p3, p4, p5, p6, p7⟩ := facts8 HW19.out
   have hsm := HSL.out V9 m1 HB9.out (HTL3k.out.on HF9.out)
   unfold rlC at hsm
   go_wp2_with fail
   refine hsm.mono ?_
   clear hsm
   rintro e V10 ⟨rfl, hb⟩
   have HB10 := Lib.hid (chain HB9.out hb)
   clear hb
   go_wp2_with fail
   refine bodyPost_ret (v := .bool true) (by simp [results, Tryz.results4, go_sem]) rfl ⟨rfl, HB10.out⟩
theorem signs_open (l : Rl) (p : Mp) (hcp : Caps p) (hwf : Wf l) (seed : List UInt8) (hs : seed.length = 16) (h n : Int) (R : List UInt8) (hR : R.length = 16) (x : Int) (w : World) (a1 : Nums p.SA l.ser w) (a2 : Shs p.CA l.sg.cs w) (a3 : Shs p.PA l.sg.ps w) (env : DEnv w) :
  Calls Tryz.prog 4 #[.agg (rlC l p), .agg (bcells seed), .int .i64 h, .int .i64 n, .agg (pkc R x)] w fun e w' => e = .returned (.bool true) ∧ Below w.heap.size w w' :=
 signs_any l p hcp hwf seed hs h n R hR x w a1 a2 a3 env
end Sg
end Go.Proofs.YtcgffkkfeimifaaGreatDoor
