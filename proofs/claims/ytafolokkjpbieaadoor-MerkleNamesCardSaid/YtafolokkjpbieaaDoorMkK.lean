/-
  THE WALK over layer 7's alive. (The last region: written by wip/gen-mkalive.py.)
-/
import Derived.Test.YtafolokkjpbieaaDoorMkL
import Derived.Test.YtafolokkjpbieaaDoorOneI
import Derived.Test.YtafolokkjpbieaaDoorMkFastD
namespace Go.Proofs.YtafolokkjpbieaaDoor
open Go.RowKit Sha Ots
set_option linter.unusedVariables false
set_option linter.unusedSimpArgs false
theorem row_on {V U : World} {g : Nat} {cs : Array Value} {T : TypeId} {fr : Nat × Nat} (h : V.heap[g]? = some (.cells cs T fr)) (hb : Below V.heap.size V U) : U.heap[g]? = some (.cells cs T fr) :=
  (hb.block _ (Array.getElem?_eq_some_iff.1 h).1).trans h
theorem own_empty8 {w : World} {b Y : Nat} (hY : w.heap[Y]? = some (.cells #[] 5 (0, 0))) (hb : b ≤ Y) : w.ownsRow b 5 1 (.slice (some ⟨Y, 0, none⟩) 0 0) 0 [] := ⟨rfl, .inr ⟨Y, 0, #[], rfl, hb, hY, Nat.le_refl _, Nat.zero_le _, rfl, rfl⟩⟩
theorem row_of_cells {V : World} {g : Nat} {cs : Array Value} {T : TypeId} {fr : Nat × Nat} (h : V.heap[g]? = some (.cells cs T fr)) : V.rangeAt g 0 cs.toList := fun j v hv => by
  rw [Nat.zero_add, cell_of_row _ _ _ _ _ _ h]
  simpa using hv
set_option maxRecDepth 100000 in
set_option maxHeartbeats 1600000 in
theorem alive7_any (w : World) (env : DEnv w) :
    Calls Tryd.prog 14 #[] w fun e w' => e = .returned (.bool true) ∧ Below w.heap.size w w' := by
  have h5 : Fast.mks5.length = 16 := rfl
  have hke0 : ∀ V : World, Below w.heap.size w V → Calls Tryd.prog 6 #[.agg (bcells Fast.mks5), .int .i64 0] V fun e w' => e = .returned (.tuple #[.agg (pkc (leaf Fast.mks5 0) 0), .int .i64 0]) ∧ Below V.heap.size V w' := fun V hb => key7_any Fast.mks5 h5 0 (by decide) V (env.on hb)
  have hke1 : ∀ V : World, Below w.heap.size w V → Calls Tryd.prog 6 #[.agg (bcells Fast.mks5), .int .i64 1] V fun e w' => e = .returned (.tuple #[.agg (pkc (node Fast.mks5 1 0) 1), .int .i64 0]) ∧ Below V.heap.size V w' := fun V hb => key7_any Fast.mks5 h5 1 (by decide) V (env.on hb)
  have hsho : ∀ (V : World) (v : Value) (b : Nat), Below w.heap.size w V → V.ownsRow b 5 1 v 19 (bvals (Fast.mks5 ++ [0, 254, 0])) → Calls Tryd.prog 30 #[v] V fun e w' => e = .returned (.agg (bcells (msd Fast.mks5 0))) ∧ Below V.heap.size V w' := fun V v b hb ho => by
    have e19 : (Fast.mks5 ++ [(0 : UInt8), 254, 0]).length = 19 := rfl
    rw [← e19] at ho
    obtain ⟨A, c, rfl, h1, h2, h3, h4⟩ := own_rd2 ho
    exact short_any _ A c (by rw [e19]; decide) h1 h2 V h4 (env.on hb)
  have hpu : ∀ V : World, Below w.heap.size w V → Calls Tryd.prog 31 #[.agg (bcells (msd Fast.mks5 0))] V fun e w' => e = .returned (.agg (bcells (leaf Fast.mks5 0))) ∧ Below V.heap.size V w' := fun V hb => public_any _ (msd_len _ _) V (env.on hb)
  have hsi : ∀ (V : World) (g : Nat), Below w.heap.size w V → V.heap[g]? = some (.cells (bcells [109]) 5 (1, 2)) → Calls Tryd.prog 7 #[.agg (bcells Fast.mks5), .int .i64 1, .int .i64 1, .slice (some ⟨g, 0, none⟩) 1 1] V fun e w' => ∃ X PA pc, e = .returned (.tuple #[.agg #[.int .i64 1, .slice (some ⟨X, 0, none⟩) 35 35, .slice PA 1 pc], .int .i64 0]) ∧ (PA = none → pc = 0) ∧ Shorts (some ⟨X, 0, none⟩) (sgn (msd Fast.mks5 1) [109]) w' ∧ Shorts PA (pth Fast.mks5 0 1 1) w' ∧ Below V.heap.size V w' := fun V g hb hg =>
    sign7_any Fast.mks5 h5 1 1 (by decide) (by decide) [109] (some ⟨g, 0, none⟩) 1 (by decide) (by decide) (by decide) V (srcAt_row hg) (env.on hb)
  have hsl : (sgn (msd Fast.mks5 1) [109]).length = 35 := by unfold sgn sgD; rw [List.length_map, List.length_range]
  have hpt : pth Fast.mks5 0 1 1 = [leaf Fast.mks5 0] := rfl
  have hk1 : (node Fast.mks5 1 0).length = 16 := node_len _ _ _
  have hve : ∀ (b : UInt8) (r : Bool), (fol (key [b] (sgn (msd Fast.mks5 1) [109])) 1 (pth Fast.mks5 0 1 1) == node Fast.mks5 1 0) = r → ∀ (V : World) (g X : Nat) (PA : Option Addr) (pc : Nat), Below w.heap.size w V → V.heap[g]? = some (.cells (bcells [b]) 5 (1, 2)) → Shorts (some ⟨X, 0, none⟩) (sgn (msd Fast.mks5 1) [109]) V → Shorts PA (pth Fast.mks5 0 1 1) V →
      Calls Tryd.prog 13 #[.agg (pkc (node Fast.mks5 1 0) 1), .slice (some ⟨g, 0, none⟩) 1 1, .agg #[.int .i64 1, .slice (some ⟨X, 0, none⟩) 35 35, .slice PA 1 pc]] V fun e w' => e = .returned (.bool r) ∧ Below V.heap.size V w' := fun b r hr V g X PA pc hb hg hsg hpt => by
    have h1 := verify7_of (node Fast.mks5 1 0) (fol (key [b] (sgn (msd Fast.mks5 1) [109])) 1 (pth Fast.mks5 0 1 1)) hk1 (fol_len _ (key_len _ _) _ _) 1 1 0 (some ⟨g, 0, none⟩) 1 1 (some ⟨X, 0, none⟩) PA 35 35 1 pc V
      (fun U hU => root_any 1 1 (by decide) (by decide) [b] (some ⟨g, 0, none⟩) 1 (by show 1 ≤ 100000; decide) (Nat.le_refl _) (by decide) (sgn (msd Fast.mks5 1) [109]) (pth Fast.mks5 0 1 1) (some ⟨X, 0, none⟩) PA 35 pc hsl (pth_length _ _ _ _) U ((srcAt_row hg).on hU) (hsg.on hU) (hpt.on hU) ((env.on hb).on hU))
    rw [hr] at h1
    exact h1
  have hve1 := hve 109 true (by rw [root_follows Fast.mks5 [109] 1 1 (by decide)]; simp)
  have hve2 := hve 110 false (by rw [hpt]; exact Fast.root_other)
  have hS5 : Value.agg (bcells Fast.mks5) = .agg #[.int .u8 5, .int .u8 0, .int .u8 0, .int .u8 0, .int .u8 0, .int .u8 0, .int .u8 0, .int .u8 0, .int .u8 0, .int .u8 0, .int .u8 0, .int .u8 0, .int .u8 0, .int .u8 0, .int .u8 0, .int .u8 0] := rfl
  have hk0 : (leaf Fast.mks5 0).length = 16 := leaf_len _ _
  have hm0 : (msd Fast.mks5 0).length = 16 := msd_len _ _
  clear hve hsl hpt
  obtain ⟨SG, hSG⟩ : ∃ SG, sgn (msd Fast.mks5 1) [109] = SG := ⟨_, rfl⟩
  obtain ⟨PT, hPT⟩ : ∃ PT, pth Fast.mks5 0 1 1 = PT := ⟨_, rfl⟩
  obtain ⟨K1, hK1⟩ : ∃ K1, node Fast.mks5 1 0 = K1 := ⟨_, rfl⟩
  obtain ⟨K0, hK0⟩ : ∃ K0, leaf Fast.mks5 0 = K0 := ⟨_, rfl⟩
  obtain ⟨M0, hM0⟩ : ∃ M0, msd Fast.mks5 0 = M0 := ⟨_, rfl⟩
  obtain ⟨S, hS⟩ : ∃ S, Fast.mks5 = S := ⟨_, rfl⟩
  rw [hSG, hPT] at hsi hve1 hve2
  rw [hK1] at hke1 hve1 hve2 hk1
  rw [hK0] at hke0 hpu hk0
  rw [hM0] at hsho hpu hm0
  rw [hS] at hke0 hke1 hsho hsi hS5 h5
  have hq25 : ∀ w, (binOp .eql 25 (.agg (pkc K0 0)) (.agg (pkc K0 0))).run Tryd.prog w = .ok (.bool true) w := fun w => by
    have h := eql_pk K0 K0 hk0 hk0 0 0 w
    rw [show ((K0 == K0) && ((0 : Int) == 0)) = true by simp] at h
    exact h
  have KE0 := Lib.hid hke0
  have KE1 := Lib.hid hke1
  have SHO := Lib.hid hsho
  have PU := Lib.hid hpu
  have SI := Lib.hid hsi
  have VE1 := Lib.hid hve1
  have VE2 := Lib.hid hve2
  have Q25 := Lib.hid hq25
  have HS5 := Lib.hid hS5
  have HL5 := Lib.hid h5
  have HSZ5 := Lib.hid (sz16 S h5)
  have HSZM := Lib.hid (sz16 M0 hm0)
  have hso5 : (16 : Nat) = (bcells S).size := by rw [bcells_size, h5]
  have HSO5 := Lib.hid hso5
  have hsoM : (16 : Nat) = (bcells M0).size := by rw [bcells_size, hm0]
  have HSOM := Lib.hid hsoM
  have HK0 := Lib.hid hk0
  have HK1 := Lib.hid hk1
  have HM0 := Lib.hid hm0
  have HSZK0 := Lib.hid (sz17 K0 0 hk0)
  have HSZK1 := Lib.hid (sz17 K1 1 hk1)
  have hsk0 : (17 : Nat) = (pkc K0 0).size := (pkc_size K0 0 hk0).symm
  have HSOK0 := Lib.hid hsk0
  have hsk1 : (17 : Nat) = (pkc K1 1).size := (pkc_size K1 1 hk1).symm
  have HSOK1 := Lib.hid hsk1
  have hcv := conv_const6
  have s1 := slice_short
  clear hke0 hke1 hsho hpu hsi hve1 hve2 hq25 hS5 h5 hso5 hsoM hk0 hk1 hm0 hsk0 hsk1 hSG hPT hK1 hK0 hM0 hS env
  go_enter Tryd.func14, Tryd.ntmps14
  go_upto_region 2 with (refine wpList_store_row rfl 23 (.tmp 1) (.tmp 9) rfl w.heap.size (bcells S) rfl (HS5.out.symm) 23 _ (heap_alloc_new _ _) HSZ5.out HSO5.out (bcells_one _) ?_)
  rw [World.setRow_alloc_new]
  generalize hV : World.alloc w _ = V1
  have HB1 : RowKit.Hid (Below w.heap.size w V1) := Lib.hid (by rw [← hV]; exact below_new _ _)
  have HR1 : RowKit.Hid (V1.heap[w.heap.size]? = some (.cells (bcells S) 23 (0, 0))) := Lib.hid (by rw [← hV]; exact heap_alloc_new _ _)
  clear hV
  go_wp2_with (refine wpList_load_row rfl 23 (.tmp 1) rfl w.heap.size rfl 23 (bcells S) (0, 0) _ HR1.out Tryd.underlying23 rfl HSZ5.out ?_)
  refine (KE0.out _ HB1.out).mono ?_
  rintro e w2 ⟨rfl, hb2⟩
  have HR2 := Lib.hid (row_on HR1.out hb2)
  have HB2 := Lib.hid (chain HB1.out hb2)
  clear hb2 HR1 HB1
  go_upto_region 3 with (refine wpList_store_row rfl 25 (.tmp 2) (.tmp 13) rfl w2.heap.size (pkc K0 0) rfl rfl 25 _ (heap_alloc_new _ _) HSZK0.out HSOK0.out (pkc_one _ _) ?_)
  rw [World.setRow_alloc_new]
  generalize hV : World.alloc w2 _ = V2
  have hbV : Below w2.heap.size w2 V2 := by rw [← hV]; exact below_new _ _
  have HRS2 := Lib.hid (row_on HR2.out hbV)
  have HRK2 : RowKit.Hid (V2.heap[w2.heap.size]? = some (.cells (pkc K0 0) 25 (0, 0))) := Lib.hid (by rw [← hV]; exact heap_alloc_new _ _)
  have HBV2 := Lib.hid (chain HB2.out hbV)
  obtain ⟨B0, hB0⟩ : ∃ B0, w2.heap.size = B0 := ⟨_, rfl⟩
  rw [hB0] at HRK2
  try simp only [hB0]
  clear hV hbV HR2 HB2 hB0
  go_wp2_with (first | (at_builtin; refine append_src rfl (.tmp 15) (.tmp 16) rfl V2.heap.size _ 0 [] rfl (own_empty8 (heap_alloc_new V2 _) (Nat.le_refl _)) (some ⟨w.heap.size, 0, none⟩) S 16 16 HL5.out rfl (fun e => by cases e) (srcAt_row (row_on HRS2.out (below_new _ _))) (by decide) (by rw [World.size_alloc]; omega) ?_; intro v1 w1 ho1 hg1; have HO1 : RowKit.Hid (w1.ownsRow V2.heap.size 5 1 v1 16 (bvals S)) := Lib.hid ho1; have HG1 := Lib.hid hg1; have hle1 : V2.heap.size ≤ w1.heap.size := (by have h := hg1.size; rw [World.size_alloc] at h; omega); clear ho1 hg1) | (at_builtin; go_loud (refine append_src rfl (.tmp 17) (.tmp 18) rfl V2.heap.size _ 16 (bvals S) rfl (HO1.out.alloc _) (some ⟨w1.heap.size, 0, none⟩) [0, 254, 0] 3 3 rfl rfl (fun e => by cases e) (srcAt_row (heap_alloc_new w1 _)) (by decide) (by rw [World.size_alloc]; omega) ?_); intro v2 w3 ho2 hg2; have HO2 := Lib.hid ho2; have HG2 := Lib.hid hg2; clear ho2 hg2))
  have hb1 : Below V2.heap.size V2 w1 := ((Below.refl _ _).alloc (Nat.le_refl _) _).grown HG1.out (by rw [World.size_alloc]; omega) (fun j hj => by have hj2 := Option.some.inj (show some V2.heap.size = some j from hj); omega)
  have hb3 : Below V2.heap.size V2 w3 := (hb1.alloc hb1.size _).grown HG2.out (by rw [World.size_alloc]; omega) (fun j hj => (own_ge HO1.out hj).1)
  have HRS3 := Lib.hid (row_on HRS2.out hb3)
  have HRK3 := Lib.hid (row_on HRK2.out hb3)
  have HB3 := Lib.hid (chain HBV2.out hb3)
  have hod : w3.ownsRow V2.heap.size 5 1 v2 19 (bvals (S ++ [0, 254, 0])) := by
    rw [bvals_app]
    exact HO2.out
  have HO3 := Lib.hid hod
  clear hb1 hb3 hod hle1 HO1 HG1 HO2 HG2 HRS2 HRK2 HBV2
  refine (SHO.out _ _ _ HB3.out HO3.out).mono ?_
  rintro e w4 ⟨rfl, hb4⟩
  have HRS4 := Lib.hid (row_on HRS3.out hb4)
  have HRK4 := Lib.hid (row_on HRK3.out hb4)
  have HB4 := Lib.hid (chain HB3.out hb4)
  clear hb4 HRS3 HRK3 HB3 HO3
  go_upto_region 4 with (refine wpList_store_row rfl 23 (.tmp 4) (.tmp 20) rfl w4.heap.size (bcells M0) rfl rfl 23 _ (heap_alloc_new _ _) HSZM.out HSOM.out (bcells_one _) ?_)
  rw [World.setRow_alloc_new]
  generalize hV : World.alloc w4 _ = V4
  have hbV : Below w4.heap.size w4 V4 := by rw [← hV]; exact below_new _ _
  have HRS5 := Lib.hid (row_on HRS4.out hbV)
  have HRK5 := Lib.hid (row_on HRK4.out hbV)
  have HRM5 : RowKit.Hid (V4.heap[w4.heap.size]? = some (.cells (bcells M0) 23 (0, 0))) := Lib.hid (by rw [← hV]; exact heap_alloc_new _ _)
  have HB5 := Lib.hid (chain HB4.out hbV)
  obtain ⟨B1, hB1⟩ : ∃ B1, w4.heap.size = B1 := ⟨_, rfl⟩
  rw [hB1] at HRM5
  try simp only [hB1]
  clear hV hbV HRS4 HRK4 HB4 hB1
  go_wp2_with (refine wpList_load_row rfl 23 (.tmp 1) rfl w.heap.size rfl 23 (bcells S) (0, 0) _ HRS5.out Tryd.underlying23 rfl HSZ5.out ?_)
  refine (KE1.out _ HB5.out).mono ?_
  rintro e w6 ⟨rfl, hb6⟩
  have HRS6 := Lib.hid (row_on HRS5.out hb6)
  have HRK6 := Lib.hid (row_on HRK5.out hb6)
  have HRM6 := Lib.hid (row_on HRM5.out hb6)
  have HB6 := Lib.hid (chain HB5.out hb6)
  clear hb6 HRS5 HRK5 HRM5 HB5
  go_upto_region 5 with (refine wpList_store_row rfl 25 (.tmp 5) (.tmp 24) rfl w6.heap.size (pkc K1 1) rfl rfl 25 _ (heap_alloc_new _ _) HSZK1.out HSOK1.out (pkc_one _ _) ?_)
  rw [World.setRow_alloc_new]
  generalize hV : World.alloc w6 _ = V6
  have hbV : Below w6.heap.size w6 V6 := by rw [← hV]; exact below_new _ _
  have HRS7 := Lib.hid (row_on HRS6.out hbV)
  have HRK7 := Lib.hid (row_on HRK6.out hbV)
  have HRM7 := Lib.hid (row_on HRM6.out hbV)
  have HRT7 : RowKit.Hid (V6.heap[w6.heap.size]? = some (.cells (pkc K1 1) 25 (0, 0))) := Lib.hid (by rw [← hV]; exact heap_alloc_new _ _)
  have HB7 := Lib.hid (chain HB6.out hbV)
  obtain ⟨B2, hB2⟩ : ∃ B2, w6.heap.size = B2 := ⟨_, rfl⟩
  rw [hB2] at HRT7
  try simp only [hB2]
  clear hV hbV HRS6 HRK6 HRM6 HB6 hB2
  go_wp2_with (refine wpList_load_row rfl 23 (.tmp 1) rfl w.heap.size rfl 23 (bcells S) (0, 0) _ HRS7.out Tryd.underlying23 rfl HSZ5.out ?_)
  refine (SI.out _ _ (chain HB7.out (below_new _ _)) (heap_alloc_new _ _)).mono ?_
  rintro e w8 ⟨X, PA, pc, rfl, _, hsg, hpt, hb8⟩
  have hb9 := chain (below_new V6 _) hb8
  have HRK8 := Lib.hid (row_on HRK7.out hb9)
  have HRM8 := Lib.hid (row_on HRM7.out hb9)
  have HRT8 := Lib.hid (row_on HRT7.out hb9)
  have HB8 := Lib.hid (chain HB7.out hb9)
  have HSG := Lib.hid hsg
  have HPT := Lib.hid hpt
  clear hb8 hb9 hsg hpt HRS7 HRK7 HRM7 HRT7 HB7
  go_upto_region 6 with (fail)
  generalize hV : World.alloc w8 _ = V8
  have hbV : Below w8.heap.size w8 V8 := by rw [← hV]; exact below_new _ _
  have hrk : V8.rangeAt B0 0 (bvals K0 ++ [Value.int .i64 0]) := row_of_cells (row_on HRK8.out hbV)
  have hrm : V8.rangeAt B1 0 (bvals M0) := row_of_cells (row_on HRM8.out hbV)
  have hrt : V8.rangeAt B2 0 (bvals K1 ++ [Value.int .i64 1]) := row_of_cells (row_on HRT8.out hbV)
  have hrs : V8.rangeAt w8.heap.size 0 [.int .i64 1, .slice (some ⟨X, 0, none⟩) 35 35, .slice PA 1 pc] := row_of_cells (by rw [← hV]; exact heap_alloc_new _ _)
  have HB9 := Lib.hid (chain HB8.out hbV)
  have HSG9 := Lib.hid (HSG.out.on hbV)
  have HPT9 := Lib.hid (HPT.out.on hbV)
  obtain ⟨B3, hB3⟩ : ∃ B3, w8.heap.size = B3 := ⟨_, rfl⟩
  rw [hB3] at hrs
  try simp only [hB3]
  have HRR := Lib.hid (And.intro hrk (And.intro hrm (And.intro hrt hrs)))
  clear hV hbV hrk hrm hrt hrs HRK8 HRM8 HRT8 HB8 HSG HPT hB3
  have mkS : ∀ z, Below V8.heap.size V8 z → Below V8.heap.size V8 z ∧ z.rangeAt B0 0 (bvals K0 ++ [Value.int .i64 0]) ∧ z.rangeAt B1 0 (bvals M0) ∧ z.rangeAt B2 0 (bvals K1 ++ [Value.int .i64 1]) ∧ z.rangeAt B3 0 [.int .i64 1, .slice (some ⟨X, 0, none⟩) 35 35, .slice PA 1 pc] := fun z hz => ⟨hz, rangeAt_on HRR.out.1 hz, rangeAt_on HRR.out.2.1 hz, rangeAt_on HRR.out.2.2.1 hz, rangeAt_on HRR.out.2.2.2 hz⟩
  have PU1 := Lib.hid (fun (z : World) (hz : Below V8.heap.size V8 z) => (PU.out z (chain HB9.out hz)).mono fun e w' h => (show e = .returned (.agg (bvals K0).toArray) ∧ Below z.heap.size z w' from h))
  have V1 : RowKit.Hid (∀ z : World, Below V8.heap.size V8 z → Calls Tryd.prog 13 #[.agg (bvals K1 ++ [Value.int .i64 1]).toArray, .slice (some ⟨z.heap.size, 0, none⟩) 1 1, .agg #[.int .i64 1, .slice (some ⟨X, 0, none⟩) 35 35, .slice PA 1 pc]] (z.alloc (.cells #[.int .u8 109] 5 (1, 2))) fun e w' => e = .returned (.bool true) ∧ Below z.heap.size z w') := Lib.hid (fun z hz => (VE1.out _ z.heap.size X PA pc (chain (chain HB9.out hz) (below_new _ _)) (heap_alloc_new z _) ((HSG9.out.on hz).on (below_new _ _)) ((HPT9.out.on hz).on (below_new _ _))).mono fun e w' h => ⟨h.1, chain (below_new _ _) h.2⟩)
  have V2 : RowKit.Hid (∀ z : World, Below V8.heap.size V8 z → Calls Tryd.prog 13 #[.agg (bvals K1 ++ [Value.int .i64 1]).toArray, .slice (some ⟨z.heap.size, 0, none⟩) 1 1, .agg #[.int .i64 1, .slice (some ⟨X, 0, none⟩) 35 35, .slice PA 1 pc]] (z.alloc (.cells #[.int .u8 110] 5 (1, 2))) fun e w' => e = .returned (.bool false) ∧ Below z.heap.size z w') := Lib.hid (fun z hz => (VE2.out _ z.heap.size X PA pc (chain (chain HB9.out hz) (below_new _ _)) (heap_alloc_new z _) ((HSG9.out.on hz).on (below_new _ _)) ((HPT9.out.on hz).on (below_new _ _))).mono fun e w' h => ⟨h.1, chain (below_new _ _) h.2⟩)
  have hq25 : ∀ w, (binOp .eql 25 (.agg (bvals K0 ++ [Value.int .i64 0]).toArray) (.agg (bvals K0 ++ [Value.int .i64 0]).toArray)).run Tryd.prog w = .ok (.bool true) w := Q25.out
  have hbz := build17z K0 HK0.out
  unfold pkc at hbz
  have hbl : (bvals K0).length = 16 := by rw [bvals_len, HK0.out]
  have hfs := foldset_size (bvals K0) 0 #[.int .u8 0, .int .u8 0, .int .u8 0, .int .u8 0, .int .u8 0, .int .u8 0, .int .u8 0, .int .u8 0, .int .u8 0, .int .u8 0, .int .u8 0, .int .u8 0, .int .u8 0, .int .u8 0, .int .u8 0, .int .u8 0, .int .i64 0]
  have hu := Tryd.underlying23
  have hu25 := Tryd.underlying25
  have hu31 := Tryd.underlying31
  have hiM : (Tryd.prog.info? 23).map (·.size) = some (bvals M0).length := by rw [bvals_len, HM0.out]; kernel_rfl
  have hiK0 : (Tryd.prog.info? 25).map (·.size) = some (bvals K0 ++ [Value.int .i64 0]).length := by rw [List.length_append, bvals_len, HK0.out]; kernel_rfl
  have hiK1 : (Tryd.prog.info? 25).map (·.size) = some (bvals K1 ++ [Value.int .i64 1]).length := by rw [List.length_append, bvals_len, HK1.out]; kernel_rfl
  have hiS : (Tryd.prog.info? 31).map (·.size) = some [Value.int .i64 1, .slice (some ⟨X, 0, none⟩) 35 35, .slice PA 1 pc].length := by
    show _ = some 3
    kernel_rfl
  refine wp_region_held_drew (S := fun z => Below V8.heap.size V8 z ∧ z.rangeAt B0 0 (bvals K0 ++ [Value.int .i64 0]) ∧ z.rangeAt B1 0 (bvals M0) ∧ z.rangeAt B2 0 (bvals K1 ++ [Value.int .i64 1]) ∧ z.rangeAt B3 0 [.int .i64 1, .slice (some ⟨X, 0, none⟩) 35 35, .slice PA 1 pc]) (by kernel_rfl) (mkS _ (Below.refl _ _).drew) (fun hHeld => ?_)
  refine wpAnyH_take (i := 0) (oi := { dst := Option.some 33, op := Go.Op.move (Go.Operand.tmp 3), type := 26, pos := "law.go:46", after := #[], guard := Option.none }) (v := ?_) rfl (by kernel_rfl) (by kernel_rfl) (by kernel_rfl) (fun _ _ _ h => h) (Or.inl ⟨by rfl, ?_⟩) hHeld ?_
  rotate_left
  · intro w hSw
    clear hSw
    go_simp
    try with_reducible rfl
  try simp only [Act.put, List.setIfInBounds_toArray, List.set_cons_zero, List.set_cons_succ]
  refine wpAnyH_take (i := 1) (oi := { dst := Option.some 34, op := Go.Op.binOp Go.BinOp.eql 26 (Go.Operand.tmp 33) (Go.Operand.const (Go.Value.int Go.IntKind.i64 0)) 26, type := 4, pos := "law.go:46", after := #[{ on := 0, ground := Go.Ground.data }], guard := Option.none }) (v := ?_) rfl (by kernel_rfl) (by kernel_rfl) (by kernel_rfl) (fun _ _ _ h => h) (Or.inl ⟨by rfl, ?_⟩) hHeld ?_
  rotate_left
  · intro w hSw
    clear hSw
    go_simp
    try with_reducible rfl
  try simp only [Act.put, List.setIfInBounds_toArray, List.set_cons_zero, List.set_cons_succ]
  refine wpAnyH_take (i := 2) (oi := { dst := Option.some 35, op := Go.Op.move (Go.Operand.tmp 34), type := 4, pos := "law.go:46", after := #[{ on := 1, ground := Go.Ground.data }], guard := Option.none }) (v := ?_) rfl (by kernel_rfl) (by kernel_rfl) (by kernel_rfl) (fun _ _ _ h => h) (Or.inl ⟨by rfl, ?_⟩) hHeld ?_
  rotate_left
  · intro w hSw
    clear hSw
    go_simp
    try with_reducible rfl
  try simp only [Act.put, List.setIfInBounds_toArray, List.set_cons_zero, List.set_cons_succ]
  refine wpAnyH_take (i := 3) (oi := { dst := Option.some 36, op := Go.Op.load 25 (Go.Operand.tmp 2), type := 25, pos := "law.go:46", after := #[{ on := 2, ground := Go.Ground.guard }], guard := Option.some (2, Bool.true) }) (v := .agg (bvals K0 ++ [Value.int .i64 0]).toArray) rfl (by kernel_rfl) (by kernel_rfl) (by kernel_rfl) (fun _ _ _ h => h) (yieldsIf_load_mid (by rfl) _ _ rfl _ _ rfl (bvals K0 ++ [Value.int .i64 0]) _ (fun w hSw => hSw.2.1) hu25 rfl hiK0) hHeld ?_
  try simp only [Act.put, List.setIfInBounds_toArray, List.set_cons_zero, List.set_cons_succ]
  refine wpAnyH_take (i := 4) (oi := { dst := Option.some 37, op := Go.Op.load 23 (Go.Operand.tmp 4), type := 23, pos := "law.go:46", after := #[{ on := 2, ground := Go.Ground.guard }], guard := Option.some (2, Bool.true) }) (v := .agg (bvals M0).toArray) rfl (by kernel_rfl) (by kernel_rfl) (by kernel_rfl) (fun _ _ _ h => h) (yieldsIf_load_mid (by rfl) _ _ rfl _ _ rfl (bvals M0) _ (fun w hSw => hSw.2.2.1) hu rfl hiM) hHeld ?_
  try simp only [Act.put, List.setIfInBounds_toArray, List.set_cons_zero, List.set_cons_succ]
  refine wpAnyH_ready (rs := [5]) (by kernel_rfl) (by simp) (AllReadyH.cons (o := { dst := Option.some 38, op := Go.Op.call { callee := Go.Callee.value (Go.Operand.func 31), args := #[Go.Operand.tmp 37], argTypes := #[23] }, type := 23, pos := "law.go:46", after := #[{ on := 4, ground := Go.Ground.data }, { on := 2, ground := Go.Ground.chain }, { on := 2, ground := Go.Ground.guard }], guard := Option.some (2, Bool.true) }) rfl (fun K hK => ?_) AllReadyH.nil)
  go_simp
  refine (PU1.out _ hHeld.1).mono ?_
  rintro e w9 ⟨rfl, hb9⟩
  go_simp
  refine hK.out _ _ (mkS _ (chain hHeld.1 hb9)) (fun hHeld2 => ?_)
  clear hK K
  have hHeldP := hHeld.1
  clear hHeld
  have hHeld := hHeld2
  clear hHeld2
  have hB9 := hHeld.1
  clear hHeldP hb9
  try simp only [Act.put, List.setIfInBounds_toArray, List.set_cons_zero, List.set_cons_succ]
  refine wpAnyH_take (i := 6) (oi := { dst := Option.some 39, op := Go.Op.build 25 #[(0, Go.Operand.tmp 38)], type := 25, pos := "law.go:46", after := #[{ on := 5, ground := Go.Ground.data }, { on := 2, ground := Go.Ground.guard }], guard := Option.some (2, Bool.true) }) (v := .agg (bvals K0 ++ [Value.int .i64 0]).toArray) rfl (by kernel_rfl) (by kernel_rfl) (by kernel_rfl) (fun _ _ _ h => h) (Or.inl ⟨by rfl, ?_⟩) hHeld ?_
  · intro w hSw
    clear hSw
    go_simp
    try rw [hbz]
  try simp only [Act.put, List.setIfInBounds_toArray, List.set_cons_zero, List.set_cons_succ]
  refine wpAnyH_take (i := 7) (oi := { dst := Option.some 40, op := Go.Op.binOp Go.BinOp.eql 25 (Go.Operand.tmp 36) (Go.Operand.tmp 39) 25, type := 4, pos := "law.go:46", after := #[{ on := 3, ground := Go.Ground.data }, { on := 6, ground := Go.Ground.data }, { on := 2, ground := Go.Ground.guard }], guard := Option.some (2, Bool.true) }) (v := ?_) rfl (by kernel_rfl) (by kernel_rfl) (by kernel_rfl) (fun _ _ _ h => h) (Or.inl ⟨by rfl, ?_⟩) hHeld ?_
  rotate_left
  · intro w hSw
    clear hSw
    go_simp
    try with_reducible rfl
  try simp only [Act.put, List.setIfInBounds_toArray, List.set_cons_zero, List.set_cons_succ]
  refine wpAnyH_take (i := 8) (oi := { dst := Option.some 41, op := Go.Op.pick (Go.Operand.tmp 35) (Go.Operand.tmp 40) (Go.Operand.const (Go.Value.bool Bool.false)), type := 4, pos := "law.go:46", after := #[{ on := 2, ground := Go.Ground.data }, { on := 7, ground := Go.Ground.data }], guard := Option.none }) (v := ?_) rfl (by kernel_rfl) (by kernel_rfl) (by kernel_rfl) (fun _ _ _ h => h) (Or.inl ⟨by rfl, ?_⟩) hHeld ?_
  rotate_left
  · intro w hSw
    clear hSw
    go_simp
    try with_reducible rfl
  try simp only [Act.put, List.setIfInBounds_toArray, List.set_cons_zero, List.set_cons_succ]
  refine wpAnyH_take (i := 9) (oi := { dst := Option.some 42, op := Go.Op.move (Go.Operand.tmp 41), type := 4, pos := "law.go:46", after := #[{ on := 8, ground := Go.Ground.data }, { on := 5, ground := Go.Ground.chain }], guard := Option.none }) (v := ?_) rfl (by kernel_rfl) (by kernel_rfl) (by kernel_rfl) (fun _ _ _ h => h) (Or.inl ⟨by rfl, ?_⟩) hHeld ?_
  rotate_left
  · intro w hSw
    clear hSw
    go_simp
    try with_reducible rfl
  try simp only [Act.put, List.setIfInBounds_toArray, List.set_cons_zero, List.set_cons_succ]
  refine wpAnyH_take (i := 10) (oi := { dst := Option.some 43, op := Go.Op.move (Go.Operand.tmp 6), type := 26, pos := "law.go:46", after := #[{ on := 9, ground := Go.Ground.guard }], guard := Option.some (9, Bool.true) }) (v := ?_) rfl (by kernel_rfl) (by kernel_rfl) (by kernel_rfl) (fun _ _ _ h => h) (Or.inl ⟨by rfl, ?_⟩) hHeld ?_
  rotate_left
  · intro w hSw
    clear hSw
    go_simp
    try with_reducible rfl
  try simp only [Act.put, List.setIfInBounds_toArray, List.set_cons_zero, List.set_cons_succ]
  refine wpAnyH_take (i := 11) (oi := { dst := Option.some 44, op := Go.Op.binOp Go.BinOp.eql 26 (Go.Operand.tmp 43) (Go.Operand.const (Go.Value.int Go.IntKind.i64 0)) 26, type := 4, pos := "law.go:46", after := #[{ on := 10, ground := Go.Ground.data }, { on := 9, ground := Go.Ground.guard }], guard := Option.some (9, Bool.true) }) (v := ?_) rfl (by kernel_rfl) (by kernel_rfl) (by kernel_rfl) (fun _ _ _ h => h) (Or.inl ⟨by rfl, ?_⟩) hHeld ?_
  rotate_left
  · intro w hSw
    clear hSw
    go_simp
    try with_reducible rfl
  try simp only [Act.put, List.setIfInBounds_toArray, List.set_cons_zero, List.set_cons_succ]
  refine wpAnyH_take (i := 12) (oi := { dst := Option.some 45, op := Go.Op.pick (Go.Operand.tmp 42) (Go.Operand.tmp 44) (Go.Operand.const (Go.Value.bool Bool.false)), type := 4, pos := "law.go:46", after := #[{ on := 9, ground := Go.Ground.data }, { on := 11, ground := Go.Ground.data }], guard := Option.none }) (v := ?_) rfl (by kernel_rfl) (by kernel_rfl) (by kernel_rfl) (fun _ _ _ h => h) (Or.inl ⟨by rfl, ?_⟩) hHeld ?_
  rotate_left
  · intro w hSw
    clear hSw
    go_simp
    try with_reducible rfl
  try simp only [Act.put, List.setIfInBounds_toArray, List.set_cons_zero, List.set_cons_succ]
  refine wpAnyH_take (i := 13) (oi := { dst := Option.some 46, op := Go.Op.move (Go.Operand.tmp 45), type := 4, pos := "law.go:46", after := #[{ on := 12, ground := Go.Ground.data }, { on := 9, ground := Go.Ground.chain }], guard := Option.none }) (v := ?_) rfl (by kernel_rfl) (by kernel_rfl) (by kernel_rfl) (fun _ _ _ h => h) (Or.inl ⟨by rfl, ?_⟩) hHeld ?_
  rotate_left
  · intro w hSw
    clear hSw
    go_simp
    try with_reducible rfl
  try simp only [Act.put, List.setIfInBounds_toArray, List.set_cons_zero, List.set_cons_succ]
  refine wpAnyH_take (i := 14) (oi := { dst := Option.some 47, op := Go.Op.move (Go.Operand.tmp 8), type := 26, pos := "law.go:46", after := #[{ on := 13, ground := Go.Ground.guard }], guard := Option.some (13, Bool.true) }) (v := ?_) rfl (by kernel_rfl) (by kernel_rfl) (by kernel_rfl) (fun _ _ _ h => h) (Or.inl ⟨by rfl, ?_⟩) hHeld ?_
  rotate_left
  · intro w hSw
    clear hSw
    go_simp
    try with_reducible rfl
  try simp only [Act.put, List.setIfInBounds_toArray, List.set_cons_zero, List.set_cons_succ]
  refine wpAnyH_take (i := 15) (oi := { dst := Option.some 48, op := Go.Op.binOp Go.BinOp.eql 26 (Go.Operand.tmp 47) (Go.Operand.const (Go.Value.int Go.IntKind.i64 0)) 26, type := 4, pos := "law.go:46", after := #[{ on := 14, ground := Go.Ground.data }, { on := 13, ground := Go.Ground.guard }], guard := Option.some (13, Bool.true) }) (v := ?_) rfl (by kernel_rfl) (by kernel_rfl) (by kernel_rfl) (fun _ _ _ h => h) (Or.inl ⟨by rfl, ?_⟩) hHeld ?_
  rotate_left
  · intro w hSw
    clear hSw
    go_simp
    try with_reducible rfl
  try simp only [Act.put, List.setIfInBounds_toArray, List.set_cons_zero, List.set_cons_succ]
  refine wpAnyH_take (i := 16) (oi := { dst := Option.some 49, op := Go.Op.pick (Go.Operand.tmp 46) (Go.Operand.tmp 48) (Go.Operand.const (Go.Value.bool Bool.false)), type := 4, pos := "law.go:46", after := #[{ on := 13, ground := Go.Ground.data }, { on := 15, ground := Go.Ground.data }], guard := Option.none }) (v := ?_) rfl (by kernel_rfl) (by kernel_rfl) (by kernel_rfl) (fun _ _ _ h => h) (Or.inl ⟨by rfl, ?_⟩) hHeld ?_
  rotate_left
  · intro w hSw
    clear hSw
    go_simp
    try with_reducible rfl
  try simp only [Act.put, List.setIfInBounds_toArray, List.set_cons_zero, List.set_cons_succ]
  refine wpAnyH_take (i := 17) (oi := { dst := Option.some 50, op := Go.Op.move (Go.Operand.tmp 49), type := 4, pos := "law.go:46", after := #[{ on := 16, ground := Go.Ground.data }, { on := 13, ground := Go.Ground.chain }], guard := Option.none }) (v := ?_) rfl (by kernel_rfl) (by kernel_rfl) (by kernel_rfl) (fun _ _ _ h => h) (Or.inl ⟨by rfl, ?_⟩) hHeld ?_
  rotate_left
  · intro w hSw
    clear hSw
    go_simp
    try with_reducible rfl
  try simp only [Act.put, List.setIfInBounds_toArray, List.set_cons_zero, List.set_cons_succ]
  refine wpAnyH_take (i := 18) (oi := { dst := Option.some 51, op := Go.Op.load 25 (Go.Operand.tmp 5), type := 25, pos := "law.go:46", after := #[{ on := 17, ground := Go.Ground.guard }], guard := Option.some (17, Bool.true) }) (v := .agg (bvals K1 ++ [Value.int .i64 1]).toArray) rfl (by kernel_rfl) (by kernel_rfl) (by kernel_rfl) (fun _ _ _ h => h) (yieldsIf_load_mid (by rfl) _ _ rfl _ _ rfl (bvals K1 ++ [Value.int .i64 1]) _ (fun w hSw => hSw.2.2.2.1) hu25 rfl hiK1) hHeld ?_
  try simp only [Act.put, List.setIfInBounds_toArray, List.set_cons_zero, List.set_cons_succ]
  refine wpAnyH_take (i := 21) (oi := { dst := Option.some 54, op := Go.Op.load 31 (Go.Operand.tmp 7), type := 31, pos := "law.go:46", after := #[{ on := 17, ground := Go.Ground.guard }], guard := Option.some (17, Bool.true) }) (v := .agg ([Value.int .i64 1, .slice (some ⟨X, 0, none⟩) 35 35, .slice PA 1 pc]).toArray) rfl (by kernel_rfl) (by kernel_rfl) (by kernel_rfl) (fun _ _ _ h => h) (yieldsIf_load_mid (by rfl) _ _ rfl _ _ rfl ([Value.int .i64 1, .slice (some ⟨X, 0, none⟩) 35 35, .slice PA 1 pc]) _ (fun w hSw => hSw.2.2.2.2) hu31 rfl hiS) hHeld ?_
  try simp only [Act.put, List.setIfInBounds_toArray, List.set_cons_zero, List.set_cons_succ]
  refine wpAnyH_ready (rs := [19]) (by kernel_rfl) (by simp) (AllReadyH.cons (o := { dst := Option.some 52, op := Go.Op.buildSlice 42 1 #[(0, Go.Operand.const (Go.Value.int Go.IntKind.u8 109))], type := 42, pos := "law.go:46", after := #[{ on := 17, ground := Go.Ground.guard }], guard := Option.some (17, Bool.true) }) rfl (fun K hK => ?_) AllReadyH.nil)
  go_simp
  refine hK.out _ _ (mkS _ (chain hHeld.1 (below_new _ _))) (fun hHeld2 => ?_)
  clear hK K
  have hHeldP := hHeld.1
  clear hHeld
  have hHeld := hHeld2
  clear hHeld2
  clear hHeldP
  try simp only [Act.put, List.setIfInBounds_toArray, List.set_cons_zero, List.set_cons_succ]
  refine wpAnyH_ready (rs := [20]) (by kernel_rfl) (by simp) (AllReadyH.cons (o := { dst := Option.some 53, op := Go.Op.convert 42 42 (Go.Operand.tmp 52), type := 42, pos := "law.go:46", after := #[{ on := 19, ground := Go.Ground.data }, { on := 17, ground := Go.Ground.guard }], guard := Option.some (17, Bool.true) }) rfl (fun K hK => ?_) AllReadyH.nil)
  go_simp
  refine hK.out _ _ (mkS _ (chain hB9 (below_new _ _))) (fun hHeld2 => ?_)
  clear hK K
  have hHeldP := hHeld.1
  clear hHeld
  have hHeld := hHeld2
  clear hHeld2
  clear hHeldP
  try simp only [Act.put, List.setIfInBounds_toArray, List.set_cons_zero, List.set_cons_succ]
  refine wpAnyH_ready (rs := [22]) (by kernel_rfl) (by simp) (AllReadyH.cons (o := { dst := Option.some 55, op := Go.Op.call { callee := Go.Callee.value (Go.Operand.func 13), args := #[Go.Operand.tmp 51, Go.Operand.tmp 53, Go.Operand.tmp 54], argTypes := #[25, 42, 31] }, type := 4, pos := "law.go:46", after := #[{ on := 18, ground := Go.Ground.data }, { on := 20, ground := Go.Ground.data }, { on := 21, ground := Go.Ground.data }, { on := 17, ground := Go.Ground.chain }, { on := 17, ground := Go.Ground.guard }], guard := Option.some (17, Bool.true) }) rfl (fun K hK => ?_) AllReadyH.nil)
  go_simp
  refine (V1.out _ hB9).mono ?_
  rintro e w10 ⟨rfl, hb10⟩
  go_simp
  refine hK.out _ _ (mkS _ (chain hB9 hb10)) (fun hHeld2 => ?_)
  clear hK K
  have hHeldP := hHeld.1
  clear hHeld
  have hHeld := hHeld2
  clear hHeld2
  have hB10 := hHeld.1
  clear hHeldP hb10
  try simp only [Act.put, List.setIfInBounds_toArray, List.set_cons_zero, List.set_cons_succ]
  refine wpAnyH_take (i := 23) (oi := { dst := Option.some 56, op := Go.Op.pick (Go.Operand.tmp 50) (Go.Operand.tmp 55) (Go.Operand.const (Go.Value.bool Bool.false)), type := 4, pos := "law.go:46", after := #[{ on := 17, ground := Go.Ground.data }, { on := 22, ground := Go.Ground.data }], guard := Option.none }) (v := ?_) rfl (by kernel_rfl) (by kernel_rfl) (by kernel_rfl) (fun _ _ _ h => h) (Or.inl ⟨by rfl, ?_⟩) hHeld ?_
  rotate_left
  · intro w hSw
    clear hSw
    go_simp
    try with_reducible rfl
  try simp only [Act.put, List.setIfInBounds_toArray, List.set_cons_zero, List.set_cons_succ]
  refine wpAnyH_take (i := 24) (oi := { dst := Option.some 57, op := Go.Op.move (Go.Operand.tmp 56), type := 4, pos := "law.go:46", after := #[{ on := 23, ground := Go.Ground.data }, { on := 22, ground := Go.Ground.chain }], guard := Option.none }) (v := ?_) rfl (by kernel_rfl) (by kernel_rfl) (by kernel_rfl) (fun _ _ _ h => h) (Or.inl ⟨by rfl, ?_⟩) hHeld ?_
  rotate_left
  · intro w hSw
    clear hSw
    go_simp
    try with_reducible rfl
  try simp only [Act.put, List.setIfInBounds_toArray, List.set_cons_zero, List.set_cons_succ]
  refine wpAnyH_take (i := 25) (oi := { dst := Option.some 58, op := Go.Op.load 25 (Go.Operand.tmp 5), type := 25, pos := "law.go:46", after := #[{ on := 24, ground := Go.Ground.guard }], guard := Option.some (24, Bool.true) }) (v := .agg (bvals K1 ++ [Value.int .i64 1]).toArray) rfl (by kernel_rfl) (by kernel_rfl) (by kernel_rfl) (fun _ _ _ h => h) (yieldsIf_load_mid (by rfl) _ _ rfl _ _ rfl (bvals K1 ++ [Value.int .i64 1]) _ (fun w hSw => hSw.2.2.2.1) hu25 rfl hiK1) hHeld ?_
  try simp only [Act.put, List.setIfInBounds_toArray, List.set_cons_zero, List.set_cons_succ]
  refine wpAnyH_take (i := 28) (oi := { dst := Option.some 61, op := Go.Op.load 31 (Go.Operand.tmp 7), type := 31, pos := "law.go:46", after := #[{ on := 24, ground := Go.Ground.guard }], guard := Option.some (24, Bool.true) }) (v := .agg ([Value.int .i64 1, .slice (some ⟨X, 0, none⟩) 35 35, .slice PA 1 pc]).toArray) rfl (by kernel_rfl) (by kernel_rfl) (by kernel_rfl) (fun _ _ _ h => h) (yieldsIf_load_mid (by rfl) _ _ rfl _ _ rfl ([Value.int .i64 1, .slice (some ⟨X, 0, none⟩) 35 35, .slice PA 1 pc]) _ (fun w hSw => hSw.2.2.2.2) hu31 rfl hiS) hHeld ?_
  try simp only [Act.put, List.setIfInBounds_toArray, List.set_cons_zero, List.set_cons_succ]
  refine wpAnyH_ready (rs := [26]) (by kernel_rfl) (by simp) (AllReadyH.cons (o := { dst := Option.some 59, op := Go.Op.buildSlice 42 1 #[(0, Go.Operand.const (Go.Value.int Go.IntKind.u8 110))], type := 42, pos := "law.go:46", after := #[{ on := 24, ground := Go.Ground.guard }], guard := Option.some (24, Bool.true) }) rfl (fun K hK => ?_) AllReadyH.nil)
  go_simp
  refine hK.out _ _ (mkS _ (chain hHeld.1 (below_new _ _))) (fun hHeld2 => ?_)
  clear hK K
  have hHeldP := hHeld.1
  clear hHeld
  have hHeld := hHeld2
  clear hHeld2
  clear hHeldP
  try simp only [Act.put, List.setIfInBounds_toArray, List.set_cons_zero, List.set_cons_succ]
  refine wpAnyH_ready (rs := [27]) (by kernel_rfl) (by simp) (AllReadyH.cons (o := { dst := Option.some 60, op := Go.Op.convert 42 42 (Go.Operand.tmp 59), type := 42, pos := "law.go:46", after := #[{ on := 26, ground := Go.Ground.data }, { on := 24, ground := Go.Ground.guard }], guard := Option.some (24, Bool.true) }) rfl (fun K hK => ?_) AllReadyH.nil)
  go_simp
  refine hK.out _ _ (mkS _ (chain hB10 (below_new _ _))) (fun hHeld2 => ?_)
  clear hK K
  have hHeldP := hHeld.1
  clear hHeld
  have hHeld := hHeld2
  clear hHeld2
  clear hHeldP
  try simp only [Act.put, List.setIfInBounds_toArray, List.set_cons_zero, List.set_cons_succ]
  refine wpAnyH_ready (rs := [29]) (by kernel_rfl) (by simp) (AllReadyH.cons (o := { dst := Option.some 62, op := Go.Op.call { callee := Go.Callee.value (Go.Operand.func 13), args := #[Go.Operand.tmp 58, Go.Operand.tmp 60, Go.Operand.tmp 61], argTypes := #[25, 42, 31] }, type := 4, pos := "law.go:46", after := #[{ on := 25, ground := Go.Ground.data }, { on := 27, ground := Go.Ground.data }, { on := 28, ground := Go.Ground.data }, { on := 24, ground := Go.Ground.chain }, { on := 24, ground := Go.Ground.guard }], guard := Option.some (24, Bool.true) }) rfl (fun K hK => ?_) AllReadyH.nil)
  go_simp
  refine (V2.out _ hB10).mono ?_
  rintro e w11 ⟨rfl, hb11⟩
  go_simp
  refine hK.out _ _ (mkS _ (chain hB10 hb11)) (fun hHeld2 => ?_)
  clear hK K
  have hHeldP := hHeld.1
  clear hHeld
  have hHeld := hHeld2
  clear hHeld2
  have hB11 := hHeld.1
  clear hHeldP hb11
  try simp only [Act.put, List.setIfInBounds_toArray, List.set_cons_zero, List.set_cons_succ]
  refine wpAnyH_take (i := 30) (oi := { dst := Option.some 63, op := Go.Op.unOp Go.UnOp.not 4 (Go.Operand.tmp 62), type := 4, pos := "law.go:46", after := #[{ on := 29, ground := Go.Ground.data }, { on := 24, ground := Go.Ground.guard }], guard := Option.some (24, Bool.true) }) (v := ?_) rfl (by kernel_rfl) (by kernel_rfl) (by kernel_rfl) (fun _ _ _ h => h) (Or.inl ⟨by rfl, ?_⟩) hHeld ?_
  rotate_left
  · intro w hSw
    clear hSw
    go_simp
    try with_reducible rfl
  try simp only [Act.put, List.setIfInBounds_toArray, List.set_cons_zero, List.set_cons_succ]
  refine wpAnyH_take (i := 31) (oi := { dst := Option.some 64, op := Go.Op.pick (Go.Operand.tmp 57) (Go.Operand.tmp 63) (Go.Operand.const (Go.Value.bool Bool.false)), type := 4, pos := "law.go:46", after := #[{ on := 24, ground := Go.Ground.data }, { on := 30, ground := Go.Ground.data }], guard := Option.none }) (v := ?_) rfl (by kernel_rfl) (by kernel_rfl) (by kernel_rfl) (fun _ _ _ h => h) (Or.inl ⟨by rfl, ?_⟩) hHeld ?_
  rotate_left
  · intro w hSw
    clear hSw
    go_simp
    try with_reducible rfl
  try simp only [Act.put, List.setIfInBounds_toArray, List.set_cons_zero, List.set_cons_succ]
  refine wpAnyH_take (i := 32) (oi := { dst := Option.some 0, op := Go.Op.assign (Go.Operand.tmp 64), type := 4, pos := "law.go:46", after := #[{ on := 31, ground := Go.Ground.data }, { on := 29, ground := Go.Ground.chain }, { on := 0, ground := Go.Ground.phase }, { on := 1, ground := Go.Ground.phase }, { on := 2, ground := Go.Ground.phase }, { on := 3, ground := Go.Ground.phase }, { on := 4, ground := Go.Ground.phase }, { on := 5, ground := Go.Ground.phase }, { on := 6, ground := Go.Ground.phase }, { on := 7, ground := Go.Ground.phase }, { on := 8, ground := Go.Ground.phase }, { on := 9, ground := Go.Ground.phase }, { on := 10, ground := Go.Ground.phase }, { on := 11, ground := Go.Ground.phase }, { on := 12, ground := Go.Ground.phase }, { on := 13, ground := Go.Ground.phase }, { on := 14, ground := Go.Ground.phase }, { on := 15, ground := Go.Ground.phase }, { on := 16, ground := Go.Ground.phase }, { on := 17, ground := Go.Ground.phase }, { on := 18, ground := Go.Ground.phase }, { on := 19, ground := Go.Ground.phase }, { on := 20, ground := Go.Ground.phase }, { on := 21, ground := Go.Ground.phase }, { on := 22, ground := Go.Ground.phase }, { on := 23, ground := Go.Ground.phase }, { on := 24, ground := Go.Ground.phase }, { on := 25, ground := Go.Ground.phase }, { on := 26, ground := Go.Ground.phase }, { on := 27, ground := Go.Ground.phase }, { on := 28, ground := Go.Ground.phase }, { on := 29, ground := Go.Ground.phase }, { on := 30, ground := Go.Ground.phase }, { on := 31, ground := Go.Ground.phase }], guard := Option.none }) (v := ?_) rfl (by kernel_rfl) (by kernel_rfl) (by kernel_rfl) (fun _ _ _ h => h) (Or.inl ⟨by rfl, ?_⟩) hHeld ?_
  rotate_left
  · intro w hSw
    clear hSw
    go_simp
    try with_reducible rfl
  try simp only [Act.put, List.setIfInBounds_toArray, List.set_cons_zero, List.set_cons_succ]
  refine wpAnyH_done (by kernel_rfl) ?_ _
  go_wp2_with fail
  go_ret
  exact ⟨rfl, chain HB9.out hB11⟩
end Go.Proofs.YtafolokkjpbieaaDoor
