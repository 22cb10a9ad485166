import Derived.Test.YtcgffkkfeimifaaGreatDoorDigKit
import Derived.RangeFuncNested
import Derived.RangeFuncBound
import Derived.RangeFuncCalls
import Derived.RangeFuncLeaves
import Derived.Shelf.Abstract
import Derived.OwnWalkIn
import Derived.TacticsInMore
import Derived.LoopNIn
import Derived.LoopIn
import Derived.Laws.CopyOwn
import Derived.OneCell
import Derived.RangeFuncBox
import Derived.Maps.AppendAt
import Derived.Lib.LaidU8
import Derived.Stop.LaidErr
import Derived.Deep.DeepLaidRun
import Derived.HandedShaped
import Derived.Shelf.Vars
import Derived.ChangeSlices
import Derived.ReadAgain
import Derived.Lib.SlBytesConst
namespace Go.Proofs.YtcgffkkfeimifaaGreatDoor
open Go.RowKit Sha
set_option linter.unusedVariables false
set_option linter.unusedSimpArgs false
theorem and31 : ∀ n : Fin 32, 1 ≤ n.val → bits .and .u64 (IntKind.u64.wrap (-(n.val : Int))) 31 = ((32 - n.val : Nat) : Int) := by decide +kernel
set_option maxRecDepth 100000 in
theorem rot_any (x : UInt32) (n : Nat) (h1 : 1 ≤ n) (h2 : n < 32) (w : World) :
  Calls Tryz.prog 167 #[.int .u32 (u x), .int .i64 (-(n : Int))] w fun e w' => e = .returned (.int .u32 (u (rr x n))) ∧ w = w' := by
 have hb := and31 ⟨n, h2⟩ h1
 have hr := rr_or x n h1 h2
 have e1 : (((32 - n : Nat) : Int)).toNat = 32 - n := by omega
 simp only at hb
 obtain ⟨s, hs⟩ : ∃ s, 32 - n = s := ⟨_, rfl⟩
 rw [hs] at hb hr
 have hn : (32 - (s : Int)).toNat = n := by omega
 have HR := Lib.hid hr
 have HN := Lib.hid hn
 have hs1 : 1 ≤ s := by omega
 have hs2 : s < 32 := by omega
 clear hr e1 hs hn h1 h2
 go_enter Tryz.func167, Tryz.ntmps167
 go_wp2
 go_ret
 refine ⟨?_, rfl⟩
 refine ret_eq ?_
 rw [← HR.out, ← HN.out, show (32 - (s : Int)).toNat = 32 - s by omega]
 rfl
set_option maxRecDepth 100000 in
theorem right_any (x : UInt32) (n : Nat) (h1 : 1 ≤ n) (h2 : n < 32) (w : World) :
  Calls Tryz.prog 166 #[.int .u32 (u x), .int .i64 (n : Int)] w fun e w' => e = .returned (.int .u32 (u (rr x n))) ∧ w = w' := by
 go_enter Tryz.func166, Tryz.ntmps166
 go_wp2_with fail
 refine (rot_any x n h1 h2 _).mono ?_
 rintro e w1 ⟨rfl, rfl⟩
 go_wp2_with fail
 go_ret
 exact ⟨rfl, rfl⟩
theorem turns_any (x : UInt32) (i j k : Nat) (i1 : 1 ≤ i) (i2 : i < 32) (j1 : 1 ≤ j) (j2 : j < 32) (k1 : 1 ≤ k) (k2 : k < 32) (w : World) :
  Calls Tryz.prog 164 #[.int .u32 (u x), .int .i64 (i : Int), .int .i64 (j : Int), .int .i64 (k : Int)] w fun e w' => e = .returned (.int .u32 (u (rr x i ^^^ rr x j ^^^ rr x k))) ∧ w = w' := by
 have e1 := u_xor (rr x i) (rr x j)
 have e2 := u_xor (rr x i ^^^ rr x j) (rr x k)
 have E1 := Lib.hid e1
 have E2 := Lib.hid e2
 clear e1 e2
 go_enter Tryz.func164, Tryz.ntmps164
 go_wp2_with fail
 refine (right_any x i i1 i2 _).mono ?_
 rintro e w1 ⟨rfl, rfl⟩
 go_wp2_with fail
 refine (right_any x j j1 j2 _).mono ?_
 rintro e w1 ⟨rfl, rfl⟩
 go_wp2_with fail
 refine (right_any x k k1 k2 _).mono ?_
 rintro e w1 ⟨rfl, rfl⟩
 go_wp2_with fail
 go_ret
 refine ⟨ret_eq ?_, rfl⟩
 rw [← E2.out, ← E1.out]
 rfl
theorem turns_e (x : UInt32) (w : World) : Calls Tryz.prog 164 #[.int .u32 (u x), .int .i64 6, .int .i64 11, .int .i64 25] w fun e w' => e = .returned (.int .u32 (u (e1 x))) ∧ w = w' := turns_any x 6 11 25 (by decide) (by decide) (by decide) (by decide) (by decide) (by decide) w
theorem turns_a (x : UInt32) (w : World) : Calls Tryz.prog 164 #[.int .u32 (u x), .int .i64 2, .int .i64 13, .int .i64 22] w fun e w' => e = .returned (.int .u32 (u (e0 x))) ∧ w = w' := turns_any x 2 13 22 (by decide) (by decide) (by decide) (by decide) (by decide) (by decide) w
theorem quiet_same {P : Program} {f : FuncId} {args : Array Value} {w : World} {n : Nat} {v : Value} (h : ∀ w, Calls P f args w fun e w' => e = .returned v ∧ w = w') :
  Calls P f args (w.drewN n) fun e w'' => e = .returned v ∧ ∃ m, w'' = w.drewN m := (h (w.drewN n)).mono fun _ _ ⟨he, hm⟩ => ⟨he, n, hm.symm⟩
theorem right_17 (x : UInt32) (w : World) : Calls Tryz.prog 166 #[.int .u32 (u x), .int .i64 17] w fun e w' => e = .returned (.int .u32 (u (rr x 17))) ∧ w = w' := right_any x 17 (by decide) (by decide) w
theorem right_19 (x : UInt32) (w : World) : Calls Tryz.prog 166 #[.int .u32 (u x), .int .i64 19] w fun e w' => e = .returned (.int .u32 (u (rr x 19))) ∧ w = w' := right_any x 19 (by decide) (by decide) w
theorem right_7 (x : UInt32) (w : World) : Calls Tryz.prog 166 #[.int .u32 (u x), .int .i64 7] w fun e w' => e = .returned (.int .u32 (u (rr x 7))) ∧ w = w' := right_any x 7 (by decide) (by decide) w
theorem right_18 (x : UInt32) (w : World) : Calls Tryz.prog 166 #[.int .u32 (u x), .int .i64 18] w fun e w' => e = .returned (.int .u32 (u (rr x 18))) ∧ w = w' := right_any x 18 (by decide) (by decide) w
end Go.Proofs.YtcgffkkfeimifaaGreatDoor
namespace Go.Proofs.YtcgffkkfeimifaaGreatDoor
open Go.RowKit Sha
set_option linter.unusedVariables false
set_option linter.unusedSimpArgs false
set_option maxRecDepth 100000 in
set_option maxHeartbeats 2000000 in
theorem sched_any (x : List UInt8) (hx : x.length = 64) (w : World) :
  Calls Tryz.prog 163 #[.agg (bcells x)] w fun e w' => e = .returned (.agg (wcells (sched x))) ∧ Below w.heap.size w w' := by
 have hsz : (Tryz.prog.info? 181).map (·.size) = some (bcells x).size := by rw [bcells_size, hx]; kernel_rfl
 have HSZ := Lib.hid hsz
 have HX := Lib.hid hx
 clear hsz hx
 go_enter Tryz.func163, Tryz.ntmps163
 go_wp2_with (refine wpList_load_row rfl 181 _ rfl w.heap.size rfl 181 (bcells x) (0, 0) _ (by repeat (first | exact heap_alloc_new _ _ | rw [Below.heap_alloc _ _ _ (by simp <;> omega)])) Tryz.underlying181 rfl HSZ.out ?_)
 obtain ⟨B, hB⟩ : ∃ B, w.heap.size + 1 + 1 = B := ⟨_, rfl⟩
 obtain ⟨R, hR⟩ : ∃ R, w.heap.size + 1 = R := ⟨_, rfl⟩
 rw [hR] at hB
 simp only [hR, hB]
 generalize hV : World.alloc (World.alloc (World.alloc w _) _) _ = V
 have hVB : V.heap[B]? = some (.cells (wcells (pw x 0)) 170 (0, 0)) := by
  rw [← hV, ← hB, ← hR]
  exact (heap3_last _ _ _ _).trans rfl
 have hVR : V.heap[R]? = some (.cells (wcells (pw x 0)) 170 (0, 0)) := by
  rw [← hV, ← hR]
  exact (heap3_mid _ _ _ _).trans rfl
 have hbV : Below w.heap.size w V := by rw [← hV]; exact below3 _ _ _ _
 have hRB : w.heap.size < R ∧ R < B := by omega
 have HVB := Lib.hid (OnlyB.here hVB)
 have HVR := Lib.hid hVR
 have HBV := Lib.hid hbV
 have HRB := Lib.hid hRB
 clear hB hR hV hVB hVR hbV hRB
 go_loopw [10] (fun i wr => ∃ k : Nat, k ≤ 64 ∧ i = .int .i64 (k : Int) ∧ OnlyB B 170 V wr (wcells (pw x k))) (fun i _ => 64 - (intOf i).toNat)
 case atStart => exact ⟨0, by omega, rfl, HVB.out⟩
 case round =>
  obtain ⟨k, hk, rfl, hrow⟩ := hrel
  have HROW := Lib.hid hrow
  clear hrow
  by_cases hlt : k < 64
  ·
   have hix : ∀ w, (Instr.index 181 (.agg (bcells x)) (.int .i64 (k : Int))).run Tryz.prog w = .ok (.int .u8 ((x.getD k 0).toNat : Int)) w :=
    fun w => run_index_row Tryz.underlying181 (fun _ => by kernel_rfl) (fun _ => by kernel_rfl) k hlt (bcells_at x k (by rw [HX.out]; exact hlt)) w
   have hc := HROW.out.cell (k / 4)
   rw [wcells_at _ _ (by rw [pw_len]; omega)] at hc
   have hf := HROW.out.free (k / 4)
   obtain ⟨a, ha⟩ : ∃ a, (pw x k).getD (k / 4) 0 = a := ⟨_, rfl⟩
   obtain ⟨c, hcc⟩ : ∃ c, x.getD k 0 = c := ⟨_, rfl⟩
   rw [ha] at hc
   rw [hcc] at hix
   have HA := Lib.hid ha
   have HC := Lib.hid hcc
   have hc8 : c.toNat < 256 := c.toNat_lt
   clear ha hcc
   go_wp2_with fail
   go_roundw
   case rel =>
    refine ⟨k + 1, by omega, by go_num, ?_⟩
    have h := HROW.out.set (k / 4) (.int .u32 (u (takeIn a c)))
    rw [wcells_set] at h
    rw [u_takeIn]
    rw [pw, HA.out, HC.out]
    exact h
   case measure => simp [intOf]; omega
  ·
   have hk64 : k = 64 := by omega
   subst hk64
   have hge : ¬ ((64 : Nat) : Int) < 64 := by omega
   go_wp2_with fail
   go_loopw [6] (fun v wr => ∃ i : Nat, 16 ≤ i ∧ i ≤ 64 ∧ v = .int .i64 (i : Int) ∧ OnlyB B 170 V wr (wcells (mo x (i - 16)))) (fun v _ => 64 - (intOf v).toNat)
   case atStart => exact ⟨16, by omega, by omega, rfl, HROW.out⟩
   case round =>
    obtain ⟨i, hi1, hi2, rfl, hrow⟩ := hrel
    clear HROW
    have HROW := Lib.hid hrow
    clear hrow
    by_cases hlt : i < 64
    ·
     obtain ⟨p2, hp2⟩ : ∃ a, (mo x (i - 16)).getD (i - 2) 0 = a := ⟨_, rfl⟩
     obtain ⟨p7, hp7⟩ : ∃ a, (mo x (i - 16)).getD (i - 7) 0 = a := ⟨_, rfl⟩
     obtain ⟨p15, hp15⟩ : ∃ a, (mo x (i - 16)).getD (i - 15) 0 = a := ⟨_, rfl⟩
     obtain ⟨p16, hp16⟩ : ∃ a, (mo x (i - 16)).getD (i - 16) 0 = a := ⟨_, rfl⟩
     have c2 := HROW.out.cell (i - 2)
     have c7 := HROW.out.cell (i - 7)
     have c15 := HROW.out.cell (i - 15)
     have c16 := HROW.out.cell (i - 16)
     rw [wcells_at _ _ (by rw [mo_len]; omega), hp2] at c2
     rw [wcells_at _ _ (by rw [mo_len]; omega), hp7] at c7
     rw [wcells_at _ _ (by rw [mo_len]; omega), hp15] at c15
     rw [wcells_at _ _ (by rw [mo_len]; omega), hp16] at c16
     have ci := HROW.out.cell i
     rw [wcells_at _ _ (by rw [mo_len]; omega)] at ci
     have fi := HROW.out.free i
     have HP := Lib.hid (show newW (mo x (i - 16)) i = s1 p2 + p7 + s0 p15 + p16 by unfold newW; rw [hp2, hp7, hp15, hp16])
     have hi64 : (i : Int) < 64 := by omega
     obtain ⟨q, hq⟩ : ∃ q, (mo x (i - 16)).getD i 0 = q := ⟨_, rfl⟩
     rw [hq] at ci
     have HC2 := Lib.hid c2
     have HC7 := Lib.hid c7
     have HC15 := Lib.hid c15
     have HC16 := Lib.hid c16
     have HCi := Lib.hid ci
     have HFi := Lib.hid fi
     clear hp2 hp7 hp15 hp16 hq c7 c15 c16 ci fi
     go_wp2_with fail
     go_quiet (first | (go_at_call 166; exact quiet_same (right_17 p2)) | (go_at_call 166; exact quiet_same (right_19 p2)))
     rw [u_s1]
     generalize hv1 : World.drewN wr _ = wr1
     have HV1 : RowKit.Hid (OnlyB B 170 V wr1 (wcells (mo x (i - 16)))) := Lib.hid (by rw [← hv1]; exact HROW.out.drewN _)
     have c15 : wr1.cell? ⟨B, i - 15, none⟩ = some (.int .u32 (u p15)) := by rw [← hv1]; exact HC15.out
     clear hv1 c2
     go_wp2_with fail
     go_quiet (first | (go_at_call 166; exact quiet_same (right_7 p15)) | (go_at_call 166; exact quiet_same (right_18 p15)))
     rw [u_s0]
     generalize hv2 : World.drewN wr1 _ = wr2
     have HV2 : RowKit.Hid (OnlyB B 170 V wr2 (wcells (mo x (i - 16)))) := Lib.hid (by rw [← hv2]; exact HV1.out.drewN _)
     have hcc : ∀ j : Nat, wr2.cell? ⟨B, j, none⟩ = wr.cell? ⟨B, j, none⟩ := fun j => (HV2.out.cell j).trans (HROW.out.cell j).symm
     have hff := HV2.out.free i
     have c7 : wr2.cell? ⟨B, i - 7, none⟩ = some (.int .u32 (u p7)) := (hcc _).trans HC7.out
     have c16 : wr2.cell? ⟨B, i - 16, none⟩ = some (.int .u32 (u p16)) := (hcc _).trans HC16.out
     have ci : wr2.cell? ⟨B, i, none⟩ = some (.int .u32 (u q)) := (hcc _).trans HCi.out
     clear hv2 c15 hcc
     go_wp2_with fail
     have w7 : IntKind.i64.wrap ((i : Int) - 7) = (i : Int) - 7 := IntWalk.i64_in _ (by omega)
     have w16 : IntKind.i64.wrap ((i : Int) - 16) = (i : Int) - 16 := IntWalk.i64_in _ (by omega)
     have n7 : ((i : Int) - 7).toNat = i - 7 := by omega
     have n16 : ((i : Int) - 16).toNat = i - 16 := by omega
     have l7 : (7 : Int) ≤ (i : Int) := by omega
     have l16 : (16 : Int) ≤ (i : Int) := by omega
     have g7 : (i : Int) - 7 < 64 := by omega
     have g16 : (i : Int) - 16 < 64 := by omega
     go_still_tail 15, (by kernel_rfl)
     change wpList _ _ _ _ _ wr2.drew
     clear w7 w16 n7 n16 l7 l16 g7 g16
     go_wp2_with fail
     go_roundw
     case rel =>
      refine ⟨i + 1, by omega, by omega, by go_num, ?_⟩
      have h := (HV2.out.set i (.int .u32 (u (s1 p2 + p7 + s0 p15 + p16)))).drew
      rw [wcells_set] at h
      rw [u_add4, mo_step x i (by omega), HP.out]
      exact h
     case measure => simp [intOf]; omega
    ·
     have hi64 : i = 64 := by omega
     subst hi64
     have hge : ¬ ((64 : Nat) : Int) < 64 := by omega
     have hgB := HROW.out.own
     have hgR : wr.heap[R]? = some (.cells (wcells (pw x 0)) 170 (0, 0)) := (HROW.out.oth R (by have := HRB.out; omega)).trans HVR.out
     have hsz : (Tryz.prog.info? 170).map (·.size) = some (wcells (mo x 48)).size := by rw [wcells_size, mo_len]; kernel_rfl
     have hso : (wcells (pw x 0)).size = (wcells (mo x 48)).size := by rw [wcells_size, wcells_size, mo_len, pw_len]
     have HGB := Lib.hid hgB
     have HGR := Lib.hid hgR
     have HSO := Lib.hid hso
     have HSW := Lib.hid hsz
     clear hgB hgR hsz hso
     go_wp2_with (first | (refine wpList_load_row rfl 170 _ rfl B rfl 170 (wcells (mo x 48)) (0, 0) _ HGB.out Tryz.underlying170 rfl HSW.out ?_) | (refine wpList_store_row rfl 170 _ _ rfl R (wcells (mo x 48)) rfl rfl 170 (wcells (pw x 0)) HGR.out HSW.out HSO.out (wcells_one _) ?_))
     refine bodyPost_ret (v := .agg (wcells (mo x 48))) (results_cell_row rfl _ _ R 170 _ (0, 0) _ rfl (setRow_heap _ _ _ _ _ _ HGR.out) Tryz.underlying170 rfl HSW.out) rfl ⟨rfl, ?_⟩
     have h1 := HBV.out.trans (HROW.out.below (n := w.heap.size) (by have := HRB.out; omega))
     exact below_row h1 (by have := HRB.out; omega) _
end Go.Proofs.YtcgffkkfeimifaaGreatDoor
namespace Go.Proofs.YtcgffkkfeimifaaGreatDoor
open Go.RowKit Sha
set_option linter.unusedVariables false
set_option linter.unusedSimpArgs false
set_option maxRecDepth 100000 in
set_option maxHeartbeats 4000000 in
theorem after_any (r : Regs) (x : List UInt8) (hx : x.length = 64) (w : World) (env : DEnv w) :
  Calls Tryz.prog 155 #[.agg (wcells r.list), .agg (bcells x)] w fun e w' => e = .returned (.agg (wcells (after r x).list)) ∧ Below w.heap.size w w' := by
 have hsz : (Tryz.prog.info? 181).map (·.size) = some (bcells x).size := by rw [bcells_size, hx]; kernel_rfl
 have hss : (Tryz.prog.info? 170).map (·.size) = some (wcells (sched x)).size := by rw [wcells_size, sched_len]; kernel_rfl
 have HSZ := Lib.hid hsz
 have HSS := Lib.hid hss
 have HX := Lib.hid hx
 have ENV := Lib.hid env
 obtain ⟨F, hF⟩ : ∃ F, (after r x).list = F := ⟨_, rfl⟩
 have hln : F.length = 8 := by rw [← hF, list_len]
 rw [hF]
 have HF := Lib.hid hF
 have HLN := Lib.hid hln
 clear hsz hss hx env hF hln
 go_enter Tryz.func155, Tryz.ntmps155
 go_wp2_with (refine wpList_load_row rfl 181 _ rfl (w.heap.size + 1) rfl 181 (bcells x) (0, 0) _ (heap3_mid _ _ _ _) Tryz.underlying181 rfl HSZ.out ?_)
 refine (sched_any x HX.out _).mono ?_
 rintro e v1 ⟨rfl, hb⟩
 have HB := Lib.hid hb
 clear hb
 go_wp2_with (refine wpList_store_row rfl 170 _ _ rfl v1.heap.size (wcells (sched x)) rfl rfl 170 _ (heap_alloc_new _ _) HSS.out (by rw [wcells_size, sched_len]; rfl) (wcells_one _) ?_)
 rw [World.setRow_alloc_new]
 generalize hV : World.alloc v1 _ = V
 obtain ⟨A, hA⟩ : ∃ A, w.heap.size = A := ⟨_, rfl⟩
 obtain ⟨S, hS⟩ : ∃ S, v1.heap.size = S := ⟨_, rfl⟩
 have hvA : V.heap[A]? = some (.cells (wcells r.list) 176 (0, 0)) := by
  have hz := HB.out.size
  simp at hz
  rw [← hV, Below.heap_alloc _ _ _ (by omega), ← hA, HB.out.block _ (by simp; omega)]
  exact heap3_first _ _ _ _
 have hvR : V.heap[A + 1 + 1]? = some (.cells (wcells [0, 0, 0, 0, 0, 0, 0, 0]) 176 (0, 0)) := by
  have hz := HB.out.size
  simp at hz
  rw [← hV, Below.heap_alloc _ _ _ (by omega), ← hA, HB.out.block _ (by simp)]
  exact (heap3_last _ _ _ _).trans rfl
 have hvS : V.heap[S]? = some (.cells (wcells (sched x)) 170 (0, 0)) := by
  rw [← hV, ← hS]
  exact heap_alloc_new _ _
 have hbV : Below A w V := by
  rw [← hV, ← hA]
  have h1 := HB.out.size
  simp at h1
  exact ((below3 _ _ _ _).trans (HB.out.mono (by simp; omega))).alloc (by omega) _
 have hAS : A + 1 + 1 < S := by
  have h1 := HB.out.size
  simp at h1
  omega
 simp only [hA, hS]
 have HVA := Lib.hid (OnlyB.here hvA)
 have HVR := Lib.hid hvR
 have HVS := Lib.hid hvS
 have HBV := Lib.hid hbV
 have HAS := Lib.hid hAS
 have EV : RowKit.Hid (DEnv V) := Lib.hid (by
  have h0 := ENV.out.lt0
  have h1 := ENV.out.lt1
  rw [hA] at h0 h1
  refine ENV.out.below HBV.out ?_
  have e0 : 0 < A := h0
  have e1 : 1 < A := h1
  omega)
 have HAw := Lib.hid hA
 have q : ∀ j y, r.list[j]? = some y → V.cell? ⟨A, j, none⟩ = some (.int .u32 (u y)) := fun j y hj => by
  obtain ⟨hlt, e⟩ := List.getElem?_eq_some_iff.1 hj
  rw [HVA.out.cell, wcells_at _ _ hlt, List.getD_eq_getElem?_getD, hj]
  rfl
 have q0 := q 0 r.a rfl
 have q1 := q 1 r.b rfl
 have q2 := q 2 r.c rfl
 have q3 := q 3 r.d rfl
 have q4 := q 4 r.e rfl
 have q5 := q 5 r.f rfl
 have q6 := q 6 r.g rfl
 have q7 := q 7 r.h rfl
 clear q hA hS hV hvA hvR hvS hbV hAS HB ENV
 go_quiet (fail)
 go_wp2_with fail
 go_loopw [6, 7, 8, 9, 10, 11, 12, 13, 37] (fun s6 s7 s8 s9 s10 s11 s12 s13 i wr => ∃ (k : Nat) (m : Nat) (a b c d e f g h : UInt32), k ≤ 64 ∧ i = .int .i64 (k : Int) ∧ turn (sched x) k r = ⟨a, b, c, d, e, f, g, h⟩ ∧ s6 = .int .u32 (u a) ∧ s7 = .int .u32 (u b) ∧ s8 = .int .u32 (u c) ∧ s9 = .int .u32 (u d) ∧ s10 = .int .u32 (u e) ∧ s11 = .int .u32 (u f) ∧ s12 = .int .u32 (u g) ∧ s13 = .int .u32 (u h) ∧ wr = V.drewN m) (fun _ _ _ _ _ _ _ _ i _ => 64 - (intOf i).toNat)
 case atStart => exact ⟨0, _, r.a, r.b, r.c, r.d, r.e, r.f, r.g, r.h, by omega, rfl, rfl, rfl, rfl, rfl, rfl, rfl, rfl, rfl, rfl, rfl⟩
 case round =>
  obtain ⟨k, m, a, b, c, d, e, f, g, h, hk, rfl, hturn, rfl, rfl, rfl, rfl, rfl, rfl, rfl, rfl, hwr⟩ := hrel
  have HT := Lib.hid hturn
  have HWR := Lib.hid hwr
  clear hturn hwr q0 q1 q2 q3 q4 q5 q6 q7
  by_cases hlt : k < 64
  ·
   obtain ⟨kk, hkk⟩ : ∃ y, K.getD k 0 = y := ⟨_, rfl⟩
   obtain ⟨ww, hww⟩ : ∃ y, (sched x).getD k 0 = y := ⟨_, rfl⟩
   have ck : wr.cell? ⟨1, k, none⟩ = some (.int .u32 (u kk)) := by
    obtain ⟨t, fr, hc⟩ := EV.out.con
    rw [HWR.out, cell_of_row (V.drewN m) _ k _ t fr hc, wcells_at _ _ hlt, hkk]
   have cw : wr.cell? ⟨S, k, none⟩ = some (.int .u32 (u ww)) := by
    rw [HWR.out, cell_of_row (V.drewN m) _ k _ _ _ HVS.out, wcells_at _ _ (by rw [sched_len]; exact hlt), hww]
   have HST := Lib.hid (show turn (sched x) (k + 1) r = Sha.step ⟨a, b, c, d, e, f, g, h⟩ kk ww by rw [turn, HT.out, hkk, hww])
   have hk64 : (k : Int) < 64 := by omega
   clear hkk hww
   go_wp2_with fail
   go_quiet ((go_at_call 164; exact quiet_same (turns_e e)))
   rw [mx, u_t]
   obtain ⟨T, hT⟩ : ∃ T, h + e1 e + ((e &&& f) ^^^ (~~~ e &&& g)) + kk + ww = T := ⟨_, rfl⟩
   rw [hT]
   have HTT := Lib.hid hT
   clear hT ck cw
   generalize hv1 : World.drewN wr _ = wr1
   have HV1 : RowKit.Hid (∃ m, wr1 = V.drewN m) := Lib.hid ⟨_, by rw [← hv1, HWR.out, World.drewN_drewN]⟩
   clear hv1
   go_wp2_with fail
   refine (turns_a a _).mono ?_
   rintro e' w1 ⟨rfl, rfl⟩
   go_wp2_with fail
   go_roundw
   case rel =>
    obtain ⟨m1, hm1⟩ := HV1.out
    refine ⟨k + 1, m1, T + (e0 a + ((a &&& b) ^^^ (a &&& c) ^^^ (b &&& c))), a, b, c, d + T, e, f, g, by omega, by go_num, by rw [HST.out, step_eq, HTT.out], ?_, rfl, rfl, rfl, ?_, rfl, rfl, rfl, hm1⟩
    ·
     rw [← u_add, ← u_u]
    ·
     rw [← u_add]
   case measure => simp [intOf]; omega
  ·
   have hk64 : k = 64 := by omega
   subst hk64
   have hge : ¬ ((64 : Nat) : Int) < 64 := by omega
   go_wp2_with fail
   obtain ⟨s, hs⟩ : ∃ s : Regs, s = ⟨a, b, c, d, e, f, g, h⟩ := ⟨_, rfl⟩
   have HS := Lib.hid hs
   have HV1 : RowKit.Hid (OnlyB A 176 V wr (wcells (pl r.list [a, b, c, d, e, f, g, h] 0))) := Lib.hid (by rw [HWR.out]; exact HVA.out.drewN m)
   clear hs HWR
   go_loopw [97] (fun i wr => ∃ k : Nat, k ≤ 8 ∧ i = .int .i64 (k : Int) ∧ OnlyB A 176 V wr (wcells (pl r.list [a, b, c, d, e, f, g, h] k))) (fun i _ => 8 - (intOf i).toNat)
   case atStart => exact ⟨0, by omega, rfl, HV1.out⟩
   case round =>
    obtain ⟨k, hk, rfl, hrow⟩ := hrel
    have HROW := Lib.hid hrow
    clear hrow
    by_cases hlt : k < 8
    ·
     obtain ⟨y, hy⟩ : ∃ y, [a, b, c, d, e, f, g, h].getD k 0 = y := ⟨_, rfl⟩
     obtain ⟨z, hz⟩ : ∃ z, (pl r.list [a, b, c, d, e, f, g, h] k).getD k 0 = z := ⟨_, rfl⟩
     have hix : ∀ w, (Instr.index 176 (.agg #[.int .u32 (u a), .int .u32 (u b), .int .u32 (u c), .int .u32 (u d), .int .u32 (u e), .int .u32 (u f), .int .u32 (u g), .int .u32 (u h)]) (.int .i64 (k : Int))).run Tryz.prog w = .ok (.int .u32 (u y)) w :=
      fun w => run_index_row Tryz.underlying176 (fun _ => by kernel_rfl) (fun _ => by kernel_rfl) k hlt (by rw [← hy]; exact wcells_at [a, b, c, d, e, f, g, h] k hlt) w
     have hc := HROW.out.cell k
     rw [wcells_at _ _ (by rw [pl_len, list_len]; omega), hz] at hc
     have hf := HROW.out.free k
     have HY := Lib.hid hy
     have HZ := Lib.hid hz
     have hk8 : (k : Int) < 8 := by omega
     clear hy hz
     go_wp2_with fail
     go_roundw
     case rel =>
      refine ⟨k + 1, by omega, by go_num, ?_⟩
      have h1 := HROW.out.set k (.int .u32 (u (z + y)))
      rw [wcells_set] at h1
      rw [u_add, pl, HY.out, HZ.out]
      exact h1
     case measure => simp [intOf]; omega
    ·
     have hk8 : k = 8 := by omega
     subst hk8
     have hge : ¬ ((8 : Nat) : Int) < 8 := by omega
     have hfin : pl r.list [a, b, c, d, e, f, g, h] 8 = (after r x).list := by
      show pl r.list (Regs.list ⟨a, b, c, d, e, f, g, h⟩) 8 = _
      rw [pl_all]
      unfold after
      rw [HT.out]
     have hgA := HROW.out.own
     rw [hfin] at hgA
     have hln : F.length = 8 := HLN.out
     clear hfin
     rw [HF.out] at hgA
     have hgR : wr.heap[A + 1 + 1]? = some (.cells (wcells [0, 0, 0, 0, 0, 0, 0, 0]) 176 (0, 0)) := (HROW.out.oth (A + 1 + 1) (by omega)).trans HVR.out
     have hsz : (Tryz.prog.info? 176).map (·.size) = some (wcells F).size := by rw [wcells_size, hln]; kernel_rfl
     have hso : (wcells [0, 0, 0, 0, 0, 0, 0, 0]).size = (wcells F).size := by rw [wcells_size, wcells_size, hln]; rfl
     have HGA := Lib.hid hgA
     have HGR := Lib.hid hgR
     have HSW := Lib.hid hsz
     have HSO := Lib.hid hso
     have hbl := HBV.out.trans (HROW.out.below (n := A) (Nat.le_refl _))
     have HBL := Lib.hid hbl
     clear hgA hgR hsz hbl hso hln
     go_wp2_with (first | (refine wpList_load_row rfl 176 _ rfl A rfl 176 (wcells F) (0, 0) _ HGA.out Tryz.underlying176 rfl HSW.out ?_) | (refine wpList_store_row rfl 176 _ _ rfl (A + 1 + 1) (wcells F) rfl rfl 176 (wcells [0, 0, 0, 0, 0, 0, 0, 0]) HGR.out HSW.out HSO.out (wcells_one _) ?_))
     refine bodyPost_ret (v := .agg (wcells F)) (results_cell_row rfl _ _ (A + 1 + 1) 176 _ (0, 0) _ rfl (setRow_heap _ _ _ _ _ _ HGR.out) Tryz.underlying176 rfl HSW.out) rfl ⟨rfl, ?_⟩
     rw [HAw.out]
     exact below_row HBL.out (by omega) _
end Go.Proofs.YtcgffkkfeimifaaGreatDoor
namespace Go.Proofs.YtcgffkkfeimifaaGreatDoor
open Go.RowKit Sha
set_option linter.unusedVariables false
set_option linter.unusedSimpArgs false
set_option maxRecDepth 100000 in
set_option maxHeartbeats 4000000 in
theorem hash_any (r : Regs) (w : World) :
  Calls Tryz.prog 156 #[.agg (wcells r.list)] w fun e w' => e = .returned (.agg (bcells r.hash)) ∧ Below w.heap.size w w' := by
 obtain ⟨l, hl⟩ : ∃ l, r.list = l := ⟨_, rfl⟩
 have hl8 : l.length = 8 := by rw [← hl]; rfl
 obtain ⟨F, hF⟩ : ∃ F, r.hash = F := ⟨_, rfl⟩
 have hF2 : hp l 32 = F := by rw [← hl]; exact hF
 have hFl : F.length = 32 := by rw [← hF2, hp_len]
 rw [hl, hF]
 have HF := Lib.hid hF2
 have HFL := Lib.hid hFl
 have HL := Lib.hid hl8
 clear hl hF hF2 hFl hl8
 go_enter Tryz.func156, Tryz.ntmps156
 go_wp2_with fail
 obtain ⟨A, hA⟩ : ∃ A, w.heap.size = A := ⟨_, rfl⟩
 have hsA : (((w.alloc (.cells (wcells l) 176)).alloc (.cells (bcells (hp l 0)) 157)).alloc (.cells (bcells (hp l 0)) 157)).heap[A + 1 + 1]? = some (.cells (bcells (hp l 0)) 157 (0, 0)) := by rw [← hA]; exact heap3_last _ _ _ _
 simp only [hA]
 generalize hV : World.alloc (World.alloc (World.alloc w _) _) _ = V
 have hvA : V.heap[A]? = some (.cells (wcells l) 176 (0, 0)) := by rw [← hV, ← hA]; exact heap3_first _ _ _ _
 have hvR : V.heap[A + 1]? = some (.cells (bcells (hp l 0)) 157 (0, 0)) := by rw [← hV, ← hA]; exact (heap3_mid _ _ _ _).trans rfl
 have hvH : V.heap[A + 1 + 1]? = some (.cells (bcells (hp l 0)) 157 (0, 0)) := by rw [← hV, ← hA]; exact (heap3_last _ _ _ _).trans rfl
 have hbV : Below A w V := by rw [← hV, ← hA]; exact below3 _ _ _ _
 have HVA := Lib.hid hvA
 have HVR := Lib.hid hvR
 have HVH := Lib.hid (OnlyB.here hvH)
 have HBV := Lib.hid hbV
 have HA := Lib.hid hA
 clear hA hV hvA hvR hvH hbV hsA
 go_loopw [6] (fun i wr => ∃ k : Nat, k ≤ 32 ∧ i = .int .i64 (k : Int) ∧ OnlyB (A + 1 + 1) 157 V wr (bcells (hp l k))) (fun i _ => 32 - (intOf i).toNat)
 case atStart => exact ⟨0, by omega, rfl, HVH.out⟩
 case round =>
  obtain ⟨k, hk, rfl, hrow⟩ := hrel
  have HROW := Lib.hid hrow
  clear hrow
  by_cases hlt : k < 32
  ·
   obtain ⟨y, hy⟩ : ∃ y, l.getD (k / 4) 0 = y := ⟨_, rfl⟩
   obtain ⟨z, hz⟩ : ∃ z, (hp l k).getD k 0 = z := ⟨_, rfl⟩
   have hc : wr.cell? ⟨A, k / 4, none⟩ = some (.int .u32 (u y)) := by
    rw [cell_of_row wr A (k / 4) _ _ _ ((HROW.out.oth A (by omega)).trans HVA.out), wcells_at _ _ (by rw [HL.out]; omega), hy]
   have hd := HROW.out.cell k
   rw [bcells_at _ _ (by rw [hp_len]; omega), hz] at hd
   have hf := HROW.out.free k
   have HB := Lib.hid (u_byte l k)
   have HY := Lib.hid hy
   have hk32 : (k : Int) < 32 := by omega
   clear hy hz
   go_wp2_with fail
   go_roundw
   case rel =>
    refine ⟨k + 1, by omega, by go_num, ?_⟩
    have h := HROW.out.set k (.int .u8 ((byteAt l k).toNat : Int))
    rw [bcells_set] at h
    rw [← HY.out, HB.out, hp]
    exact h
   case measure => simp [intOf]; omega
  ·
   have hk32 : k = 32 := by omega
   subst hk32
   have hge : ¬ ((32 : Nat) : Int) < 32 := by omega
   have hgH := HROW.out.own
   rw [HF.out] at hgH
   have hgR : wr.heap[A + 1]? = some (.cells (bcells (hp l 0)) 157 (0, 0)) := (HROW.out.oth (A + 1) (by omega)).trans HVR.out
   have hsz : (Tryz.prog.info? 157).map (·.size) = some (bcells F).size := by rw [bcells_size, HFL.out]; kernel_rfl
   have hso : (bcells (hp l 0)).size = (bcells F).size := by rw [bcells_size, bcells_size, HFL.out, hp_len]
   have HGH := Lib.hid hgH
   have HGR := Lib.hid hgR
   have HSW := Lib.hid hsz
   have HSO := Lib.hid hso
   have hbl := HBV.out.trans (HROW.out.below (n := A) (by omega))
   have HBL := Lib.hid hbl
   clear hgH hgR hsz hso hbl
   go_wp2_with (first | (refine wpList_load_row rfl 157 _ rfl (A + 1 + 1) rfl 157 (bcells F) (0, 0) _ HGH.out Tryz.underlying157 rfl HSW.out ?_) | (refine wpList_store_row rfl 157 _ _ rfl (A + 1) (bcells F) rfl rfl 157 (bcells (hp l 0)) HGR.out HSW.out HSO.out (bcells_one _) ?_))
   refine bodyPost_ret (v := .agg (bcells F)) (results_cell_row rfl _ _ (A + 1) 157 _ (0, 0) _ rfl (setRow_heap _ _ _ _ _ _ HGR.out) Tryz.underlying157 rfl HSW.out) rfl ⟨rfl, ?_⟩
   rw [HA.out]
   exact below_row HBL.out (by omega) _
end Go.Proofs.YtcgffkkfeimifaaGreatDoor
namespace Go.Proofs.YtcgffkkfeimifaaGreatDoor
open Go.RowKit Sha
set_option linter.unusedVariables false
set_option linter.unusedSimpArgs false
theorem be8_at (n j : Nat) (hj : j < 8) : ((8 * (n : Int)) / 2 ^ (56 - 8 * j)) % 256 = (((be8 (8 * n)).getD j 0).toNat : Int) := by
 have h : ((be8 (8 * n)).getD j 0).toNat = 8 * n / 2 ^ (56 - 8 * j) % 256 := by
  obtain rfl | rfl | rfl | rfl | rfl | rfl | rfl | rfl : j = 0 ∨ j = 1 ∨ j = 2 ∨ j = 3 ∨ j = 4 ∨ j = 5 ∨ j = 6 ∨ j = 7 := by omega
  all_goals (unfold be8; simp [UInt8.toNat_ofNat'])
 rw [h, Int.natCast_emod, Int.natCast_ediv, Int.natCast_pow, Int.natCast_mul]
 rfl
theorem be8_len (n : Nat) : (be8 n).length = 8 := rfl
def bvals (l : List UInt8) : List Value := l.map fun x => .int .u8 (x.toNat : Int)
theorem bvals_len (l : List UInt8) : (bvals l).length = l.length := by simp [bvals]
theorem bvals_app (a b : List UInt8) : bvals (a ++ b) = bvals a ++ bvals b := by simp [bvals]
def endK (n j : Nat) : List UInt8 := 128 :: (List.replicate ((119 - n % 64) % 64) 0 ++ (be8 (8 * n)).take j)
theorem endK_len (n j : Nat) (hj : j ≤ 8) : (endK n j).length = 1 + (119 - n % 64) % 64 + j := by
 unfold endK
 simp [be8_len]
 omega
theorem endK_step (n j : Nat) (hj : j < 8) : endK n (j + 1) = endK n j ++ [(be8 (8 * n)).getD j 0] := by
 unfold endK
 rw [List.take_succ_eq_append_getElem (by rw [be8_len]; exact hj)]
 have h : (be8 (8 * n))[j]?.getD 0 = (be8 (8 * n))[j]'(by rw [be8_len]; exact hj) := by rw [List.getElem?_eq_getElem]; rfl
 rw [List.getD_eq_getElem?_getD, h]
 simp
theorem endK_all (n : Nat) : endK n 8 = ending n := by
 unfold endK ending
 rw [List.take_of_length_le (by rw [be8_len]; omega)]
theorem own_step' {B : Nat} {w wr w1 : World} {o : Obj} {e size n : Nat} {v : Value} {xs : List Value} (hown : wr.ownsRow B e size v n xs) (hg : (wr.alloc o).grownBy w1 v.ownBlock) (hbel : Below B w wr) (hsz : B ≤ wr.heap.size) :
  Below B w w1 ∧ B ≤ w1.heap.size := by
 have hlt := hown.lt
 have h1 : Below B w (wr.alloc o) := hbel.alloc hsz o
 refine ⟨h1.grown hg (by simp; omega) (fun k hk => (hlt k hk).1), ?_⟩
 have := hg.size
 simp at this
 omega
theorem own_cells1 {w : World} {base : Nat} {e : TypeId} {v : Value} {n : Nat} {xs : List Value} (h : w.ownsRow base e 1 v n xs) (hn : 0 < n) :
  ∃ g cap, v = .slice (some ⟨g, 0, none⟩) n cap ∧ base ≤ g ∧ g < w.heap.size ∧ n ≤ cap ∧ cap ≤ maxLen ∧ ∀ (j : Nat) x, xs[j]? = some x → w.cell? ⟨g, j, none⟩ = some x := by
 obtain ⟨hl, h | ⟨g, cap, cur, rfl, hb, hg, hnc, hcm, hcs, ht⟩⟩ := h
 ·
  omega
 ·
  have hlt : g < w.heap.size := (Array.getElem?_eq_some_iff.1 hg).1
  refine ⟨g, cap, rfl, hb, hlt, hnc, hcm, fun j x hj => ?_⟩
  have hjn : j < n * 1 := by have := (List.getElem?_eq_some_iff.1 hj).1; omega
  have h1 : cur.toList[j]? = some x := by
   have h2 : (cur.toList.take (n * 1))[j]? = cur.toList[j]? := by rw [List.getElem?_take]; rw [if_pos hjn]
   rw [← h2, ht]
   exact hj
  simp only [World.cell?, hg]
  simpa using h1
theorem cells_one (W : World) (x : Value) (t : TypeId) : ∀ (j : Nat) u, [x][j]? = some u → (W.alloc (.cells #[x] t)).cell? ((⟨W.heap.size, 0, none⟩ : Addr).add j) = some u
 | 0, u, h => by
  simp at h
  subst h
  simp [Addr.add]
 | j + 1, u, h => by simp at h
theorem made73 : madeCells (Value.int .u8 0).cells (Int.toNat 73 * 1) = bcells (List.replicate 73 0) := by
 apply Array.ext'
 exact (toList_madeCells_one (.int .u8 0) 73).trans rfl
set_option maxRecDepth 100000 in
set_option maxHeartbeats 4000000 in
theorem ending_any (n : Nat) (hn : n ≤ 1000000) (w : World) :
  Calls Tryz.prog 162 #[.int .u64 (n : Int)] w fun e w' => ∃ v, e = .returned v ∧ w'.ownsRow w.heap.size 5 1 v (ending n).length (bvals (ending n)) ∧ Below w.heap.size w w' := by
 obtain ⟨F, hF⟩ : ∃ F, ending n = F := ⟨_, rfl⟩
 rw [hF]
 have HF := Lib.hid hF
 obtain ⟨L, hL⟩ : ∃ L, 1 + (119 - n % 64) % 64 = L := ⟨_, rfl⟩
 have hL1 : 1 ≤ L := by omega
 have hL2 : L ≤ 64 := by omega
 have hz : 1 + (119 - (n : Int)) % 64 = (L : Int) := by omega
 have hmk : ∀ w, (Instr.makeSlice 34 (.int .u64 (1 + (119 - (n : Int)) % 64)) (.int .i64 73)).run Tryz.prog w = .ok (.slice (some ⟨w.heap.size, 0, none⟩) L 73) (w.alloc (.cells (bcells (List.replicate 73 0)) 5)) := fun w => by
  rw [hz]
  obtain ⟨i0, hi, hz0, hz1, hz2⟩ := info_parts Tryz.info_byte
  have h := run_make (P := Tryz.prog) w 34 5 i0 _ Tryz.underlying34 hi hz0 .u64 .i64 (L : Int) 73 (by omega) (by omega) (by rw [hz2]; decide) (by decide)
  rw [Int.toNat_natCast, hz1, made73] at h
  exact h
 obtain ⟨Z, hZ⟩ : ∃ Z, bcells (List.replicate 73 0) = Z := ⟨_, rfl⟩
 rw [hZ] at hmk
 have HZ := Lib.hid hZ
 have HL := Lib.hid hL
 have HN := Lib.hid hn
 have hn2 : (n : Int) ≤ 1000000 := by omega
 have z0 : Z[0]? = some (.int .u8 0) := by rw [← hZ]; rfl
 clear hF hz hZ hL hn
 go_enter Tryz.func162, Tryz.ntmps162
 go_wp2_with fail
 obtain ⟨A, hA⟩ : ∃ A, w.heap.size = A := ⟨_, rfl⟩
 have hown0 : (w.alloc (.cells (Z.setIfInBounds 0 (.int .u8 128)) 5)).ownsRow A 5 1 (.slice (some ⟨A, 0, none⟩) L 73) L (bvals (endK n 0)) := by
  refine ⟨?_, Or.inr ⟨A, 73, Z.setIfInBounds 0 (.int .u8 128), rfl, Nat.le_refl _, by rw [← hA]; exact heap_alloc_new _ _, by omega, by decide, by rw [← HZ.out]; simp [bcells], ?_⟩⟩
  ·
   rw [bvals_len, endK_len n 0 (by omega), ← HL.out]
   omega
  ·
   rw [← HZ.out, show (Value.int .u8 128) = .int .u8 ((128 : UInt8).toNat : Int) from rfl, bcells_set, ← HL.out]
   unfold bcells bvals endK
   simp only [List.replicate_succ, List.set_cons_zero, List.map_cons, List.toList_toArray, Nat.mul_one]
   rw [Nat.add_comm 1, List.take_succ_cons]
   simp only [← List.replicate_succ, List.map_replicate, List.take_replicate, List.take_zero, List.append_nil]
   congr 2
   omega
 simp only [hA]
 generalize hV : World.alloc w _ = V
 have hbV : Below A w V := by rw [← hV, ← hA]; exact below_new _ _
 have hzV : A < V.heap.size := by rw [← hV, ← hA]; simp
 rw [hV] at hown0
 have HO := Lib.hid hown0
 have HB := Lib.hid hbV
 have HA := Lib.hid hA
 clear hown0 hbV hA hV z0 hmk
 rw [show (119 - (n : Int) % 64) % 64 = (119 - (n : Int)) % 64 by omega]
 go_loopw [4, 5] (fun v i wr => ∃ j : Nat, j ≤ 8 ∧ i = .int .i64 (56 - 8 * (j : Int)) ∧ wr.ownsRow A 5 1 v (L + j) (bvals (endK n j)) ∧ Below A w wr ∧ A < wr.heap.size) (fun _ i _ => (intOf i + 8).toNat)
 case atStart => exact ⟨0, by omega, rfl, HO.out, HB.out, hzV⟩
 case round =>
  obtain ⟨j, hj, rfl, hown, hbel, hlt⟩ := hrel
  clear HO HB hzV
  have HO := Lib.hid hown
  have HB := Lib.hid hbel
  clear hown hbel
  by_cases hj8 : j < 8
  ·
   have hge : 8 * (j : Int) ≤ 56 := by omega
   obtain ⟨i0, hi, hz0, hz1, hz2⟩ := info_parts Tryz.info_byte
   have HE := Lib.hid (be8_at n j hj8)
   go_wp2_with (at_builtin; refine wpList_append_own _ rfl (.tmp 19) (.tmp 25) 34 rfl A 5 i0 (.int .u8 0) 1 1 Tryz.underlying34 hi hz0 hz1 hz2 rfl (by decide) _ _ _ rfl (HO.out.alloc _) ⟨wr.heap.size, 0, none⟩ 1 1 [.int .u8 (8 * (n : Int) / 2 ^ (56 - 8 * j) % 256)] rfl rfl ?c1 ?c2 ?c3 ?c4 ?c5 ?_; rotate_left 5; intro v' w5 hown5 hgrow5 hnil; clear hnil; have HO5 := Lib.hid hown5; have HG5 := Lib.hid hgrow5; clear hown5 hgrow5)
   case c1 => exact cells_one _ _ _
   case c2 => simp [Value.oneCell']
   case c3 => unfold maxLen; omega
   case c4 => omega
   case c5 => simp; omega
   obtain ⟨g1, g2⟩ := own_step' HO.out HG5.out HB.out (Nat.le_of_lt hlt)
   go_roundw
   case rel =>
    refine ⟨j + 1, by omega, by simp; omega, ?_, g1, ?_⟩
    ·
     rw [endK_step n j hj8, bvals_app]
     have h := HO5.out
     rw [HE.out] at h
     exact h
    ·
     have h := HG5.out.size
     simp at h
     omega
   case measure => simp [intOf]; omega
  ·
   have hj0 : j = 8 := by omega
   subst hj0
   have hlt2 : ¬ (8 * ((8 : Nat) : Int) ≤ 56) := by omega
   go_wp2_with fail
   go_ret
   refine ⟨_, rfl, ?_, ?_⟩
   ·
    rw [HA.out]
    have h := HO.out
    rw [endK_all, HF.out] at h
    have hl : F.length = L + 8 := by rw [← HF.out, ← endK_all, endK_len n 8 (by omega), HL.out]
    rw [hl]
    exact h
   ·
    rw [HA.out]
    exact HB.out
end Go.Proofs.YtcgffkkfeimifaaGreatDoor
namespace Go.Proofs.YtcgffkkfeimifaaGreatDoor
open Go.RowKit Sha
set_option linter.unusedVariables false
set_option linter.unusedSimpArgs false
attribute [local go_sem] Oper.semAt_some
theorem wpListIn_copy_own {F : Fence} {n : Nat} {P : Program} {w : World} {ops : Array Oper} {rest : List Oper} {o : Oper} {a : Act} {Q : Exit → Act → World → Prop} (hgd : o.guard = none) (d s : Operand) (dT sT : TypeId)
  (ho : o.op = .call { callee := .builtin .copy, args := #[d, s], argTypes := #[dT, sT] }) (elem : TypeId) (hu : P.underlying dT = some (.slice elem)) (hsz : (P.info? elem).map (·.size) = some 1)
  (g off dLen dCap : Nat) (ad : Addr) (sLen sCap : Nat) (hd : a.eval d = .slice (some ⟨g, off, none⟩) dLen dCap) (hs : a.eval s = .slice (some ad) sLen sCap)
  (cur : Array Value) (t : TypeId) (hg : w.heap[g]? = some (.cells cur t (0, 0))) (cs : List Value) (hn : cs.length = Nat.min sLen dLen)
  (hsrc : ∀ j v, cs[j]? = some v → w.cell? (ad.add j) = some v) (hfit : off + cs.length ≤ cur.size) (h1 : ∀ v ∈ cs, v.oneCell' = true)
  (h : wpListIn F n P ops Q rest (a.put o.dst (goInt cs.length)) (w.setRow g (cur.toList.take off ++ cs ++ cur.toList.drop (off + cs.length)).toArray)) : wpListIn F n P ops Q (o :: rest) a w := by
 refine wpListIn_plain hgd fun K hK => ?_
 have hrun := run_copy_row (P := P) w dT sT o.type elem g off dLen dCap ad sLen sCap cur t cs hu hsz hg hn hsrc hfit h1
 unfold Oper.wpIn
 refine ⟨?_, ?_⟩
 ·
  simp [Oper.about, ho, resolve, Target.leads, Sem.run_pure]
 ·
  rw [Oper.semAt_plain F _ _ (by rw [ho]; intro c hc'; cases hc')]
  simp only [execOp, ho, resolve, invoke, builtin, Sem.run_bind, Sem.run_pure, Result.andThen_ok, List.map_toArray, List.map_cons, List.map_nil, hd, hs, hrun]
  exact hK _ _ h
theorem wpListIn_load_row {F : Fence} {n : Nat} {P : Program} {w : World} {ops : Array Oper} {rest : List Oper} {o : Oper} {a : Act} {Q : Exit → Act → World → Prop} (hgd : Region.wanted o (yielded ops a.tmps) = true) (ty : TypeId) (x : Operand) (ho : o.op = .load ty x)
  (g : Nat) (hx : a.eval x = .pointer (some ⟨g, 0, none⟩)) (t : TypeId) (cs : Array Value) (fr : Nat × Nat) (d : TypeDesc) (hg : w.heap[g]? = some (.cells cs t fr))
  (hu : P.underlying ty = some d) (hd : (match d with | .struct _ | .array _ _ => true | _ => false) = true) (hi : (P.info? ty).map (·.size) = some cs.size)
  (h : wpListIn F n P ops Q rest (a.put o.dst (.agg cs)) w) : wpListIn F n P ops Q (o :: rest) a w := by
 refine wpListIn_step fun K hK => ?_
 rw [if_pos hgd]
 unfold Oper.wpIn
 refine ⟨?_, ?_⟩
 ·
  simp [Oper.about, ho]
 ·
  rw [Oper.semAt_plain F _ _ (by rw [ho]; intro c hc'; cases hc')]
  simp only [execOp, ho, hx, Instr.loadAt, Instr.sureAddr, Sem.run_bind, Sem.run_pure, Result.andThen_ok, run_loadVar_row w g t ty cs fr d hg hu hd hi]
  exact hK _ _ h
structure Keep (N : Nat) (V V' : World) : Prop where
 size : V.heap.size ≤ V'.heap.size
 same : ∀ b, N ≤ b → b < V.heap.size → V'.heap[b]? = V.heap[b]?
theorem Keep.refl (N : Nat) (V : World) : Keep N V V := ⟨Nat.le_refl _, fun _ _ _ => rfl⟩
theorem Keep.trans {N : Nat} {A B C : World} (h : Keep N A B) (k : Keep N B C) : Keep N A C :=
 ⟨Nat.le_trans h.size k.size, fun b h1 h2 => (k.same b h1 (Nat.lt_of_lt_of_le h2 h.size)).trans (h.same b h1 h2)⟩
structure FS (T : List UInt8) (N l : Nat) (J : Nat → World → Prop) (p : Nat) (V : World) : Prop where
 j : J (p / 64) V
 fn : V.heap[N]? = some (.cells #[.func (.yield l) #[] #[]] 191 (0, 0))
 bf : ∃ buf : List UInt8, V.heap[N + 1]? = some (.cells (bcells buf) 181 (0, 0)) ∧ buf.length = 64 ∧ buf.take (p % 64) = (T.drop (64 * (p / 64))).take (p % 64)
 us : V.heap[N + 2]? = some (.cells #[.int .i64 ((p % 64 : Nat) : Int)] 3 (0, 0))
def SrcAt (A : Option Addr) (lst : List UInt8) (V : World) : Prop := lst ≠ [] → ∃ g o, A = some ⟨g, o, none⟩ ∧ ∀ j x, lst[j]? = some x → V.cell? ⟨g, o + j, none⟩ = some (.int .u8 (x.toNat : Int))
theorem part_full (T buf l : List UInt8) (p n : Nat) (hl : l = (T.drop p).take l.length) (hn : n ≤ l.length) (hu : p % 64 + n = 64) (hb : buf.length = 64) (hk : buf.take (p % 64) = (T.drop (64 * (p / 64))).take (p % 64)) :
  buf.take (p % 64) ++ l.take n ++ buf.drop (p % 64 + n) = (T.drop (64 * (p / 64))).take 64 := by
 rw [hu, List.drop_of_length_le (by omega), List.append_nil, hk, hl, List.take_take, Nat.min_eq_left hn]
 rw [show T.drop p = (T.drop (64 * (p / 64))).drop (p % 64) by rw [List.drop_drop]; congr 1; omega, ← List.take_add, hu]
theorem part_some (T buf l : List UInt8) (p n : Nat) (hl : l = (T.drop p).take l.length) (hn : n ≤ l.length) (hu : p % 64 + n ≤ 64) (hb : buf.length = 64) (hk : buf.take (p % 64) = (T.drop (64 * (p / 64))).take (p % 64)) :
  (buf.take (p % 64) ++ l.take n ++ buf.drop (p % 64 + n)).take (p % 64 + n) = (T.drop (64 * (p / 64))).take (p % 64 + n) := by
 have h1 : (buf.take (p % 64) ++ l.take n).length = p % 64 + n := by simp; omega
 rw [List.take_append_of_le_length (by omega), List.take_of_length_le (by omega), hk, hl, List.take_take, Nat.min_eq_left hn]
 rw [show T.drop p = (T.drop (64 * (p / 64))).drop (p % 64) by rw [List.drop_drop]; congr 1; omega, ← List.take_add]
theorem add_eq (g o j : Nat) : (⟨g, o, none⟩ : Addr).add j = ⟨g, o + j, none⟩ := by unfold Addr.add; split <;> simp_all
theorem slice_block (N u : Nat) (hu : u < 64) (w : World) : (Instr.sliceAt 181 (.pointer (some ⟨N, 0, none⟩)) (some (.int .i64 (u : Int))) none none).run Tryz.prog w = .ok (.slice (some ⟨N, u, none⟩) (64 - u) (64 - u)) w := by
 have ha : Tryz.prog.arrayLen 181 = 64 := by kernel_rfl
 have h := run_sliceAt_array_l (P := Tryz.prog) w 181 ⟨N, 0, none⟩ (by kernel_rfl) .i64 (u : Int) (by omega) (by rw [ha]; omega)
 have hs : ∀ w, (sizeOf (Tryz.prog.elem 181)).run Tryz.prog w = .ok 1 w := fun _ => by kernel_rfl
 rw [h, hs, ha]
 show Result.ok (slicedAt ⟨N, 0, none⟩ (u : Int).toNat 64 64 1) w = _
 unfold slicedAt
 rw [Int.toNat_natCast, Nat.mul_one, if_neg (by omega), add_eq, Nat.zero_add]
theorem slice_bytes (g o L C n : Nat) (hn : n ≤ L) (hC : L ≤ C) (h0 : 0 < n) : ∃ A2, (∀ w, (Instr.sliceAt 34 (.slice (some ⟨g, o, none⟩) L C) (some (.int .i64 (n : Int))) none none).run Tryz.prog w = .ok (.slice A2 (L - n) (C - n)) w) ∧ (n < L → A2 = some ⟨g, o + n, none⟩) := by
 refine ⟨if C = n then some ⟨g, o, none⟩ else some ⟨g, o + n, none⟩, fun w => ?_, fun h => by rw [if_neg (by omega)]⟩
 have hs : ∀ w, (sizeOf (Tryz.prog.elem 34)).run Tryz.prog w = .ok 1 w := fun _ => by kernel_rfl
 rw [run_sliceAt_slice _ _ _ _ _ _ (by kernel_rfl), run_slice_l _ _ _ _ _ (by kernel_rfl) .i64 (n : Int) (by omega) (by omega), hs]
 show Result.ok (sliced (some ⟨g, o, none⟩) (n : Int).toNat L C 1) w = _
 unfold sliced
 rw [Int.toNat_natCast, Nat.mul_one, Option.map_some]
 by_cases h : C = n
 ·
  rw [if_pos h, if_pos h]
 ·
  rw [if_neg h, if_neg h, add_eq]
theorem bcells_splice (buf m : List UInt8) (u n : Nat) : ((bcells buf).toList.take u ++ bvals m ++ (bcells buf).toList.drop (u + n)).toArray = bcells (buf.take u ++ m ++ buf.drop (u + n)) := by
 unfold bcells bvals
 simp
set_option maxRecDepth 100000 in
set_option maxHeartbeats 4000000 in
theorem fill_in (T : List UInt8) (N l : Nat) (J : Nat → World → Prop) (hT : T.length ≤ 1000000)
  (hJ : ∀ k V V', J k V → Below N V V' → J k V')
  (hY : ∀ k V, 64 * (k + 1) ≤ T.length → J k V → N + 3 ≤ V.heap.size → YieldAt Fence.wide 1 Tryz.prog l #[.agg (bcells ((T.drop (64 * k)).take 64))] V fun e V' => e = .returned (.bool true) ∧ J (k + 1) V' ∧ Keep N V V')
  (p : Nat) (lst : List UInt8) (hl : lst = (T.drop p).take lst.length) (hp : p + lst.length ≤ T.length) (A : Option Addr) (C : Nat) (hC : lst.length ≤ C) (hC2 : C ≤ maxLen) (V : World) (hV : FS T N l J p V) (hNV : N + 3 ≤ V.heap.size)
  (hsrc : ∀ k V', J k V' → Keep (N + 3) V V' → SrcAt A lst V') :
  CallsIn Fence.wide 2 Tryz.prog 161 #[.slice A lst.length C, .pointer (some ⟨N + 1, 0, none⟩), .pointer (some ⟨N + 2, 0, none⟩), .pointer (some ⟨N, 0, none⟩)] V fun e V' =>
   e = .returned (.bool true) ∧ FS T N l J (p + lst.length) V' ∧ Keep (N + 3) V V' := by
 obtain ⟨L, hL⟩ : ∃ L, lst.length = L := ⟨_, rfl⟩
 rw [hL] at hl hp hC ⊢
 unfold maxLen at hC2
 have HT := Lib.hid hT
 have HJ := Lib.hid hJ
 have HY := Lib.hid hY
 have HL := Lib.hid hl
 have HP := Lib.hid hp
 have HV := Lib.hid hV
 have HS := Lib.hid hsrc
 have HLL := Lib.hid hL
 clear hT hJ hY hl hp hV hsrc hL
 refine callsIn_of_wp Tryz.func161 rfl trivial ?_ rfl
 simp only [Tryz.ntmps161, List.size_toArray, List.length_cons, List.length_nil, Nat.reduceAdd, Nat.reduceSub, Array.replicate_succ, Array.replicate_zero, List.push_toArray, List.append_toArray, List.nil_append, List.cons_append]
 gi_wp2
 gi_loopw [0] (fun v wr => ∃ (d : Nat) (A' : Option Addr), d ≤ L ∧ v = .slice A' (L - d) (C - d) ∧ (d < L → ∃ g o, A = some ⟨g, o, none⟩ ∧ A' = some ⟨g, o + d, none⟩) ∧ FS T N l J (p + d) wr ∧ Keep (N + 3) V wr ∧ N + 3 ≤ wr.heap.size) (fun v _ => match v with | .slice _ n _ => n | _ => 0)
 case atStart =>
  refine ⟨0, A, by omega, rfl, fun h0 => ?_, HV.out, Keep.refl _ _, hNV⟩
  obtain ⟨g, o, h1, _⟩ := HS.out _ _ HV.out.j (Keep.refl _ _) (by intro e; have := HLL.out; rw [e] at this; simp at this; omega)
  exact ⟨g, o, h1, h1⟩
 case round =>
  obtain ⟨d, A', hd, rfl, hA', hfs, hkp, hwz⟩ := hrel
  have HFS := Lib.hid hfs
  have HKP := Lib.hid hkp
  have HA := Lib.hid hA'
  clear hfs hkp hA'
  by_cases hlt : d < L
  ·
   obtain ⟨g, o, h1, h2⟩ := HA.out hlt
   subst h2
   have hsr : ∀ j x, lst[j]? = some x → wr.cell? ⟨g, o + j, none⟩ = some (.int .u8 (x.toNat : Int)) := by
    obtain ⟨g', o', e1, e2⟩ := HS.out _ _ HFS.out.j HKP.out (by intro e; have := HLL.out; rw [e] at this; simp at this; omega)
    rw [h1] at e1
    obtain ⟨rfl, rfl⟩ : g = g' ∧ o = o' := by simpa using e1
    exact e2
   obtain ⟨q, hq⟩ : ∃ q, p + d = q := ⟨_, rfl⟩
   rw [hq] at HFS
   obtain ⟨buf, hb1, hb2, hb3⟩ := HFS.out.bf
   have husd := HFS.out.us
   obtain ⟨u, hu⟩ : ∃ u, q % 64 = u := ⟨_, rfl⟩
   have hu64 : u < 64 := by omega
   rw [hu] at husd hb3
   have c2 := cell_of_one husd
   have f2 := free_of_one husd
   obtain ⟨n, hn⟩ : ∃ n, Nat.min (L - d) (64 - u) = n := ⟨_, rfl⟩
   have hn0 : 1 ≤ n ∧ n ≤ L - d ∧ n ≤ 64 - u ∧ (n = L - d ∨ n = 64 - u) := by
    rw [← hn]
    show 1 ≤ min (L - d) (64 - u) ∧ min (L - d) (64 - u) ≤ L - d ∧ min (L - d) (64 - u) ≤ 64 - u ∧ (min (L - d) (64 - u) = L - d ∨ min (L - d) (64 - u) = 64 - u)
    omega
   have HN0 := Lib.hid hn0
   have HNN := Lib.hid hn
   have HU := Lib.hid hu
   have HQ := Lib.hid hq
   have HB1 := Lib.hid hb1
   have HB2 := Lib.hid hb2
   have HB3 := Lib.hid hb3
   have HUS := Lib.hid husd
   have HSR := Lib.hid hsr
   have H1 := Lib.hid h1
   have hLd : (0 : Int) < ((L - d : Nat) : Int) := by omega
   have hLd2 : 0 < L - d := by omega
   clear hb1 hb2 hb3 husd hu hn hn0 hq hsr h1
   have hsl := slice_block (N + 1) u hu64
   obtain ⟨A2, hs2, hA2⟩ := slice_bytes g (o + d) (L - d) (C - d) n HN0.out.2.1 (by omega) HN0.out.1
   have HA2 := Lib.hid hA2
   clear hA2
   obtain ⟨m, hm⟩ : ∃ m, (lst.drop d).take n = m := ⟨_, rfl⟩
   have hmn : m.length = n := by
    rw [← hm, List.length_take, List.length_drop, HLL.out]
    have := HN0.out
    omega
   have hcl : (bvals m).length = Nat.min (L - d) (64 - u) := by rw [bvals_len, hmn, HNN.out]
   have hcn : (bvals m).length = n := by rw [bvals_len, hmn]
   have hcs : ∀ j v, (bvals m)[j]? = some v → wr.cell? ((⟨g, o + d, none⟩ : Addr).add j) = some v := fun j v hj => by
    unfold bvals at hj
    rw [List.getElem?_map] at hj
    obtain ⟨x, hx, rfl⟩ := Option.map_eq_some_iff.1 hj
    rw [add_eq, Nat.add_assoc]
    refine HSR.out (d + j) x ?_
    rw [← hm, List.getElem?_take] at hx
    split at hx
    ·
     rwa [List.getElem?_drop] at hx
    ·
     cases hx
   have hfit : u + (bvals m).length ≤ (bcells buf).size := by rw [bcells_size, HB2.out, hcn]; have := HN0.out; omega
   have hone : ∀ v ∈ bvals m, v.oneCell' = true := fun v hv => by
    unfold bvals at hv
    obtain ⟨x, _, rfl⟩ := List.mem_map.1 hv
    rfl
   have hsz1 : (Tryz.prog.info? 5).map (·.size) = some 1 := by kernel_rfl
   have HM := Lib.hid hm
   have HMN := Lib.hid hmn
   have HCL := Lib.hid hcl
   have HCN := Lib.hid hcn
   have HCS := Lib.hid hcs
   have HFIT := Lib.hid hfit
   have HONE := Lib.hid hone
   have HSZ1 := Lib.hid hsz1
   clear hm hmn hcl hcn hcs hfit hone hsz1
   obtain ⟨blk, hblk⟩ : ∃ blk, buf.take u ++ m ++ buf.drop (u + n) = blk := ⟨_, rfl⟩
   have hblk64 : blk.length = 64 := by
    rw [← hblk]
    have h1 := HB2.out
    have h2 := HMN.out
    have h3 := HN0.out
    simp
    omega
   obtain ⟨w1, hw1⟩ : ∃ w1, wr.setRow (N + 1) (bcells blk) = w1 := ⟨_, rfl⟩
   have o1 : ∀ b, b ≠ N + 1 → w1.heap[b]? = wr.heap[b]? := fun b hb => by rw [← hw1]; exact setRow_other _ _ _ _ hb
   have g1 : w1.heap[N + 1]? = some (.cells (bcells blk) 181 (0, 0)) := by rw [← hw1]; exact setRow_heap _ _ _ _ _ _ HB1.out
   have z1 : w1.heap.size = wr.heap.size := by rw [← hw1]; simp
   have bl1 : Below N wr w1 := by rw [← hw1]; exact below_row (Below.refl _ _) (by omega) _
   have e2 : w1.heap[N + 2]? = some (.cells #[.int .i64 (u : Int)] 3 (0, 0)) := (o1 _ (by omega)).trans HUS.out
   have eN : w1.heap[N]? = some (.cells #[.func (.yield l) #[] #[]] 191 (0, 0)) := (o1 _ (by omega)).trans HFS.out.fn
   have hszb : (Tryz.prog.info? 181).map (·.size) = some (bcells blk).size := by rw [bcells_size, hblk64]; kernel_rfl
   have c21 := cell_of_one e2
   have f21 := free_of_one e2
   have cN1 := cell_of_one eN
   have hlt1 : N + 2 < w1.heap.size := (Array.getElem?_eq_some_iff.1 e2).1
   -- the world behind the store of the count
   have W2 : ∀ x : Value, Below N wr (w1.setCell ⟨N + 2, 0, none⟩ x) ∧ (w1.setCell ⟨N + 2, 0, none⟩ x).heap[N + 1]? = some (.cells (bcells blk) 181 (0, 0)) ∧ (w1.setCell ⟨N + 2, 0, none⟩ x).heap[N + 2]? = some (.cells #[x] 3 (0, 0)) ∧ (w1.setCell ⟨N + 2, 0, none⟩ x).heap[N]? = some (.cells #[.func (.yield l) #[] #[]] 191 (0, 0)) ∧ Keep (N + 3) wr (w1.setCell ⟨N + 2, 0, none⟩ x) ∧ (w1.setCell ⟨N + 2, 0, none⟩ x).heap.size = wr.heap.size := fun x => by
    have hs : (w1.setCell ⟨N + 2, 0, none⟩ x).heap.size = wr.heap.size := by rw [← z1]; simp [World.setCell]
    refine ⟨bl1.setCell (by show N ≤ N + 2; omega) _, ?_, one_setCell e2, ?_, ⟨Nat.le_of_eq hs.symm, fun b hb _ => ?_⟩, hs⟩
    ·
     rw [Below.heap_setCell _ _ _ _ (by show N + 1 ≠ N + 2; omega)]; exact g1
    ·
     rw [Below.heap_setCell _ _ _ _ (by show N ≠ N + 2; omega)]; exact eN
    ·
     rw [Below.heap_setCell _ _ _ _ (by show b ≠ N + 2; omega)]; exact o1 b (by omega)
   have HW1 := Lib.hid hw1
   have HBLK := Lib.hid hblk
   have HBLK64 := Lib.hid hblk64
   have HSZB := Lib.hid hszb
   have HW2 := Lib.hid W2
   clear hw1 o1 g1 z1 bl1 e2 eN hblk hszb hblk64 W2
   have hn64 : n ≤ 64 := by have := HN0.out; omega
   have hml : m = (T.drop q).take n := by
    rw [← HM.out, HL.out, ← HQ.out, ← List.drop_drop]
    have := HN0.out
    rw [List.drop_take, List.take_take, Nat.min_eq_left (by omega)]
   have HML := Lib.hid hml
   clear hml
   by_cases hfull : u + n = 64
   ·
    have hbt : blk = (T.drop (64 * (q / 64))).take 64 := by
     rw [← HBLK.out]
     have h := part_full T buf m q n (by rw [HMN.out]; exact HML.out) (by rw [HMN.out]; exact Nat.le_refl _) (by rw [HU.out]; exact hfull) HB2.out (by rw [HU.out]; exact HB3.out)
     have h5 : m.take n = m := List.take_of_length_le (by rw [HMN.out]; exact Nat.le_refl _)
     rw [HU.out, h5] at h
     exact h
    have hq1 : 64 * (q / 64 + 1) ≤ T.length := by
     have h1 := HP.out
     have h2 := HN0.out
     have h3 := HU.out
     have h4 := HQ.out
     omega
    obtain ⟨b1, b2, b3, b4, b5, b6⟩ := HW2.out (.int .i64 0)
    have hj2 := HJ.out _ _ _ HFS.out.j b1
    have hY2 := HY.out (q / 64) _ hq1 hj2 (by rw [b6]; exact hwz)
    rw [← hbt] at hY2
    obtain ⟨fn, tmps, assign, body, hy, hR⟩ := hY2
    have HR := Lib.hid hR
    have B2 := Lib.hid b2
    have B3 := Lib.hid b3
    have B4 := Lib.hid b4
    have B5 := Lib.hid b5
    have B6 := Lib.hid b6
    have HFU := Lib.hid hfull
    have HBT := Lib.hid hbt
    have HQ1 := Lib.hid hq1
    have hm0 : ((u : Int) + (n : Int)) % 64 = 0 := by omega
    clear hfull hbt hq1 b1 b2 b3 b4 b5 b6 hj2 hR
    gi_wp2_with (first | (refine wpListIn_copy_own rfl (.tmp 11) (.tmp 12) 34 34 rfl 5 Tryz.underlying34 HSZ1.out (N + 1) u (64 - u) (64 - u) ⟨g, o + d, none⟩ (L - d) (C - d) rfl rfl (bcells buf) 181 HB1.out (bvals m) HCL.out HCS.out HFIT.out HONE.out ?_; rw [HCN.out, bcells_splice, HBLK.out, HW1.out]) | (refine wpListIn_load_row rfl 181 (.tmp 1) rfl (N + 1) rfl 181 (bcells blk) (0, 0) _ B2.out Tryz.underlying181 rfl HSZB.out ?_))
    refine HR.out.mono ?_
    rintro e V2 ⟨rfl, hj3, hk3⟩
    have HJ3 := Lib.hid hj3
    have HK3 := Lib.hid hk3
    clear hj3 hk3 hy c2 f2 c21 f21 cN1
    gi_wp2_with fail
    have h1 := HN0.out
    have h2 := HFU.out
    have h3 := HU.out
    have h4 := HQ.out
    refine ⟨⟨d + n, A2, by omega, by rw [Nat.sub_sub, Nat.sub_sub], fun hlt2 => ?_, ?_, ?_, ?_⟩, ?_⟩
    ·
     refine ⟨g, o, H1.out, ?_⟩
     rw [HA2.out (by omega), Nat.add_assoc]
    ·
     have e1 : p + (d + n) = q + n := by omega
     have e2 : (q + n) / 64 = q / 64 + 1 := by omega
     have e3 : (q + n) % 64 = 0 := by omega
     rw [e1]
     refine ⟨by rw [e2]; exact HJ3.out, ?_, ⟨blk, ?_, HBLK64.out, by rw [e3]; rfl⟩, ?_⟩
     ·
      rw [HK3.out.same N (Nat.le_refl _) (by rw [B6.out]; omega)]; exact B4.out
     ·
      rw [HK3.out.same (N + 1) (by omega) (by rw [B6.out]; omega)]; exact B2.out
     ·
      rw [HK3.out.same (N + 2) (by omega) (by rw [B6.out]; omega), e3]; exact B3.out
    ·
     exact HKP.out.trans (B5.out.trans ⟨HK3.out.size, fun b hb1 hb2 => HK3.out.same b (by omega) hb2⟩)
    ·
     have := HK3.out.size
     rw [B6.out] at this
     omega
    ·
     show L - d - n < L - d
     omega
   ·
    have hnf : n = L - d ∧ u + n < 64 := by have := HN0.out; omega
    have hq1 : (blk.take (u + n)) = (T.drop (64 * (q / 64))).take (u + n) := by
     rw [← HBLK.out]
     have h := part_some T buf m q n (by rw [HMN.out]; exact HML.out) (by rw [HMN.out]; exact Nat.le_refl _) (by rw [HU.out]; omega) HB2.out (by rw [HU.out]; exact HB3.out)
     have h5 : m.take n = m := List.take_of_length_le (by rw [HMN.out]; exact Nat.le_refl _)
     rw [HU.out, h5] at h
     exact h
    obtain ⟨b1, b2, b3, b4, b5, b6⟩ := HW2.out (.int .i64 ((u : Int) + (n : Int)))
    have hj2 := HJ.out _ _ _ HFS.out.j b1
    have HJ2 := Lib.hid hj2
    have B2 := Lib.hid b2
    have B3 := Lib.hid b3
    have B4 := Lib.hid b4
    have B5 := Lib.hid b5
    have B6 := Lib.hid b6
    have HNF := Lib.hid hnf
    have HQ1 := Lib.hid hq1
    have hm1 : ((u : Int) + (n : Int)) % 64 = (u : Int) + (n : Int) := by omega
    have hne : ((u : Int) + (n : Int) == 0) = false := by
     have := HN0.out
     rw [beq_eq_false_iff_ne]
     omega
    clear hfull hnf hq1 b1 b2 b3 b4 b5 b6 hj2
    gi_wp2_with (refine wpListIn_copy_own rfl (.tmp 11) (.tmp 12) 34 34 rfl 5 Tryz.underlying34 HSZ1.out (N + 1) u (64 - u) (64 - u) ⟨g, o + d, none⟩ (L - d) (C - d) rfl rfl (bcells buf) 181 HB1.out (bvals m) HCL.out HCS.out HFIT.out HONE.out ?_; rw [HCN.out, bcells_splice, HBLK.out, HW1.out])
    refine ⟨fun f hf => (by cases hf), ?_⟩
    refine ‹∀ (a : Act) (w : World), wpListIn _ _ _ _ _ _ a w → _› _ _ ?_
    gi_wp2_with fail
    have h1 := HN0.out
    have h2 := HNF.out
    have h3 := HU.out
    have h4 := HQ.out
    refine ⟨⟨d + n, A2, by omega, by rw [Nat.sub_sub, Nat.sub_sub], fun hlt2 => ?_, ?_, ?_, ?_⟩, ?_⟩
    ·
     omega
    ·
     have e1 : p + (d + n) = q + n := by omega
     have e2 : (q + n) / 64 = q / 64 := by omega
     have e3 : (q + n) % 64 = u + n := by omega
     rw [e1]
     refine ⟨by rw [e2]; exact HJ2.out, B4.out, ⟨blk, B2.out, HBLK64.out, by rw [e2, e3]; exact HQ1.out⟩, ?_⟩
     rw [e3]
     exact B3.out
    ·
     exact HKP.out.trans B5.out
    ·
     rw [B6.out]
     exact hwz
    ·
     show L - d - n < L - d
     omega
  ·
   have hdL : d = L := by omega
   subst hdL
   have hge : ¬ (0 < d - d) := by omega
   rw [Nat.sub_self]
   gi_wp2_with fail
   go_ret
   exact ⟨rfl, HFS.out, HKP.out⟩
end Go.Proofs.YtcgffkkfeimifaaGreatDoor
namespace Go.Proofs.YtcgffkkfeimifaaGreatDoor
open Go.RowKit Sha
set_option linter.unusedVariables false
set_option linter.unusedSimpArgs false
structure PIn (Pb : Nat) (PA : Option Addr) (pc : Nat) (S : Nat → Option Addr × Nat) (ps : List (List UInt8)) (V : World) : Prop where
 box : V.cell? ⟨Pb, 0, none⟩ = some (.slice PA ps.length pc)
 row : ∀ j l, ps[j]? = some l → ∃ pg po, PA = some ⟨pg, po, none⟩ ∧ V.cell? ⟨pg, po + j, none⟩ = some (.slice (S j).1 l.length (S j).2) ∧ SrcAt (S j).1 l V
theorem FS.on {T : List UInt8} {N l : Nat} {J : Nat → World → Prop} {p : Nat} {V V' : World} (h : FS T N l J p V) (hJ : ∀ k V V', J k V → Below N V V' → J k V') (hb : Below V.heap.size V V') (hz : N + 3 ≤ V.heap.size) : FS T N l J p V' := by
 obtain ⟨h1, h2, ⟨buf, h3, h4, h5⟩, h6⟩ := h
 exact ⟨hJ _ _ _ h1 (hb.mono (by omega)), (hb.block _ (by omega)).trans h2, ⟨buf, (hb.block _ (by omega)).trans h3, h4, h5⟩, (hb.block _ (by omega)).trans h6⟩
theorem flat_take (ps : List (List UInt8)) (k : Nat) (l : List UInt8) (h : ps[k]? = some l) : (ps.take (k + 1)).flatten = (ps.take k).flatten ++ l := by
 rw [List.take_add_one, h]
 simp
theorem flat_part (ps : List (List UInt8)) (e : List UInt8) (k : Nat) (l : List UInt8) (h : ps[k]? = some l) :
  l = ((ps.flatten ++ e).drop (ps.take k).flatten.length).take l.length ∧ (ps.take k).flatten.length + l.length ≤ ps.flatten.length := by
 have h1 : ps = ps.take (k + 1) ++ ps.drop (k + 1) := (List.take_append_drop _ _).symm
 have h2 : ps.flatten = (ps.take k).flatten ++ (l ++ (ps.drop (k + 1)).flatten) := by
  conv => lhs; rw [h1]
  rw [List.flatten_append, flat_take ps k l h, List.append_assoc]
 constructor
 ·
  rw [h2, List.append_assoc, List.drop_left, List.append_assoc, List.take_left]
 ·
  rw [h2]; simp
theorem own_slice {w : World} {base : Nat} {v : Value} {F : List UInt8} (h : w.ownsRow base 5 1 v F.length (bvals F)) (hn : 0 < F.length) :
  ∃ g cap, v = .slice (some ⟨g, 0, none⟩) F.length cap ∧ base ≤ g ∧ g < w.heap.size ∧ F.length ≤ cap ∧ cap ≤ maxLen ∧ ∀ (j : Nat) x, F[j]? = some x → w.cell? ⟨g, j, none⟩ = some (.int .u8 (x.toNat : Int)) := by
 obtain ⟨g, cap, h1, h2, h3, h4, h5, h6⟩ := own_cells1 h hn
 refine ⟨g, cap, h1, h2, h3, h4, h5, fun j x hj => h6 j _ ?_⟩
 unfold bvals
 rw [List.getElem?_map, hj]
 rfl
theorem cell_of_heap2 {V V' : World} {b o : Nat} (h : V'.heap[b]? = V.heap[b]?) : V'.cell? ⟨b, o, none⟩ = V.cell? ⟨b, o, none⟩ := by
 simp only [World.cell?, h]
theorem ending_len (n : Nat) : 0 < (ending n).length ∧ (ending n).length ≤ 72 ∧ (n + (ending n).length) % 64 = 0 := by
 rw [← endK_all, endK_len n 8 (by omega)]
 omega
set_option maxRecDepth 100000 in
set_option maxHeartbeats 4000000 in
theorem blocks_in (ps : List (List UInt8)) (Pb : Nat) (PA : Option Addr) (pc : Nat) (S : Nat → Option Addr × Nat) (hlen : ps.flatten.length ≤ 100000) (hnum : ps.length ≤ 100000) (hpc : ps.length ≤ pc)
  (hS : ∀ j l, ps[j]? = some l → l.length ≤ (S j).2 ∧ (S j).2 ≤ maxLen)
  (l : Nat) (J : Nat → World → Prop) (W : World) (hPb : Pb < W.heap.size)
  (hJ : ∀ k V V', J k V → Below W.heap.size V V' → J k V')
  (hJP : ∀ k V, J k V → PIn Pb PA pc S ps V)
  (hY : ∀ k V, 64 * (k + 1) ≤ (ps.flatten ++ ending ps.flatten.length).length → J k V → W.heap.size + 3 ≤ V.heap.size → YieldAt Fence.wide 1 Tryz.prog l #[.agg (bcells (((ps.flatten ++ ending ps.flatten.length).drop (64 * k)).take 64))] V fun e V' => e = .returned (.bool true) ∧ J (k + 1) V' ∧ Keep W.heap.size V V')
  (hJ0 : J 0 W) :
  Calls Tryz.prog 160 #[.func (.yield l) #[] #[], .pointer (some ⟨Pb, 0, none⟩)] W fun e V => (∃ v, e = .returned v) ∧ J ((ps.flatten ++ ending ps.flatten.length).length / 64) V := by
 obtain ⟨T, hT⟩ : ∃ T, ps.flatten ++ ending ps.flatten.length = T := ⟨_, rfl⟩
 obtain ⟨N, hN⟩ : ∃ N, W.heap.size = N := ⟨_, rfl⟩
 have hel := ending_len ps.flatten.length
 have hTl : T.length = ps.flatten.length + (ending ps.flatten.length).length := by rw [← hT, List.length_append]
 have hTb : T.length ≤ 1000000 := by omega
 rw [hT] at hY ⊢
 have hPbW := hPb
 rw [hN] at hY hPb hJ
 have HT := Lib.hid hT
 have HN := Lib.hid hN
 have HTL := Lib.hid hTl
 have HEL := Lib.hid hel
 have HS := Lib.hid hS
 have HJ := Lib.hid hJ
 have HJP := Lib.hid hJP
 have HY := Lib.hid hY
 have HJ0 := Lib.hid hJ0
 have HPB := Lib.hid hPb
 have HFILL := Lib.hid (fun p lst h1 h2 A C h3 h4 V h5 h6 h7 => callsIn_wide.1 (fill_in T N l J hTb hJ hY p lst h1 h2 A C h3 h4 V h5 h6 h7))
 have pbox := (hJP 0 W hJ0).box
 have HLEN := Lib.hid hlen
 have HTB := Lib.hid hTb
 clear hT hN hTl hel hS hJ hJP hY hJ0 hTb hlen hPb
 go_enter Tryz.func160, Tryz.ntmps160
 go_upto_region 5 with (fail)
 generalize hV : World.alloc (World.alloc (World.alloc W _) _) _ = V
 have hb3 : Below N W V := by rw [← hV, ← HN.out]; exact below3 _ _ _ _
 have h31 : V.heap[N]? = some (.cells #[.func (.yield l) #[] #[]] 191 (0, 0)) := by rw [← hV, ← HN.out]; exact heap3_first _ _ _ _
 have h32 : V.heap[N + 1]? = some (.cells (bcells (List.replicate 64 0)) 181 (0, 0)) := by rw [← hV, ← HN.out]; exact (heap3_mid _ _ _ _).trans rfl
 have h33 : V.heap[N + 2]? = some (.cells #[.int .i64 0] 3 (0, 0)) := by rw [← hV, ← HN.out]; exact heap3_last _ _ _ _
 have hzV : V.heap.size = N + 3 := by rw [← hV, ← HN.out]; simp
 have hfs : FS T N l J 0 V := ⟨HJ.out _ _ _ HJ0.out hb3, h31, ⟨_, h32, by simp, rfl⟩, h33⟩
 have pboxV := (HJP.out 0 V hfs.j).box
 have HFS := Lib.hid hfs
 have HZV := Lib.hid hzV
 clear hb3 h31 h32 h33 hfs hzV hV pbox hPbW
 have hWN := HN.out
 simp only [hWN, show N + 1 + 1 = N + 2 from rfl]
 clear hWN
 go_wp2_with fail
 clear pboxV
 go_loopw [6, 12] (fun s i wr => ∃ k : Nat, k ≤ ps.length ∧ i = .int .i64 (k : Int) ∧ s = .int .u64 (((ps.take k).flatten.length : Nat) : Int) ∧ FS T N l J (ps.take k).flatten.length wr ∧ N + 3 ≤ wr.heap.size) (fun _ i _ => ps.length - (intOf i).toNat)
 case atStart => exact ⟨0, by omega, rfl, rfl, HFS.out, by have := HZV.out; omega⟩
 case round =>
  obtain ⟨k, hk, rfl, rfl, hfs, hwz⟩ := hrel
  clear HFS
  have HFS := Lib.hid hfs
  clear hfs
  by_cases hlt : k < ps.length
  ·
   obtain ⟨x, hx⟩ : ∃ x, ps[k]? = some x := ⟨_, List.getElem?_eq_getElem hlt⟩
   obtain ⟨pg, po, rfl, hc, hsr⟩ := (HJP.out _ _ HFS.out.j).row k x hx
   have hfp := flat_part ps (ending ps.flatten.length) k x hx
   rw [HT.out] at hfp
   have hft := flat_take ps k x hx
   obtain ⟨q, hq⟩ : ∃ q, (ps.take k).flatten.length = q := ⟨_, rfl⟩
   rw [hq] at HFS hfp
   have hq2 : (ps.take (k + 1)).flatten.length = q + x.length := by rw [hft, List.length_append, hq]
   obtain ⟨s1, s2⟩ := HS.out k x hx
   obtain ⟨A, hA⟩ : ∃ A, (S k).1 = A := ⟨_, rfl⟩
   obtain ⟨C, hC⟩ : ∃ C, (S k).2 = C := ⟨_, rfl⟩
   rw [hA, hC] at hc
   rw [hA] at hsr
   rw [hC] at s1 s2
   have hpx := HFILL.out q x hfp.1 (by have := hfp.2; have := HTL.out; omega) A C s1 s2 wr HFS.out hwz (fun k' V' hj _ => by
    obtain ⟨_, _, _, _, h⟩ := (HJP.out _ _ hj).row k x hx
    rw [hA] at h
    exact h)
   have HPX := Lib.hid hpx
   have hqb : q ≤ 100000 := by have := hfp.2; have := HLEN.out; omega
   have hxb : x.length ≤ 100000 := by have := hfp.2; have := HLEN.out; omega
   have HQ2 := Lib.hid hq2
   have hki : (k : Int) < (ps.length : Int) := by omega
   obtain ⟨xl, hxl⟩ : ∃ xl, x.length = xl := ⟨_, rfl⟩
   rw [hxl] at hc hxb HPX HQ2
   rw [hq]
   clear hx hfp hft hq hq2 s1 s2 hA hC hsr hpx hxl
   go_wp2_with fail
   refine (HPX.out).mono ?_
   rintro e V2 ⟨rfl, hfs2, hkp⟩
   have HFS2 := Lib.hid hfs2
   have HKP := Lib.hid hkp
   clear hfs2 hkp
   go_wp2_with fail
   go_roundw
   case rel =>
    refine ⟨k + 1, by omega, by go_num, ?_, ?_, ?_⟩
    ·
     rw [HQ2.out]; simp
    ·
     rw [HQ2.out]; exact HFS2.out
    ·
     have := HKP.out.size; omega
   case measure => simp [intOf]; omega
  ·
   have hkl : k = ps.length := by omega
   subst hkl
   rw [List.take_length] at HFS
   have htl : (ps.take ps.length).flatten.length = ps.flatten.length := by rw [List.take_length]
   rw [htl]
   obtain ⟨q, hq⟩ : ∃ q, ps.flatten.length = q := ⟨_, rfl⟩
   rw [hq] at HFS HLEN HT HTL HEL ⊢
   have HQL := Lib.hid hq
   have hge : ¬ ((ps.length : Int) < (ps.length : Int)) := by omega
   have HE := Lib.hid (ending_any q (by have := HLEN.out; omega) wr)
   clear htl hq hpc
   go_wp2_with fail
   refine HE.out.mono ?_
   rintro e V2 ⟨v, rfl, hown, hbel⟩
   obtain ⟨g, cap, rfl, hg1, hg2, hcap, hcm, hcells⟩ := own_slice hown HEL.out.1
   have hfs2 := HFS.out.on HJ.out hbel hwz
   have hz2 := hbel.size
   have hT2 : ending q = (T.drop q).take (ending q).length := by
    rw [← HT.out, ← HQL.out, List.drop_left, List.take_length]
   have hpx := HFILL.out q (ending q) hT2 (by have := HTL.out; omega) (some ⟨g, 0, none⟩) cap hcap hcm V2 hfs2 (by omega) (fun k' V' hj hk2 hne => ⟨g, 0, rfl, fun j y hy => by
    rw [Nat.zero_add, cell_of_heap2 (hk2.same g (by omega) hg2)]
    exact hcells j y hy⟩)
   have HPX := Lib.hid hpx
   clear hown hbel hcells hfs2 hT2 hpx
   go_wp2_with fail
   refine (HPX.out).mono ?_
   rintro e V3 ⟨rfl, hfs3, hkp⟩
   have HFS3 := Lib.hid hfs3
   clear hfs3 hkp
   go_wp2_with fail
   go_end0
   refine ⟨⟨_, rfl⟩, ?_⟩
   have h := HFS3.out.j
   rw [← HTL.out] at h
   exact h
end Go.Proofs.YtcgffkkfeimifaaGreatDoor
namespace Go.Proofs.YtcgffkkfeimifaaGreatDoor
open Go.RowKit Sha
set_option linter.unusedVariables false
set_option linter.unusedSimpArgs false
attribute [local go_sem] Oper.semAt_some
theorem range_wide {P : Program} {n : Nat} {g : Operand} {ps : Array Tmp} {assign body : Code} {Q : Exit → Act → World → Prop} {a : Act} {w : World} {gf : Nat} {lb : Array Value}
  (hg : a.eval g = .func (.func gf) #[] lb) (eg : ∀ args w, (callFunc gf args).run P w = .ok (.enter gf args) w) (Z : World → Prop)
  (hcall : ∀ fn : FuncId, CallsIn Fence.wide (n - 1) P gf (#[.func (.yield (w.heap.size + 1)) #[] #[]] ++ lb)
   ((w.alloc (.deferred (some []))).alloc (.loop { state := .ready, pending := none, fn, tmps := a.tmps, params := ps, assign, body, defers := w.heap.size })) fun e V =>
    (∃ v, e = .returned v) ∧ V.heap[w.heap.size + 1]? = some (.loop { state := .ready, pending := none, fn, tmps := a.tmps, params := ps, assign, body, defers := w.heap.size }) ∧ Z V)
  (hdone : ∀ V o, Z V → Q .normal { a with defers := { target := .collected w.heap.size, args := #[] } :: a.defers } (V.putObj (w.heap.size + 1) o)) :
  (Code.rangeFunc g ps assign body).wpIn Fence.wide n P Q a w := by
 refine wpIn_rangeFunc ?_
 intro fn _
 have hro : Fence.wide.round = none := rfl
 rw [hro]
 have hc := hcall fn
 obtain ⟨r, hr⟩ : ∃ r : Loop, ({ state := .ready, pending := none, fn, tmps := a.tmps, params := ps, assign, body, defers := w.heap.size } : Loop) = r := ⟨_, rfl⟩
 have hen := run_enterLoop_outer (P := P) (w := w) fn a.tmps ps assign body
 have hst : r.state = .ready := by rw [← hr]
 have hpe : r.pending = none := by rw [← hr]
 rw [hr] at hc hen
 obtain ⟨W1, hW1⟩ : ∃ W1, (w.alloc (.deferred (some []))).alloc (.loop r) = W1 := ⟨_, rfl⟩
 rw [hW1] at hc hen
 refine ⟨w.heap.size + 1, [{ target := .collected w.heap.size, args := #[] }], W1, { target := .fn (.func gf) lb, args := #[.func (.yield (w.heap.size + 1)) #[] #[]] }, W1, gf,
  #[.func (.yield (w.heap.size + 1)) #[] #[]] ++ lb, W1, hen, ?_, ?_, ?_, ?_, ?_⟩
 ·
  simp only [resolve, hg]
  simp [go_sem]
 ·
  intro f' hf'; trivial
 ·
  simp [invoke, go_sem, eg]
 ·
  intro h; cases h
 ·
  refine hc.mono ?_
  rintro e V ⟨⟨v, rfl⟩, hl, hz⟩
  have hend := run_endLoop (P := P) hl (by rw [hst]; simp)
  rw [hpe] at hend
  exact ⟨none, _, hend, hdone V _ hz⟩
theorem yield_wide {P : Program} {m l : Nat} {args : Array Value} {V : World} {R : Ending → World → Prop} {r : Loop} (hl : V.heap[l]? = some (.loop r)) (hs : args.size = r.params.size)
  (h : r.assign.wpIn (Fence.wide.inRound l) m P (Exit.then (fun a₁ w₁ => ∃ w₂, (Instr.beginRound l).run P w₁ = .ok () w₂ ∧ r.body.wpIn (Fence.wide.inRound l) m P (roundPost P l R) a₁ w₂) (fun _ _ _ => False))
   { tmps := (r.params.zip args).foldl (fun tmps (t, a) => tmps.setIfInBounds t a) r.tmps, defers := [] } V) :
  YieldAt Fence.wide m P l args V R :=
 ⟨r.fn, _, r.assign, r.body, run_yield hl hs, roundIn_of_wpIn trivial h⟩
theorem below_putObj {n b : Nat} {u V : World} (h : Below n u V) (hb : n ≤ b) (o : Obj) : Below n u (V.putObj b o) :=
 h.trans ⟨rfl, rfl, rfl, by simp, fun k hk => World.putObj_heap_other (by omega)⟩
theorem wpListIn_store_row {F : Fence} {n : Nat} {P : Program} {w : World} {ops : Array Oper} {rest : List Oper} {o : Oper} {a : Act} {Q : Exit → Act → World → Prop} (hgd : o.guard = none) (ty : TypeId) (x y : Operand) (ho : o.op = .store ty x y)
  (g : Nat) (cells : Array Value) (hx : a.eval x = .pointer (some ⟨g, 0, none⟩)) (hy : a.eval y = .agg cells)
  (t : TypeId) (old : Array Value) (hg : w.heap[g]? = some (.cells old t (0, 0))) (hi : (P.info? ty).map (·.size) = some cells.size)
  (hold : old.size = cells.size) (h1 : cells.all (·.oneCell') = true)
  (h : wpListIn F n P ops Q rest (a.put o.dst undef) (w.setRow g cells)) : wpListIn F n P ops Q (o :: rest) a w := by
 refine wpListIn_plain hgd fun K hK => ?_
 unfold Oper.wpIn
 refine ⟨?_, ?_⟩
 ·
  simp [Oper.about, ho]
 ·
  rw [Oper.semAt_plain F _ _ (by rw [ho]; intro c hc'; cases hc')]
  simp only [execOp, ho, hx, hy, Instr.storeAt, Instr.sureAddr, Sem.run_bind, Sem.run_pure, Result.andThen_ok, run_storeVar_row w g t ty old cells hg hi hold h1]
  exact hK _ _ h
structure PRow (PA : Option Addr) (S : Nat → Option Addr × Nat) (ps : List (List UInt8)) (w : World) : Prop where
 row : ∀ j l, ps[j]? = some l → ∃ pg po, PA = some ⟨pg, po, none⟩ ∧ w.cell? ⟨pg, po + j, none⟩ = some (.slice (S j).1 l.length (S j).2) ∧ SrcAt (S j).1 l w
 cap : ∀ j l, ps[j]? = some l → l.length ≤ (S j).2 ∧ (S j).2 ≤ maxLen
theorem SrcAt.on {A : Option Addr} {l : List UInt8} {w V : World} (h : SrcAt A l w) (hb : Below w.heap.size w V) : SrcAt A l V := fun hne => by
 obtain ⟨g, o, e, hc⟩ := h hne
 refine ⟨g, o, e, fun j x hj => ?_⟩
 have h1 := hc j x hj
 rw [hb.cell (p := ⟨g, o + j, none⟩) (World.block_lt_of_cell? _ _ h1)]
 exact h1
theorem PRow.on {PA : Option Addr} {S : Nat → Option Addr × Nat} {ps : List (List UInt8)} {w V : World} (h : PRow PA S ps w) (hb : Below w.heap.size w V) : PRow PA S ps V := by
 refine ⟨fun j l hj => ?_, h.cap⟩
 obtain ⟨pg, po, e, hc, hs⟩ := h.row j l hj
 refine ⟨pg, po, e, ?_, hs.on hb⟩
 rw [hb.cell (p := ⟨pg, po + j, none⟩) (World.block_lt_of_cell? _ _ hc)]
 exact hc
theorem blocks_any (A : Option Addr) (n c : Nat) (w : World) : Calls Tryz.prog 154 #[.slice A n c] w fun e w' => e = .returned (.func (.func 160) #[] #[.pointer (some ⟨w.heap.size, 0, none⟩)]) ∧ w' = w.alloc (.cells #[.slice A n c] 175) := by
 go_enter Tryz.func154, Tryz.ntmps154
 go_wp2
 go_ret
 exact ⟨rfl, rfl⟩
structure JJ (w : World) (D A : Nat) (r : Loop) (T : List UInt8) (pv : Value) (k : Nat) (V : World) : Prop where
 rc : V.heap[D + 1]? = some (.loop r)
 df : V.heap[D]? = some (.deferred (some []))
 rg : V.heap[A + 1]? = some (.cells (wcells (Sha.run k Sha.start T).list) 176 (0, 0))
 rs : V.heap[A]? = some (.cells (bcells (List.replicate 32 0)) 157 (0, 0))
 bx : V.heap[A + 1 + 1]? = some (.cells #[pv] 175 (0, 0))
 bl : Below A w V
 ev : DEnv V
set_option maxRecDepth 100000 in
set_option maxHeartbeats 1000000 in
theorem join_any (ps : List (List UInt8)) (PA : Option Addr) (pc : Nat) (S : Nat → Option Addr × Nat) (hlen : ps.flatten.length ≤ 100000) (hnum : ps.length ≤ 100000) (hpc : ps.length ≤ pc) (w : World) (hrow : PRow PA S ps w) (env : DEnv w) :
  Calls Tryz.prog 147 #[.slice PA ps.length pc] w fun e w' => e = .returned (.agg (bcells (sha ps.flatten))) ∧ Below w.heap.size w w' := by
 obtain ⟨F, hF⟩ : ∃ F, sha ps.flatten = F := ⟨_, rfl⟩
 rw [hF]
 have HF := Lib.hid hF
 have HLEN := Lib.hid hlen
 have HROW := Lib.hid hrow
 have ENV := Lib.hid env
 obtain ⟨pv, hpv⟩ : ∃ pv, Value.slice PA ps.length pc = pv := ⟨_, rfl⟩
 rw [hpv]
 have HPV := Lib.hid hpv
 obtain ⟨sl, hsl⟩ : ∃ sl, Sha.start.list = sl := ⟨_, rfl⟩
 have hsl8 : sl.length = 8 := by rw [← hsl]; rfl
 obtain ⟨bt, bf, hbg⟩ := env.beg
 rw [hsl] at hbg
 have hblt := env.lt0
 have HBG := Lib.hid hbg
 have hsw : (Tryz.prog.info? 176).map (·.size) = some (wcells sl).size := by rw [wcells_size, hsl8]; kernel_rfl
 have hso : (8 : Nat) = (wcells sl).size := by rw [wcells_size, hsl8]
 have HSW := Lib.hid hsw
 have HSO := Lib.hid hso
 have HSL := Lib.hid hsl
 clear hF hlen hrow env hpv hbg hsw hso hsl hsl8
 refine (callsIn_wide (n := 4)).1 ?_
 refine callsIn_of_wp_marks Tryz.func147 rfl trivial ?_ rfl
 simp only [Tryz.ntmps147, List.size_toArray, List.length_cons, List.length_nil, Nat.reduceAdd, Nat.reduceSub, Array.replicate_succ, Array.replicate_zero, List.push_toArray, List.append_toArray, List.nil_append, List.cons_append]
 iterate 6 gi_step
 obtain ⟨A, hA⟩ : ∃ A, w.heap.size = A := ⟨_, rfl⟩
 simp only [hA]
 generalize hV : World.alloc w _ = V
 have hv0 : V.heap[A]? = some (.cells (bcells (List.replicate 32 0)) 157 (0, 0)) := by rw [← hV, ← hA]; exact (heap_alloc_new _ _).trans rfl
 have hbV : Below A w V := by rw [← hV, ← hA]; exact below_new _ _
 have hzV : V.heap.size = A + 1 := by rw [← hV, ← hA]; simp
 have HBGV : RowKit.Hid (V.heap[0]? = some (.cells (wcells sl) bt bf)) := Lib.hid (by rw [hbV.block _ (by rw [← hA]; exact hblt)]; exact HBG.out)
 have HV0 := Lib.hid hv0
 have HBV := Lib.hid hbV
 have HZV := Lib.hid hzV
 have HA := Lib.hid hA
 clear hV hv0 hbV hzV hA hblt HBG
 gi_wp2_with (first | (refine wpListIn_load_row rfl 176 (.global 0) rfl 0 rfl bt (wcells sl) bf _ HBGV.out Tryz.underlying176 rfl HSW.out ?_) | (refine wpListIn_store_row rfl 176 (.tmp 3) (.tmp 5) rfl V.heap.size (wcells sl) rfl rfl 176 _ (heap_alloc_new _ _) HSW.out HSO.out (wcells_one _) ?_))
 rw [← HPV.out]
 refine ⟨trivial, (callsIn_wide.2 (blocks_any _ _ _ _)).mono ?_⟩
 rw [HPV.out]
 rintro e v2 ⟨rfl, rfl⟩
 rw [World.setRow_alloc_new, World.size_alloc, HZV.out]
 obtain ⟨V2, hV2⟩ : ∃ V2, (V.alloc (.cells (wcells sl) 176)).alloc (.cells #[pv] 175) = V2 := ⟨_, rfl⟩
 rw [hV2]
 have hr1 : V2.heap[A + 1]? = some (.cells (wcells sl) 176 (0, 0)) := by
  rw [← hV2, ← HZV.out, Below.heap_alloc _ _ _ (by simp)]
  exact heap_alloc_new _ _
 have hr2 : V2.heap[A + 1 + 1]? = some (.cells #[pv] 175 (0, 0)) := by
  rw [← hV2, ← HZV.out]
  have := heap_alloc_new (V.alloc (.cells (wcells sl) 176)) (.cells #[pv] 175)
  simpa using this
 have hr0 : V2.heap[A]? = some (.cells (bcells (List.replicate 32 0)) 157 (0, 0)) := by
  have h := HZV.out
  rw [← hV2, Below.heap_alloc _ _ _ (by simp; omega), Below.heap_alloc _ _ _ (by omega)]
  exact HV0.out
 have hz2 : V2.heap.size = A + 1 + 1 + 1 := by rw [← hV2]; simp [HZV.out]
 have hb2 : Below A w V2 := by
  have h := HZV.out
  rw [← hV2]
  exact (HBV.out.alloc (by omega) _).alloc (by simp; omega) _
 have HR0 := Lib.hid hr0
 have HR1 := Lib.hid hr1
 have HR2 := Lib.hid hr2
 have HZ2 := Lib.hid hz2
 have HB2 := Lib.hid hb2
 clear hV2 hr0 hr1 hr2 hz2 hb2 HV0 HBV HZV HBGV
 gi_wp2_with fail
 obtain ⟨D, hD⟩ : ∃ D, V2.heap.size = D := ⟨_, rfl⟩
 have hDA : D = A + 3 := by have := HZ2.out; omega
 have HD := Lib.hid hD
 have HDA := Lib.hid hDA
 obtain ⟨T, hT⟩ : ∃ T, ps.flatten ++ Sha.ending ps.flatten.length = T := ⟨_, rfl⟩
 have HT := Lib.hid hT
 clear hD hDA hT
 refine range_wide (gf := 160) (lb := #[.pointer (some ⟨A + 1 + 1, 0, none⟩)]) rfl (enters_of Tryz.func160 (by kernel_rfl) rfl)
  (fun V => V.heap[D]? = some (.deferred (some [])) ∧ V.heap[A + 1]? = some (.cells (wcells (Sha.run (T.length / 64) Sha.start T).list) 176 (0, 0)) ∧ V.heap[A]? = some (.cells (bcells (List.replicate 32 0)) 157 (0, 0)) ∧ Below A w V ∧ D + 2 ≤ V.heap.size) ?_ ?_
 ·
  intro fn
  rw [HD.out]
  generalize hr : ({ state := _, pending := _, fn := _, tmps := _, params := _, assign := _, body := _, defers := _ } : Loop) = r
  have HRR := Lib.hid hr
  clear hr
  obtain ⟨W1, hW1⟩ : ∃ W1, (V2.alloc (.deferred (some []))).alloc (.loop r) = W1 := ⟨_, rfl⟩
  have hs1 : W1.heap.size = D + 2 := by rw [← hW1]; simp [HD.out]
  have hDA := HDA.out
  have hold : ∀ b, b < D → W1.heap[b]? = V2.heap[b]? := fun b hb => by
   rw [← hW1, Below.heap_alloc _ _ _ (by simp [HD.out]; omega), Below.heap_alloc _ _ _ (by rw [HD.out]; exact hb)]
  have hbW : Below A w W1 := by
   rw [← hW1]
   exact (HB2.out.alloc (by rw [HD.out]; omega) _).alloc (by simp [HD.out]; omega) _
  have hevW : DEnv W1 := ENV.out.on (by rw [HA.out]; exact hbW)
  have hj0 : JJ w D A r T pv 0 W1 := by
   refine ⟨?_, ?_, ?_, ?_, ?_, hbW, hevW⟩
   ·
    rw [← hW1]
    have := heap_alloc_new (V2.alloc (.deferred (some []))) (.loop r)
    rw [World.size_alloc, HD.out] at this
    exact this
   ·
    rw [← hW1, Below.heap_alloc _ _ _ (by simp [HD.out])]
    have := heap_alloc_new V2 (.deferred (some []))
    rw [HD.out] at this
    exact this
   ·
    rw [hold _ (by omega)]
    rw [show Sha.run 0 Sha.start T = Sha.start from rfl, HSL.out]
    exact HR1.out
   ·
    rw [hold _ (by omega)]; exact HR0.out
   ·
    rw [hold _ (by omega)]; exact HR2.out
  rw [hW1]
  have hit := blocks_in ps (A + 1 + 1) PA pc S HLEN.out hnum hpc HROW.out.cap (D + 1) (JJ w D A r T pv) W1 (by rw [hs1]; omega)
  rw [hs1, HT.out] at hit
  refine (callsIn_wide.2 (hit ?_ ?_ ?_ hj0)).mono ?_
  ·
   rintro k V V' ⟨h1, h2, h3, h4, h5, h6, h7⟩ hb
   refine ⟨(hb.block _ (by omega)).trans h1, (hb.block _ (by omega)).trans h2, (hb.block _ (by omega)).trans h3, (hb.block _ (by omega)).trans h4, (hb.block _ (by omega)).trans h5, h6.trans (hb.mono (by omega)), h7.below hb (by omega)⟩
  ·
   rintro k V ⟨h1, h2, h3, h4, h5, h6, h7⟩
   refine ⟨by rw [HPV.out]; exact cell_of_one h5, ?_⟩
   exact (HROW.out.on (by rw [HA.out]; exact h6)).row
  ·
   clear hit hj0 hold hbW hevW hW1 hs1 HR0 HR1 HR2 HB2
   rintro k V hk ⟨h1, h2, h3, h4, h5, h6, h7⟩ hz
   obtain ⟨blk, hblk⟩ : ∃ blk, (T.drop (64 * k)).take 64 = blk := ⟨_, rfl⟩
   have hblk64 : blk.length = 64 := by
    rw [← hblk, List.length_take, List.length_drop]
    omega
   have hrun : Sha.run (k + 1) Sha.start T = Sha.after (Sha.run k Sha.start T) blk := by rw [Sha.run, hblk]
   rw [hblk]
   obtain ⟨rk, hrk⟩ : ∃ rk, Sha.run k Sha.start T = rk := ⟨_, rfl⟩
   rw [hrk] at h3 hrun
   refine yield_wide h1 (by rw [← HRR.out]; rfl) ?_
   have hrs : r.state = .ready := by rw [← HRR.out]
   have hrp : r.pending = none := by rw [← HRR.out]
   have HRS := Lib.hid hrs
   have HRP := Lib.hid hrp
   clear hrs hrp hrk hblk
   obtain ⟨R, hRR⟩ : ∃ R : Ending → World → Prop, (fun e V' => e = .returned (.bool true) ∧ JJ w D A r T pv (k + 1) V' ∧ Keep (D + 2) V V') = R := ⟨_, rfl⟩
   rw [hRR]
   have HR0 := Lib.hid hRR
   clear hRR
   rw [← HRR.out]
   have hsb : (Tryz.prog.info? 181).map (·.size) = some (bcells blk).size := by rw [bcells_size, hblk64]; kernel_rfl
   have hso : (64 : Nat) = (bcells blk).size := by rw [bcells_size, hblk64]
   have H1 := Lib.hid h1
   have H2 := Lib.hid h2
   have H3 := Lib.hid h3
   have H4 := Lib.hid h4
   have H5 := Lib.hid h5
   have H6 := Lib.hid h6
   have H7 := Lib.hid h7
   have HZ := Lib.hid hz
   have HB64 := Lib.hid hblk64
   have HRUN := Lib.hid hrun
   have HSB := Lib.hid hsb
   have HSO64 := Lib.hid hso
   clear h1 h2 h3 h4 h5 h6 h7 hz hblk64 hrun hsb hso hDA
   gi_wp2_with (refine wpListIn_store_row rfl 181 (.tmp 4) (.tmp 8) rfl V.heap.size (bcells blk) rfl rfl 181 _ (heap_alloc_new _ _) HSB.out HSO64.out (bcells_one _) ?_)
   rw [World.setRow_alloc_new]
   have hDV : D + 2 ≤ V.heap.size := by have := HZ.out; omega
   have hDA := HDA.out
   have hL0 : (V.alloc (.cells (bcells blk) 181)).heap[D + 1]? = some (.loop r) := (Below.heap_alloc _ _ _ (by omega)).trans H1.out
   refine ⟨_, run_beginRound hL0 HRS.out, ?_⟩
   generalize hV3 : World.putObj _ _ _ = V3
   have hK3 : ∀ b, b < V.heap.size → b ≠ D + 1 → V3.heap[b]? = V.heap[b]? := fun b hb hne => by
    rw [← hV3, World.putObj_heap_other hne]
    exact Below.heap_alloc _ _ _ hb
   have hL3 : V3.heap[D + 1]? = some (.loop { r with state := .busy }) := by rw [← hV3]; exact World.putObj_heap_same (Array.getElem?_eq_some_iff.1 hL0).1
   have hz3 : V3.heap.size = V.heap.size + 1 := by rw [← hV3]; simp
   have hb3 : Below A w V3 := by rw [← hV3]; exact below_putObj (H6.out.alloc (by omega) _) (by omega) _
   have hX3 : V3.heap[V.heap.size]? = some (.cells (bcells blk) 181 (0, 0)) := by rw [← hV3, World.putObj_heap_other (by omega)]; exact heap_alloc_new _ _
   have hR3 : V3.heap[A + 1]? = some (.cells (wcells rk.list) 176 (0, 0)) := (hK3 _ (by omega) (by omega)).trans H3.out
   have hE3 : DEnv V3 := ENV.out.on (by rw [HA.out]; exact hb3)
   have hsk : (Tryz.prog.info? 176).map (·.size) = some (wcells rk.list).size := by rw [wcells_size, list_len]; kernel_rfl
   have K3 := Lib.hid hK3
   have L3 := Lib.hid hL3
   have Z3 := Lib.hid hz3
   have B3 := Lib.hid hb3
   have X3 := Lib.hid hX3
   have R3 := Lib.hid hR3
   have HSK := Lib.hid hsk
   have HAF := Lib.hid (after_any rk blk HB64.out V3 hE3)
   obtain ⟨rl, hrl⟩ : ∃ rl, rk.list = rl := ⟨_, rfl⟩
   rw [hrl] at HSK R3 HAF
   clear hV3 hK3 hL3 hz3 hb3 hX3 hR3 hE3 hsk hrl hL0 hDV hDA
   gi_wp2_with (first | (refine wpListIn_load_row rfl 176 (.tmp 3) rfl (A + 1) rfl 176 (wcells rl) (0, 0) _ R3.out Tryz.underlying176 rfl HSK.out ?_) | (refine wpListIn_load_row rfl 181 (.tmp 4) rfl V.heap.size rfl 181 (bcells blk) (0, 0) _ X3.out Tryz.underlying181 rfl HSB.out ?_))
   refine ⟨trivial, CallsIn.inRound (D + 1) ((callsIn_wide.2 HAF.out).mono ?_)⟩
   rintro e V4 ⟨rfl, hb4⟩
   obtain ⟨nl, hnl⟩ : ∃ nl, (Sha.after rk blk).list = nl := ⟨_, rfl⟩
   have hnl8 : nl.length = 8 := by rw [← hnl, list_len]
   rw [hnl]
   have hDV : D + 2 ≤ V.heap.size := by have := HZ.out; omega
   have hDA := HDA.out
   have hz3 := Z3.out
   have hR4 : V4.heap[A + 1]? = some (.cells (wcells rl) 176 (0, 0)) := (hb4.block _ (by omega)).trans R3.out
   have hsn : (Tryz.prog.info? 176).map (·.size) = some (wcells nl).size := by rw [wcells_size, hnl8]; kernel_rfl
   have hson : (wcells rl).size = (wcells nl).size := by
    have h1 := HSK.out
    rw [hsn] at h1
    exact (Option.some.inj h1).symm
   have hL4 : V4.heap[D + 1]? = some (.loop { r with state := .busy }) := (hb4.block _ (by omega)).trans L3.out
   have HB4 := Lib.hid hb4
   have HNL := Lib.hid hnl
   have HR4 := Lib.hid hR4
   have HSN := Lib.hid hsn
   have HSON := Lib.hid hson
   have HL4 := Lib.hid hL4
   clear hb4 hnl hR4 hsn hson hL4 hnl8 hDV hDA hz3
   gi_wp2_with (refine wpListIn_store_row rfl 176 (.tmp 3) (.tmp 11) rfl (A + 1) (wcells nl) rfl rfl 176 (wcells rl) HR4.out HSN.out HSON.out (wcells_one _) ?_)
   have hDV : D + 2 ≤ V.heap.size := by have := HZ.out; omega
   have hDA := HDA.out
   have hz3 := Z3.out
   have hz4 := HB4.out.size
   have hL5 : (V4.setRow (A + 1) (wcells nl)).heap[D + 1]? = some (.loop { r with state := .busy }) := (setRow_other _ _ _ _ (by omega)).trans HL4.out
   refine ⟨_, _, run_endRound none hL5, ?_⟩
   rw [← HR0.out]
   have hrr : ({ ({ r with state := .busy } : Loop) with state := if (none : Option Code).isNone then .ready else .done, pending := none } : Loop) = r := by
    have h1 := HRS.out
    have h2 := HRP.out
    cases r
    simp at h1 h2 ⊢
    exact ⟨h1.symm, h2.symm⟩
   rw [hrr]
   have hM : ∀ b, b < V.heap.size → b ≠ D + 1 → b ≠ A + 1 → ((V4.setRow (A + 1) (wcells nl)).putObj (D + 1) (.loop r)).heap[b]? = V.heap[b]? := fun b h1 h2 h3 => by
    rw [World.putObj_heap_other h2, setRow_other _ _ _ _ h3, HB4.out.block b (by omega)]
    exact K3.out b h1 h2
   have hbl : Below A w ((V4.setRow (A + 1) (wcells nl)).putObj (D + 1) (.loop r)) :=
    below_putObj (below_row (B3.out.trans (HB4.out.mono (by omega))) (by omega) _) (by omega) _
   refine ⟨rfl, ⟨?_, ?_, ?_, ?_, ?_, hbl, ENV.out.on (by rw [HA.out]; exact hbl)⟩, ⟨?_, ?_⟩⟩
   ·
    exact World.putObj_heap_same (Array.getElem?_eq_some_iff.1 hL5).1
   ·
    rw [hM D (by omega) (by omega) (by omega)]; exact H2.out
   ·
    rw [World.putObj_heap_other (by omega), HRUN.out, HNL.out]
    exact setRow_heap _ _ _ _ _ _ HR4.out
   ·
    rw [hM A (by omega) (by omega) (by omega)]; exact H4.out
   ·
    rw [hM (A + 1 + 1) (by omega) (by omega) (by omega)]; exact H5.out
   ·
    show V.heap.size ≤ (World.putObj _ _ _).heap.size
    simp
    omega
   ·
    intro b hb hlt
    exact hM b hlt (by omega) (by omega)
  ·
   rintro e V ⟨hv, h1, h2, h3, h4, h5, h6, h7⟩
   refine ⟨hv, h1, h2, h3, h4, h6, ?_⟩
   have := (Array.getElem?_eq_some_iff.1 h1).1
   omega
 ·
  rintro V o ⟨hd, hrg, hrs, hbl, hdz⟩
  rw [HD.out]
  generalize hV : V.putObj (D + 1) o = V1
  have hDA := HDA.out
  obtain ⟨rk, hrk⟩ : ∃ rk, Sha.run (T.length / 64) Sha.start T = rk := ⟨_, rfl⟩
  have hsha : rk.hash = F := by
   rw [← hrk, ← HT.out, ← HF.out]
   rfl
  rw [hrk] at hrg
  have hd1 : V1.heap[D]? = some (.deferred (some [])) := by rw [← hV]; exact (World.putObj_heap_other (by omega)).trans hd
  have hrg1 : V1.heap[A + 1]? = some (.cells (wcells rk.list) 176 (0, 0)) := by rw [← hV]; exact (World.putObj_heap_other (by omega)).trans hrg
  have hrs1 : V1.heap[A]? = some (.cells (bcells (List.replicate 32 0)) 157 (0, 0)) := by rw [← hV]; exact (World.putObj_heap_other (by omega)).trans hrs
  have hbl1 : Below A w V1 := by rw [← hV]; exact below_putObj hbl (by omega) _
  have hz1 : D + 2 ≤ V1.heap.size := by rw [← hV]; simp; exact hdz
  have hF32 : F.length = 32 := by rw [← hsha]; exact hp_len _ _
  have hsk : (Tryz.prog.info? 176).map (·.size) = some (wcells rk.list).size := by rw [wcells_size, list_len]; kernel_rfl
  have hsh : (Tryz.prog.info? 157).map (·.size) = some (bcells F).size := by rw [bcells_size, hF32]; kernel_rfl
  have hso : (bcells (List.replicate 32 0)).size = (bcells F).size := by rw [bcells_size, bcells_size, hF32]; rfl
  have HHA := Lib.hid (hash_any rk V1)
  obtain ⟨rl, hrl⟩ : ∃ rl, rk.list = rl := ⟨_, rfl⟩
  rw [hrl] at hrg1 hsk HHA
  rw [hsha] at HHA
  obtain ⟨ZZ, hZZ⟩ : ∃ ZZ, bcells (List.replicate 32 0) = ZZ := ⟨_, rfl⟩
  rw [hZZ] at hrs1 hso
  have D1 := Lib.hid hd1
  have RG1 := Lib.hid hrg1
  have RS1 := Lib.hid hrs1
  have BL1 := Lib.hid hbl1
  have Z1 := Lib.hid hz1
  have HSK := Lib.hid hsk
  have HSH := Lib.hid hsh
  have HSO2 := Lib.hid hso
  clear hV hd hrg hrs hbl hdz hDA hrk hsha hd1 hrg1 hrs1 hbl1 hz1 hF32 hsk hsh hso hrl hZZ
  gi_wp2_with (refine wpListIn_load_row rfl 176 (.tmp 3) rfl (A + 1) rfl 176 (wcells rl) (0, 0) _ RG1.out Tryz.underlying176 rfl HSK.out ?_)
  refine ⟨trivial, (callsIn_wide.2 HHA.out).mono ?_⟩
  rintro e V2 ⟨rfl, hb2⟩
  have hz1 := Z1.out
  have hDA := HDA.out
  have RS2 : RowKit.Hid (V2.heap[A]? = some (.cells ZZ 157 (0, 0))) := Lib.hid ((hb2.block _ (by omega)).trans RS1.out)
  have D2 : RowKit.Hid (V2.heap[D]? = some (.deferred (some []))) := Lib.hid ((hb2.block _ (by omega)).trans D1.out)
  have BL2 : RowKit.Hid (Below A w V2) := Lib.hid (BL1.out.trans (hb2.mono (by omega)))
  clear hb2 hz1 hDA
  gi_wp2_with (refine wpListIn_store_row rfl 157 (.tmp 2) (.tmp 13) rfl A (bcells F) rfl rfl 157 ZZ RS2.out HSH.out HSO2.out (bcells_one _) ?_)
  have hDA := HDA.out
  have D3 : (V2.setRow A (bcells F)).heap[D]? = some (.deferred (some [])) := (setRow_other _ _ _ _ (by omega)).trans D2.out
  refine ⟨by simp, .inl ⟨_, _, rfl, run_takeDeferred D3, ?_⟩⟩
  refine ⟨.agg (bcells F), results_cell_row rfl _ _ A 157 _ (0, 0) _ rfl ?_ Tryz.underlying157 rfl HSH.out, rfl, ?_⟩
  ·
   rw [World.putObj_heap_other (by omega)]
   exact setRow_heap _ _ _ _ _ _ RS2.out
  ·
   rw [HA.out]
   exact below_putObj (below_row BL2.out (Nat.le_refl _) _) (by omega) _
end Go.Proofs.YtcgffkkfeimifaaGreatDoor
namespace Go.Proofs.YtcgffkkfeimifaaGreatDoor
open Go.RowKit Sha
set_option linter.unusedVariables false
set_option linter.unusedSimpArgs false
set_option maxRecDepth 100000 in
set_option maxHeartbeats 1000000 in
theorem sum_any (l : List UInt8) (A : Option Addr) (c : Nat) (hl : l.length ≤ 100000) (hc : l.length ≤ c) (hcm : c ≤ maxLen) (w : World) (hs : SrcAt A l w) (env : DEnv w) :
  Calls Tryz.prog 132 #[.slice A l.length c] w fun e w' => e = .returned (.agg (bcells (sha l))) ∧ Below w.heap.size w w' := by
 obtain ⟨F, hF⟩ : ∃ F, sha l = F := ⟨_, rfl⟩
 have hF32 : F.length = 32 := by rw [← hF]; exact hp_len _ _
 rw [hF]
 obtain ⟨v, hv⟩ : ∃ v, Value.slice A l.length c = v := ⟨_, rfl⟩
 have hv1 : v.oneCell' = true := by rw [← hv]; rfl
 have hjoin : ∀ V : World, Below w.heap.size w V → ∀ X, w.heap.size ≤ X → V.cell? ⟨X, 0, none⟩ = some v → Calls Tryz.prog 147 #[.slice (some ⟨X, 0, none⟩) 1 1] V fun e w' => e = .returned (.agg (bcells F)) ∧ Below V.heap.size V w' := by
  intro V hb X hX hcell
  have h := join_any [l] (some ⟨X, 0, none⟩) 1 (fun _ => (A, c)) (by simpa using hl) (by simp) (by simp) V ⟨?_, ?_⟩ (env.on hb)
  ·
   simp only [List.flatten_cons, List.flatten_nil, List.append_nil, hF, List.length_cons, List.length_nil] at h
   exact h
  ·
   intro j x hj
   match j, hj with
   | 0, hj =>
    have : l = x := by simpa using hj
    subst this
    refine ⟨X, 0, rfl, ?_, hs.on hb⟩
    rw [hv]
    exact hcell
   | j + 1, hj => simp at hj
  ·
   intro j x hj
   match j, hj with
   | 0, hj =>
    have : l = x := by simpa using hj
    subst this
    exact ⟨hc, hcm⟩
   | j + 1, hj => simp at hj
 rw [hv]
 have HJ := Lib.hid hjoin
 have hsz : (Tryz.prog.info? 157).map (·.size) = some (bcells F).size := by rw [bcells_size, hF32]; kernel_rfl
 have hso : (32 : Nat) = (bcells F).size := by rw [bcells_size, hF32]
 have HSZ := Lib.hid hsz
 have HSO := Lib.hid hso
 have HV1 := Lib.hid hv1
 have HV := Lib.hid hv
 obtain ⟨A', n', c', hv2⟩ : ∃ A' n' c', v = .slice A' n' c' := ⟨_, _, _, hv.symm⟩
 subst hv2
 clear hF hF32 hjoin hsz hso hv1 hv hs env
 go_enter Tryz.func132, Tryz.ntmps132
 go_upto_region 1 with (fail)
 generalize hV : World.alloc w _ = V
 have hb0 : Below w.heap.size w V := by rw [← hV]; exact below_new _ _
 have hr0 : V.heap[w.heap.size]? = some (.cells (bcells (List.replicate 32 0)) 157 (0, 0)) := by rw [← hV]; exact (heap_alloc_new _ _).trans rfl
 have hz0 : V.heap.size = w.heap.size + 1 := by rw [← hV]; simp
 have HB0 := Lib.hid hb0
 have HR0 := Lib.hid hr0
 have HZ0 := Lib.hid hz0
 clear hV hb0 hr0 hz0
 go_wp2_with fail
 have hz0 := HZ0.out
 refine (HJ.out _ (HB0.out.alloc (by omega) _) V.heap.size (by omega) (by simp)).mono ?_
 rintro e V2 ⟨rfl, hb2⟩
 have HB2 := Lib.hid hb2
 have hr2 : V2.heap[w.heap.size]? = some (.cells (bcells (List.replicate 32 0)) 157 (0, 0)) := by
  rw [hb2.block _ (by simp; omega), Below.heap_alloc _ _ _ (by omega)]
  exact HR0.out
 have hb3 : Below w.heap.size w V2 := (HB0.out.alloc (by omega) _).trans (hb2.mono (by simp; omega))
 have HR2 := Lib.hid hr2
 have HB3 := Lib.hid hb3
 clear hb2 hr2 hb3 hz0 HB2
 go_wp2_with (refine wpList_store_row rfl 157 (.tmp 2) (.tmp 5) rfl w.heap.size (bcells F) rfl rfl 157 _ HR2.out HSZ.out HSO.out (bcells_one _) ?_)
 refine bodyPost_ret (v := .agg (bcells F)) (results_cell_row rfl _ _ w.heap.size 157 _ (0, 0) _ rfl (setRow_heap _ _ _ _ _ _ HR2.out) Tryz.underlying157 rfl HSZ.out) rfl ⟨rfl, ?_⟩
 exact below_row HB3.out (Nat.le_refl _) _
theorem slice_short (X : Nat) (w : World) : (Instr.sliceAt 41 (.pointer (some ⟨X, 0, none⟩)) none none none).run Tryz.prog w = .ok (.slice (some ⟨X, 0, none⟩) 16 16) w := by
 have ha : Tryz.prog.arrayLen 41 = 16 := by kernel_rfl
 have h := run_sliceAt_array_all (P := Tryz.prog) w 41 ⟨X, 0, none⟩ (by kernel_rfl)
 have hs : ∀ w, (sizeOf (Tryz.prog.elem 41)).run Tryz.prog w = .ok 1 w := fun _ => by kernel_rfl
 rw [h, hs, ha]
 rfl
theorem slice_hash (X : Nat) (w : World) : (Instr.sliceAt 157 (.pointer (some ⟨X, 0, none⟩)) none none none).run Tryz.prog w = .ok (.slice (some ⟨X, 0, none⟩) 32 32) w := by
 have ha : Tryz.prog.arrayLen 157 = 32 := by kernel_rfl
 have h := run_sliceAt_array_all (P := Tryz.prog) w 157 ⟨X, 0, none⟩ (by kernel_rfl)
 have hs : ∀ w, (sizeOf (Tryz.prog.elem 157)).run Tryz.prog w = .ok 1 w := fun _ => by kernel_rfl
 rw [h, hs, ha]
 rfl
set_option maxRecDepth 100000 in
set_option maxHeartbeats 1000000 in
theorem short_any (l : List UInt8) (A : Option Addr) (c : Nat) (hl : l.length ≤ 100000) (hc : l.length ≤ c) (hcm : c ≤ maxLen) (w : World) (hs : SrcAt A l w) (env : DEnv w) :
  Calls Tryz.prog 108 #[.slice A l.length c] w fun e w' => e = .returned (.agg (bcells ((sha l).take 16))) ∧ Below w.heap.size w w' := by
 have hsum : ∀ V : World, Below w.heap.size w V → Calls Tryz.prog 132 #[.slice A l.length c] V fun e w' => e = .returned (.agg (bcells (sha l))) ∧ Below V.heap.size V w' := fun V hb => sum_any l A c hl hc hcm V (hs.on hb) (env.on hb)
 obtain ⟨F, hF⟩ : ∃ F, sha l = F := ⟨_, rfl⟩
 have hF32 : F.length = 32 := by rw [← hF]; exact hp_len _ _
 rw [hF] at hsum ⊢
 obtain ⟨n, hn⟩ : ∃ n, l.length = n := ⟨_, rfl⟩
 rw [hn] at hsum ⊢
 have HS := Lib.hid hsum
 have hsz : (Tryz.prog.info? 157).map (·.size) = some (bcells F).size := by rw [bcells_size, hF32]; kernel_rfl
 have hso : (32 : Nat) = (bcells F).size := by rw [bcells_size, hF32]
 have hsz2 : (Tryz.prog.info? 41).map (·.size) = some (bcells (F.take 16)).size := by rw [bcells_size, List.length_take, hF32]; kernel_rfl
 have hso2 : (16 : Nat) = (bcells (F.take 16)).size := by rw [bcells_size, List.length_take, hF32]; rfl
 have HSZ := Lib.hid hsz
 have HSO := Lib.hid hso
 have HSZ2 := Lib.hid hsz2
 have HSO2 := Lib.hid hso2
 have HF32 := Lib.hid hF32
 clear hF hn hs env hl hc hcm hsum hsz hso hsz2 hso2 hF32
 go_enter Tryz.func108, Tryz.ntmps108
 go_upto_region 2 with (fail)
 obtain ⟨X, hX⟩ : ∃ X, w.heap.size = X := ⟨_, rfl⟩
 simp only [hX]
 generalize hV : World.alloc (World.alloc w _) _ = V
 have hb0 : Below X w V := by rw [← hV, ← hX]; exact (below_new _ _).alloc (by simp) _
 have hr0 : V.heap[X]? = some (.cells (bcells (List.replicate 16 0)) 41 (0, 0)) := by
  rw [← hV, ← hX, Below.heap_alloc _ _ _ (by simp)]; exact (heap_alloc_new _ _).trans rfl
 have hr1 : V.heap[X + 1]? = some (.cells (bcells (List.replicate 16 0)) 41 (0, 0)) := by
  rw [← hV, ← hX]
  have h := heap_alloc_new (w.alloc (.cells (bcells (List.replicate 16 0)) 41)) (.cells (bcells (List.replicate 16 0)) 41)
  rw [World.size_alloc] at h
  exact h.trans rfl
 have hz0 : V.heap.size = X + 1 + 1 := by rw [← hV, ← hX]; simp
 obtain ⟨ZZ, hZZ⟩ : ∃ ZZ, bcells (List.replicate 16 0) = ZZ := ⟨_, rfl⟩
 have hzz : ZZ.size = 16 := by rw [← hZZ]; rfl
 rw [hZZ] at hr0 hr1
 have HB0 := Lib.hid hb0
 have HR0 := Lib.hid hr0
 have HR1 := Lib.hid hr1
 have HZ0 := Lib.hid hz0
 have HX := Lib.hid hX
 have HZZ := Lib.hid hzz
 clear hV hb0 hr0 hr1 hz0 hX hZZ hzz
 go_wp2_with fail
 refine (HS.out _ (by rw [HX.out]; exact HB0.out)).mono ?_
 rintro e V2 ⟨rfl, hb2⟩
 have hz0 := HZ0.out
 have hr0 : V2.heap[X]? = some (.cells ZZ 41 (0, 0)) := (hb2.block _ (by omega)).trans HR0.out
 have hr1 : V2.heap[X + 1]? = some (.cells ZZ 41 (0, 0)) := (hb2.block _ (by omega)).trans HR1.out
 have hz2 := hb2.size
 have hbb : Below X w V2 := HB0.out.trans (hb2.mono (by omega))
 have HR20 := Lib.hid hr0
 have HR21 := Lib.hid hr1
 have HZ2 := Lib.hid hz2
 have HBB := Lib.hid hbb
 clear hb2 hr0 hr1 hz2 hz0 hbb
 go_wp2_with (refine wpList_store_row rfl 157 (.tmp 4) (.tmp 6) rfl V2.heap.size (bcells F) rfl rfl 157 _ (heap_alloc_new _ _) HSZ.out HSO.out (bcells_one _) ?_)
 rw [World.setRow_alloc_new]
 obtain ⟨Y, hY⟩ : ∃ Y, V2.heap.size = Y := ⟨_, rfl⟩
 have hz2 := HZ2.out
 have hz0 := HZ0.out
 simp only [hY]
 generalize hV3 : World.alloc V2 _ = V3
 have hr0 : V3.heap[X]? = some (.cells ZZ 41 (0, 0)) := by rw [← hV3, Below.heap_alloc _ _ _ (by omega)]; exact HR20.out
 have hr1 : V3.heap[X + 1]? = some (.cells ZZ 41 (0, 0)) := by rw [← hV3, Below.heap_alloc _ _ _ (by omega)]; exact HR21.out
 have hr2 : V3.heap[Y]? = some (.cells (bcells F) 157 (0, 0)) := by rw [← hV3, ← hY]; exact heap_alloc_new _ _
 have hbb : Below X w V3 := by rw [← hV3]; exact HBB.out.alloc (by omega) _
 have HR30 := Lib.hid hr0
 have HR31 := Lib.hid hr1
 have HR32 := Lib.hid hr2
 have HB3 := Lib.hid hbb
 have s1 := slice_short (X + 1)
 have s2 := slice_hash Y
 have hsz1 : (Tryz.prog.info? 5).map (·.size) = some 1 := by kernel_rfl
 have HSZ1 := Lib.hid hsz1
 have hcs : ∀ j v, (bvals (F.take 16))[j]? = some v → V3.drew.cell? ((⟨Y, 0, none⟩ : Addr).add j) = some v := fun j v hj => by
  unfold bvals at hj
  rw [List.getElem?_map] at hj
  obtain ⟨x, hx, rfl⟩ := Option.map_eq_some_iff.1 hj
  rw [add_eq, Nat.zero_add, cell_of_row V3.drew _ j _ _ _ hr2]
  have h16 : j < 16 := by
   have := (List.getElem?_eq_some_iff.1 hx).1
   simp at this
   omega
  rw [List.getElem?_take, if_pos h16] at hx
  rw [bcells_at _ _ (by rw [HF32.out]; omega), List.getD_eq_getElem?_getD, hx]
  rfl
 have hcl : (bvals (F.take 16)).length = Nat.min 32 16 := by rw [bvals_len, List.length_take, HF32.out]; rfl
 have hone : ∀ v ∈ bvals (F.take 16), v.oneCell' = true := fun v hv => by
  unfold bvals at hv
  obtain ⟨x, _, rfl⟩ := List.mem_map.1 hv
  rfl
 have hfit : 0 + (bvals (F.take 16)).length ≤ ZZ.size := by rw [hcl, HZZ.out]; decide
 have HCS := Lib.hid hcs
 have HCL := Lib.hid hcl
 have HONE := Lib.hid hone
 have HFIT := Lib.hid hfit
 have hrow : (ZZ.toList.take 0 ++ (bvals (F.take 16) ++ ZZ.toList.drop (0 + (bvals (F.take 16)).length))).toArray = bcells (F.take 16) := by
  rw [hcl, List.take_zero, List.nil_append, List.drop_of_length_le (by rw [Array.length_toList, HZZ.out]; decide), List.append_nil]
  rfl
 have HROW := Lib.hid hrow
 clear hY hz2 hz0 hV3 hr0 hr1 hr2 hbb hsz1 hcs hcl hone hfit hrow
 go_wp2_with fail
 go_still_tail 2, (by kernel_rfl)
 change wpList _ _ _ _ _ V3.drew
 refine wpList_copy_own rfl (.tmp 7) (.tmp 8) 34 34 rfl 5 Tryz.underlying34 HSZ1.out (X + 1) 0 16 16 ⟨Y, 0, none⟩ 32 32 rfl rfl ZZ 41 HR31.out (bvals (F.take 16)) HCL.out HCS.out HFIT.out HONE.out ?_
 rw [HROW.out]
 generalize hV4 : World.setRow V3.drew (X + 1) _ = V4
 have hr0 : V4.heap[X]? = some (.cells ZZ 41 (0, 0)) := by rw [← hV4, setRow_other _ _ _ _ (by omega)]; exact HR30.out
 have hr1 : V4.heap[X + 1]? = some (.cells (bcells (F.take 16)) 41 (0, 0)) := by rw [← hV4]; exact setRow_heap _ _ _ _ _ _ HR31.out
 have hbb : Below X w V4 := by rw [← hV4]; exact below_row HB3.out.drew (by omega) _
 have hso3 : ZZ.size = (bcells (F.take 16)).size := by rw [HZZ.out]; exact HSO2.out
 have HSO3 := Lib.hid hso3
 have HR40 := Lib.hid hr0
 have HR41 := Lib.hid hr1
 have HB4 := Lib.hid hbb
 clear hV4 hr0 hr1 hbb hso3
 go_wp2_with (first | (refine wpList_load_row rfl 41 (.tmp 3) rfl (X + 1) rfl 41 (bcells (F.take 16)) (0, 0) _ HR41.out Tryz.underlying41 rfl HSZ2.out ?_) | (refine wpList_store_row rfl 41 (.tmp 2) (.tmp 10) rfl X (bcells (F.take 16)) rfl rfl 41 ZZ HR40.out HSZ2.out HSO3.out (bcells_one _) ?_))
 refine bodyPost_ret (v := .agg (bcells (F.take 16))) (results_cell_row rfl _ _ X 41 _ (0, 0) _ rfl (setRow_heap _ _ _ _ _ _ HR40.out) Tryz.underlying41 rfl HSZ2.out) rfl ⟨rfl, ?_⟩
 rw [HX.out]
 exact below_row HB4.out (Nat.le_refl _) _
end Go.Proofs.YtcgffkkfeimifaaGreatDoor
namespace Go.Proofs.YtcgffkkfeimifaaGreatDoor
open Go.RowKit Sha
set_option linter.unusedVariables false
set_option linter.unusedSimpArgs false
def dgs (W : Nat) : Nat → Nat → Nat → List Nat
 | 0, _, _ => []
 | f + 1, H, K => if W ≤ K then (H / 2 ^ (K - W)) % 2 ^ W :: dgs W f H (K - W) else []
def dgB (W : Nat) : Nat → Nat → List UInt8 → List Nat
 | P, K, [] => if 0 < K then [(P * 2 ^ (W - K)) % 2 ^ W] else []
 | P, K, c :: r => dgs W 4 (P * 256 + c.toNat) (K + 8) ++ dgB W ((P * 256 + c.toNat) % 2 ^ ((K + 8) % W)) ((K + 8) % W) r
def ch (al : ByteArray) (d : Nat) : UInt8 := al.data.toList.getD d 0
end Go.Proofs.YtcgffkkfeimifaaGreatDoor
namespace Go.Proofs.YtcgffkkfeimifaaGreatDoor
open Go.RowKit Sha
set_option linter.unusedVariables false
set_option linter.unusedSimpArgs false
def hexL : ByteArray := ⟨#[48, 49, 50, 51, 52, 53, 54, 55, 56, 57, 97, 98, 99, 100, 101, 102]⟩
def hexS (b : List UInt8) : List UInt8 := (dgB 4 0 0 b).map (ch hexL)
def bs (l : List UInt8) : ByteArray := ⟨l.toArray⟩
end Go.Proofs.YtcgffkkfeimifaaGreatDoor
namespace Go.Proofs.YtcgffkkfeimifaaGreatDoor
open Go.ChangeShapes Go.WideShapes Go.ChangeAt Go.RowKit Go.Joins
set_option linter.unusedVariables false
set_option maxRecDepth 100000
section
variable {H : Type} {enc : TypeId × Value → H} {w : World}
end
end Go.Proofs.YtcgffkkfeimifaaGreatDoor
namespace Go.Proofs.YtcgffkkfeimifaaGreatDoor
open Go.RowKit Sha
set_option linter.unusedVariables false
set_option linter.unusedSimpArgs false
theorem srcAt_row {w : World} {g : Nat} {l : List UInt8} {t : TypeId} {fr : Nat × Nat} (h : w.heap[g]? = some (.cells (bcells l) t fr)) : SrcAt (some ⟨g, 0, none⟩) l w := fun _ =>
 ⟨g, 0, rfl, fun j x hj => by
  obtain ⟨hlt, e⟩ := List.getElem?_eq_some_iff.1 hj
  rw [Nat.zero_add, cell_of_row w g j _ _ _ h, bcells_at _ _ hlt, List.getD_eq_getElem?_getD, hj]
  rfl⟩
def x0 : ByteArray := bs (hexS (sha []))
def x3 : ByteArray := bs (hexS (sha [97, 98, 99]))
end Go.Proofs.YtcgffkkfeimifaaGreatDoor
