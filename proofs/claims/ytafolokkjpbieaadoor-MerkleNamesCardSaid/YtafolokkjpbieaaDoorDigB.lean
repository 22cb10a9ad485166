/-
  THE WALK over the schedule of a block.
-/
import Derived.Test.YtafolokkjpbieaaDoorDigA
namespace Go.Proofs.YtafolokkjpbieaaDoor
open Go.RowKit Sha
set_option linter.unusedVariables false
set_option linter.unusedSimpArgs false
set_option maxRecDepth 100000 in
set_option maxHeartbeats 2000000 in
theorem sched_any (x : List UInt8) (hx : x.length = 64) (w : World) :
    Calls Tryd.prog 71 #[.agg (bcells x)] w fun e w' => e = .returned (.agg (wcells (sched x))) ∧ Below w.heap.size w w' := by
  have hsz : (Tryd.prog.info? 90).map (·.size) = some (bcells x).size := by rw [bcells_size, hx]; kernel_rfl
  have HSZ := Lib.hid hsz
  have HX := Lib.hid hx
  clear hsz hx
  go_enter Tryd.func71, Tryd.ntmps71
  go_wp2_with (refine wpList_load_row rfl 90 _ rfl w.heap.size rfl 90 (bcells x) (0, 0) _ (by repeat (first | exact heap_alloc_new _ _ | rw [Below.heap_alloc _ _ _ (by simp <;> omega)])) Tryd.underlying90 rfl HSZ.out ?_)
  obtain ⟨B, hB⟩ : ∃ B, w.heap.size + 1 + 1 = B := ⟨_, rfl⟩
  obtain ⟨R, hR⟩ : ∃ R, w.heap.size + 1 = R := ⟨_, rfl⟩
  rw [hR] at hB
  simp only [hR, hB]
  generalize hV : World.alloc (World.alloc (World.alloc w _) _) _ = V
  have hVB : V.heap[B]? = some (.cells (wcells (pw x 0)) 93 (0, 0)) := by
    rw [← hV, ← hB, ← hR]
    exact (heap3_last _ _ _ _).trans rfl
  have hVR : V.heap[R]? = some (.cells (wcells (pw x 0)) 93 (0, 0)) := by
    rw [← hV, ← hR]
    exact (heap3_mid _ _ _ _).trans rfl
  have hbV : Below w.heap.size w V := by rw [← hV]; exact below3 _ _ _ _
  have hRB : w.heap.size < R ∧ R < B := by omega
  have HVB := Lib.hid (OnlyB.here hVB)
  have HVR := Lib.hid hVR
  have HBV := Lib.hid hbV
  have HRB := Lib.hid hRB
  clear hB hR hV hVB hVR hbV hRB
  go_loopw [10] (fun i wr => ∃ k : Nat, k ≤ 64 ∧ i = .int .i64 (k : Int) ∧ OnlyB B 93 V wr (wcells (pw x k))) (fun i _ => 64 - (intOf i).toNat)
  case atStart => exact ⟨0, by omega, rfl, HVB.out⟩
  case round =>
    obtain ⟨k, hk, rfl, hrow⟩ := hrel
    have HROW := Lib.hid hrow
    clear hrow
    by_cases hlt : k < 64
    · have hix : ∀ w, (Instr.index 90 (.agg (bcells x)) (.int .i64 (k : Int))).run Tryd.prog w = .ok (.int .u8 ((x.getD k 0).toNat : Int)) w :=
        fun w => run_index_row Tryd.underlying90 (fun _ => by kernel_rfl) (fun _ => by kernel_rfl) k hlt (bcells_at x k (by rw [HX.out]; exact hlt)) w
      have hc := HROW.out.cell (k / 4)
      rw [wcells_at _ _ (by rw [pw_len]; omega)] at hc
      have hf := HROW.out.free (k / 4)
      obtain ⟨a, ha⟩ : ∃ a, (pw x k).getD (k / 4) 0 = a := ⟨_, rfl⟩
      obtain ⟨c, hcc⟩ : ∃ c, x.getD k 0 = c := ⟨_, rfl⟩
      rw [ha] at hc
      rw [hcc] at hix
      have HA := Lib.hid ha
      have HC := Lib.hid hcc
      have hc8 : c.toNat < 256 := c.toNat_lt
      clear ha hcc
      go_wp2_with fail
      go_roundw
      case rel =>
        refine ⟨k + 1, by omega, by go_num, ?_⟩
        have h := HROW.out.set (k / 4) (.int .u32 (u (takeIn a c)))
        rw [wcells_set] at h
        rw [u_takeIn]
        rw [pw, HA.out, HC.out]
        exact h
      case measure => simp [intOf]; omega
    · have hk64 : k = 64 := by omega
      subst hk64
      have hge : ¬ ((64 : Nat) : Int) < 64 := by omega
      go_wp2_with fail
      go_loopw [6] (fun v wr => ∃ i : Nat, 16 ≤ i ∧ i ≤ 64 ∧ v = .int .i64 (i : Int) ∧ OnlyB B 93 V wr (wcells (mo x (i - 16)))) (fun v _ => 64 - (intOf v).toNat)
      case atStart => exact ⟨16, by omega, by omega, rfl, HROW.out⟩
      case round =>
        obtain ⟨i, hi1, hi2, rfl, hrow⟩ := hrel
        clear HROW
        have HROW := Lib.hid hrow
        clear hrow
        by_cases hlt : i < 64
        · obtain ⟨p2, hp2⟩ : ∃ a, (mo x (i - 16)).getD (i - 2) 0 = a := ⟨_, rfl⟩
          obtain ⟨p7, hp7⟩ : ∃ a, (mo x (i - 16)).getD (i - 7) 0 = a := ⟨_, rfl⟩
          obtain ⟨p15, hp15⟩ : ∃ a, (mo x (i - 16)).getD (i - 15) 0 = a := ⟨_, rfl⟩
          obtain ⟨p16, hp16⟩ : ∃ a, (mo x (i - 16)).getD (i - 16) 0 = a := ⟨_, rfl⟩
          have c2 := HROW.out.cell (i - 2)
          have c7 := HROW.out.cell (i - 7)
          have c15 := HROW.out.cell (i - 15)
          have c16 := HROW.out.cell (i - 16)
          rw [wcells_at _ _ (by rw [mo_len]; omega), hp2] at c2
          rw [wcells_at _ _ (by rw [mo_len]; omega), hp7] at c7
          rw [wcells_at _ _ (by rw [mo_len]; omega), hp15] at c15
          rw [wcells_at _ _ (by rw [mo_len]; omega), hp16] at c16
          have ci := HROW.out.cell i
          rw [wcells_at _ _ (by rw [mo_len]; omega)] at ci
          have fi := HROW.out.free i
          have HP := Lib.hid (show newW (mo x (i - 16)) i = s1 p2 + p7 + s0 p15 + p16 by unfold newW; rw [hp2, hp7, hp15, hp16])
          have hi64 : (i : Int) < 64 := by omega
          obtain ⟨q, hq⟩ : ∃ q, (mo x (i - 16)).getD i 0 = q := ⟨_, rfl⟩
          rw [hq] at ci
          have HC2 := Lib.hid c2
          have HC7 := Lib.hid c7
          have HC15 := Lib.hid c15
          have HC16 := Lib.hid c16
          have HCi := Lib.hid ci
          have HFi := Lib.hid fi
          clear hp2 hp7 hp15 hp16 hq c7 c15 c16 ci fi
          go_wp2_with fail
          go_quiet (first | (go_at_call 73; exact quiet_same (right_17 p2)) | (go_at_call 73; exact quiet_same (right_19 p2)))
          rw [u_s1]
          generalize hv1 : World.drewN wr _ = wr1
          have HV1 : RowKit.Hid (OnlyB B 93 V wr1 (wcells (mo x (i - 16)))) := Lib.hid (by rw [← hv1]; exact HROW.out.drewN _)
          have c15 : wr1.cell? ⟨B, i - 15, none⟩ = some (.int .u32 (u p15)) := by rw [← hv1]; exact HC15.out
          clear hv1 c2
          go_wp2_with fail
          go_quiet (first | (go_at_call 73; exact quiet_same (right_7 p15)) | (go_at_call 73; exact quiet_same (right_18 p15)))
          rw [u_s0]
          generalize hv2 : World.drewN wr1 _ = wr2
          have HV2 : RowKit.Hid (OnlyB B 93 V wr2 (wcells (mo x (i - 16)))) := Lib.hid (by rw [← hv2]; exact HV1.out.drewN _)
          have hcc : ∀ j : Nat, wr2.cell? ⟨B, j, none⟩ = wr.cell? ⟨B, j, none⟩ := fun j => (HV2.out.cell j).trans (HROW.out.cell j).symm
          have hff := HV2.out.free i
          have c7 : wr2.cell? ⟨B, i - 7, none⟩ = some (.int .u32 (u p7)) := (hcc _).trans HC7.out
          have c16 : wr2.cell? ⟨B, i - 16, none⟩ = some (.int .u32 (u p16)) := (hcc _).trans HC16.out
          have ci : wr2.cell? ⟨B, i, none⟩ = some (.int .u32 (u q)) := (hcc _).trans HCi.out
          clear hv2 c15 hcc
          go_wp2_with fail
          have w7 : IntKind.i64.wrap ((i : Int) - 7) = (i : Int) - 7 := IntWalk.i64_in _ (by omega)
          have w16 : IntKind.i64.wrap ((i : Int) - 16) = (i : Int) - 16 := IntWalk.i64_in _ (by omega)
          have n7 : ((i : Int) - 7).toNat = i - 7 := by omega
          have n16 : ((i : Int) - 16).toNat = i - 16 := by omega
          have l7 : (7 : Int) ≤ (i : Int) := by omega
          have l16 : (16 : Int) ≤ (i : Int) := by omega
          have g7 : (i : Int) - 7 < 64 := by omega
          have g16 : (i : Int) - 16 < 64 := by omega
          go_still_tail 15, (by kernel_rfl)
          change wpList _ _ _ _ _ wr2.drew
          clear w7 w16 n7 n16 l7 l16 g7 g16
          go_wp2_with fail
          go_roundw
          case rel =>
            refine ⟨i + 1, by omega, by omega, by go_num, ?_⟩
            have h := (HV2.out.set i (.int .u32 (u (s1 p2 + p7 + s0 p15 + p16)))).drew
            rw [wcells_set] at h
            rw [u_add4, mo_step x i (by omega), HP.out]
            exact h
          case measure => simp [intOf]; omega
        · have hi64 : i = 64 := by omega
          subst hi64
          have hge : ¬ ((64 : Nat) : Int) < 64 := by omega
          have hgB := HROW.out.own
          have hgR : wr.heap[R]? = some (.cells (wcells (pw x 0)) 93 (0, 0)) := (HROW.out.oth R (by have := HRB.out; omega)).trans HVR.out
          have hsz : (Tryd.prog.info? 93).map (·.size) = some (wcells (mo x 48)).size := by rw [wcells_size, mo_len]; kernel_rfl
          have hso : (wcells (pw x 0)).size = (wcells (mo x 48)).size := by rw [wcells_size, wcells_size, mo_len, pw_len]
          have HGB := Lib.hid hgB
          have HGR := Lib.hid hgR
          have HSO := Lib.hid hso
          have HSW := Lib.hid hsz
          clear hgB hgR hsz hso
          go_wp2_with (first | (refine wpList_load_row rfl 93 _ rfl B rfl 93 (wcells (mo x 48)) (0, 0) _ HGB.out Tryd.underlying93 rfl HSW.out ?_) | (refine wpList_store_row rfl 93 _ _ rfl R (wcells (mo x 48)) rfl rfl 93 (wcells (pw x 0)) HGR.out HSW.out HSO.out (wcells_one _) ?_))
          refine bodyPost_ret (v := .agg (wcells (mo x 48))) (results_cell_row rfl _ _ R 93 _ (0, 0) _ rfl (setRow_heap _ _ _ _ _ _ HGR.out) Tryd.underlying93 rfl HSW.out) rfl ⟨rfl, ?_⟩
          have h1 := HBV.out.trans (HROW.out.below (n := w.heap.size) (by have := HRB.out; omega))
          exact below_row h1 (by have := HRB.out; omega) _
end Go.Proofs.YtafolokkjpbieaaDoor
