/-
  THE WALK over one block: the registers after it.
-/
import Derived.Test.YtafolokkjpbieaaDoorDigB
namespace Go.Proofs.YtafolokkjpbieaaDoor
open Go.RowKit Sha
set_option linter.unusedVariables false
set_option linter.unusedSimpArgs false
set_option maxRecDepth 100000 in
set_option maxHeartbeats 4000000 in
theorem after_any (r : Regs) (x : List UInt8) (hx : x.length = 64) (w : World) (env : DEnv w) :
    Calls Tryd.prog 63 #[.agg (wcells r.list), .agg (bcells x)] w fun e w' => e = .returned (.agg (wcells (after r x).list)) ∧ Below w.heap.size w w' := by
  have hsz : (Tryd.prog.info? 90).map (·.size) = some (bcells x).size := by rw [bcells_size, hx]; kernel_rfl
  have hss : (Tryd.prog.info? 93).map (·.size) = some (wcells (sched x)).size := by rw [wcells_size, sched_len]; kernel_rfl
  have HSZ := Lib.hid hsz
  have HSS := Lib.hid hss
  have HX := Lib.hid hx
  have ENV := Lib.hid env
  obtain ⟨F, hF⟩ : ∃ F, (after r x).list = F := ⟨_, rfl⟩
  have hln : F.length = 8 := by rw [← hF, list_len]
  rw [hF]
  have HF := Lib.hid hF
  have HLN := Lib.hid hln
  clear hsz hss hx env hF hln
  go_enter Tryd.func63, Tryd.ntmps63
  go_wp2_with (refine wpList_load_row rfl 90 _ rfl (w.heap.size + 1) rfl 90 (bcells x) (0, 0) _ (heap3_mid _ _ _ _) Tryd.underlying90 rfl HSZ.out ?_)
  refine (sched_any x HX.out _).mono ?_
  rintro e v1 ⟨rfl, hb⟩
  have HB := Lib.hid hb
  clear hb
  go_wp2_with (refine wpList_store_row rfl 93 _ _ rfl v1.heap.size (wcells (sched x)) rfl rfl 93 _ (heap_alloc_new _ _) HSS.out (by rw [wcells_size, sched_len]; rfl) (wcells_one _) ?_)
  rw [World.setRow_alloc_new]
  generalize hV : World.alloc v1 _ = V
  obtain ⟨A, hA⟩ : ∃ A, w.heap.size = A := ⟨_, rfl⟩
  obtain ⟨S, hS⟩ : ∃ S, v1.heap.size = S := ⟨_, rfl⟩
  have hvA : V.heap[A]? = some (.cells (wcells r.list) 85 (0, 0)) := by
    have hz := HB.out.size
    simp at hz
    rw [← hV, Below.heap_alloc _ _ _ (by omega), ← hA, HB.out.block _ (by simp; omega)]
    exact heap3_first _ _ _ _
  have hvR : V.heap[A + 1 + 1]? = some (.cells (wcells [0, 0, 0, 0, 0, 0, 0, 0]) 85 (0, 0)) := by
    have hz := HB.out.size
    simp at hz
    rw [← hV, Below.heap_alloc _ _ _ (by omega), ← hA, HB.out.block _ (by simp)]
    exact (heap3_last _ _ _ _).trans rfl
  have hvS : V.heap[S]? = some (.cells (wcells (sched x)) 93 (0, 0)) := by
    rw [← hV, ← hS]
    exact heap_alloc_new _ _
  have hbV : Below A w V := by
    rw [← hV, ← hA]
    have h1 := HB.out.size
    simp at h1
    exact ((below3 _ _ _ _).trans (HB.out.mono (by simp; omega))).alloc (by omega) _
  have hAS : A + 1 + 1 < S := by
    have h1 := HB.out.size
    simp at h1
    omega
  simp only [hA, hS]
  have HVA := Lib.hid (OnlyB.here hvA)
  have HVR := Lib.hid hvR
  have HVS := Lib.hid hvS
  have HBV := Lib.hid hbV
  have HAS := Lib.hid hAS
  have EV : RowKit.Hid (DEnv V) := Lib.hid (by
    have h0 := ENV.out.lt0
    have h1 := ENV.out.lt1
    rw [hA] at h0 h1
    refine ENV.out.below HBV.out ?_
    have e0 : 0 < A := h0
    have e1 : 1 < A := h1
    omega)
  have HAw := Lib.hid hA
  have q : ∀ j y, r.list[j]? = some y → V.cell? ⟨A, j, none⟩ = some (.int .u32 (u y)) := fun j y hj => by
    obtain ⟨hlt, e⟩ := List.getElem?_eq_some_iff.1 hj
    rw [HVA.out.cell, wcells_at _ _ hlt, List.getD_eq_getElem?_getD, hj]
    rfl
  have q0 := q 0 r.a rfl
  have q1 := q 1 r.b rfl
  have q2 := q 2 r.c rfl
  have q3 := q 3 r.d rfl
  have q4 := q 4 r.e rfl
  have q5 := q 5 r.f rfl
  have q6 := q 6 r.g rfl
  have q7 := q 7 r.h rfl
  clear q hA hS hV hvA hvR hvS hbV hAS HB ENV
  go_quiet (fail)
  go_wp2_with fail
  go_loopw [6, 7, 8, 9, 10, 11, 12, 13, 37] (fun s6 s7 s8 s9 s10 s11 s12 s13 i wr => ∃ (k : Nat) (m : Nat) (a b c d e f g h : UInt32), k ≤ 64 ∧ i = .int .i64 (k : Int) ∧ turn (sched x) k r = ⟨a, b, c, d, e, f, g, h⟩ ∧ s6 = .int .u32 (u a) ∧ s7 = .int .u32 (u b) ∧ s8 = .int .u32 (u c) ∧ s9 = .int .u32 (u d) ∧ s10 = .int .u32 (u e) ∧ s11 = .int .u32 (u f) ∧ s12 = .int .u32 (u g) ∧ s13 = .int .u32 (u h) ∧ wr = V.drewN m) (fun _ _ _ _ _ _ _ _ i _ => 64 - (intOf i).toNat)
  case atStart => exact ⟨0, _, r.a, r.b, r.c, r.d, r.e, r.f, r.g, r.h, by omega, rfl, rfl, rfl, rfl, rfl, rfl, rfl, rfl, rfl, rfl, rfl⟩
  case round =>
    obtain ⟨k, m, a, b, c, d, e, f, g, h, hk, rfl, hturn, rfl, rfl, rfl, rfl, rfl, rfl, rfl, rfl, hwr⟩ := hrel
    have HT := Lib.hid hturn
    have HWR := Lib.hid hwr
    clear hturn hwr q0 q1 q2 q3 q4 q5 q6 q7
    by_cases hlt : k < 64
    · obtain ⟨kk, hkk⟩ : ∃ y, K.getD k 0 = y := ⟨_, rfl⟩
      obtain ⟨ww, hww⟩ : ∃ y, (sched x).getD k 0 = y := ⟨_, rfl⟩
      have ck : wr.cell? ⟨1, k, none⟩ = some (.int .u32 (u kk)) := by
        obtain ⟨t, fr, hc⟩ := EV.out.con
        rw [HWR.out, cell_of_row (V.drewN m) _ k _ t fr hc, wcells_at _ _ hlt, hkk]
      have cw : wr.cell? ⟨S, k, none⟩ = some (.int .u32 (u ww)) := by
        rw [HWR.out, cell_of_row (V.drewN m) _ k _ _ _ HVS.out, wcells_at _ _ (by rw [sched_len]; exact hlt), hww]
      have HST := Lib.hid (show turn (sched x) (k + 1) r = Sha.step ⟨a, b, c, d, e, f, g, h⟩ kk ww by rw [turn, HT.out, hkk, hww])
      have hk64 : (k : Int) < 64 := by omega
      clear hkk hww
      go_wp2_with fail
      go_quiet ((go_at_call 72; exact quiet_same (turns_e e)))
      rw [mx, u_t]
      obtain ⟨T, hT⟩ : ∃ T, h + e1 e + ((e &&& f) ^^^ (~~~ e &&& g)) + kk + ww = T := ⟨_, rfl⟩
      rw [hT]
      have HTT := Lib.hid hT
      clear hT ck cw
      generalize hv1 : World.drewN wr _ = wr1
      have HV1 : RowKit.Hid (∃ m, wr1 = V.drewN m) := Lib.hid ⟨_, by rw [← hv1, HWR.out, World.drewN_drewN]⟩
      clear hv1
      go_wp2_with fail
      refine (turns_a a _).mono ?_
      rintro e' w1 ⟨rfl, rfl⟩
      go_wp2_with fail
      go_roundw
      case rel =>
        obtain ⟨m1, hm1⟩ := HV1.out
        refine ⟨k + 1, m1, T + (e0 a + ((a &&& b) ^^^ (a &&& c) ^^^ (b &&& c))), a, b, c, d + T, e, f, g, by omega, by go_num, by rw [HST.out, step_eq, HTT.out], ?_, rfl, rfl, rfl, ?_, rfl, rfl, rfl, hm1⟩
        · rw [← u_add, ← u_u]
        · rw [← u_add]
      case measure => simp [intOf]; omega
    · have hk64 : k = 64 := by omega
      subst hk64
      have hge : ¬ ((64 : Nat) : Int) < 64 := by omega
      go_wp2_with fail
      obtain ⟨s, hs⟩ : ∃ s : Regs, s = ⟨a, b, c, d, e, f, g, h⟩ := ⟨_, rfl⟩
      have HS := Lib.hid hs
      have HV1 : RowKit.Hid (OnlyB A 85 V wr (wcells (pl r.list [a, b, c, d, e, f, g, h] 0))) := Lib.hid (by rw [HWR.out]; exact HVA.out.drewN m)
      clear hs HWR
      go_loopw [97] (fun i wr => ∃ k : Nat, k ≤ 8 ∧ i = .int .i64 (k : Int) ∧ OnlyB A 85 V wr (wcells (pl r.list [a, b, c, d, e, f, g, h] k))) (fun i _ => 8 - (intOf i).toNat)
      case atStart => exact ⟨0, by omega, rfl, HV1.out⟩
      case round =>
        obtain ⟨k, hk, rfl, hrow⟩ := hrel
        have HROW := Lib.hid hrow
        clear hrow
        by_cases hlt : k < 8
        · obtain ⟨y, hy⟩ : ∃ y, [a, b, c, d, e, f, g, h].getD k 0 = y := ⟨_, rfl⟩
          obtain ⟨z, hz⟩ : ∃ z, (pl r.list [a, b, c, d, e, f, g, h] k).getD k 0 = z := ⟨_, rfl⟩
          have hix : ∀ w, (Instr.index 85 (.agg #[.int .u32 (u a), .int .u32 (u b), .int .u32 (u c), .int .u32 (u d), .int .u32 (u e), .int .u32 (u f), .int .u32 (u g), .int .u32 (u h)]) (.int .i64 (k : Int))).run Tryd.prog w = .ok (.int .u32 (u y)) w :=
            fun w => run_index_row Tryd.underlying85 (fun _ => by kernel_rfl) (fun _ => by kernel_rfl) k hlt (by rw [← hy]; exact wcells_at [a, b, c, d, e, f, g, h] k hlt) w
          have hc := HROW.out.cell k
          rw [wcells_at _ _ (by rw [pl_len, list_len]; omega), hz] at hc
          have hf := HROW.out.free k
          have HY := Lib.hid hy
          have HZ := Lib.hid hz
          have hk8 : (k : Int) < 8 := by omega
          clear hy hz
          go_wp2_with fail
          go_roundw
          case rel =>
            refine ⟨k + 1, by omega, by go_num, ?_⟩
            have h1 := HROW.out.set k (.int .u32 (u (z + y)))
            rw [wcells_set] at h1
            rw [u_add, pl, HY.out, HZ.out]
            exact h1
          case measure => simp [intOf]; omega
        · have hk8 : k = 8 := by omega
          subst hk8
          have hge : ¬ ((8 : Nat) : Int) < 8 := by omega
          have hfin : pl r.list [a, b, c, d, e, f, g, h] 8 = (after r x).list := by
            show pl r.list (Regs.list ⟨a, b, c, d, e, f, g, h⟩) 8 = _
            rw [pl_all]
            unfold after
            rw [HT.out]
          have hgA := HROW.out.own
          rw [hfin] at hgA
          have hln : F.length = 8 := HLN.out
          clear hfin
          rw [HF.out] at hgA
          have hgR : wr.heap[A + 1 + 1]? = some (.cells (wcells [0, 0, 0, 0, 0, 0, 0, 0]) 85 (0, 0)) := (HROW.out.oth (A + 1 + 1) (by omega)).trans HVR.out
          have hsz : (Tryd.prog.info? 85).map (·.size) = some (wcells F).size := by rw [wcells_size, hln]; kernel_rfl
          have hso : (wcells [0, 0, 0, 0, 0, 0, 0, 0]).size = (wcells F).size := by rw [wcells_size, wcells_size, hln]; rfl
          have HGA := Lib.hid hgA
          have HGR := Lib.hid hgR
          have HSW := Lib.hid hsz
          have HSO := Lib.hid hso
          have hbl := HBV.out.trans (HROW.out.below (n := A) (Nat.le_refl _))
          have HBL := Lib.hid hbl
          clear hgA hgR hsz hbl hso hln
          go_wp2_with (first | (refine wpList_load_row rfl 85 _ rfl A rfl 85 (wcells F) (0, 0) _ HGA.out Tryd.underlying85 rfl HSW.out ?_) | (refine wpList_store_row rfl 85 _ _ rfl (A + 1 + 1) (wcells F) rfl rfl 85 (wcells [0, 0, 0, 0, 0, 0, 0, 0]) HGR.out HSW.out HSO.out (wcells_one _) ?_))
          refine bodyPost_ret (v := .agg (wcells F)) (results_cell_row rfl _ _ (A + 1 + 1) 85 _ (0, 0) _ rfl (setRow_heap _ _ _ _ _ _ HGR.out) Tryd.underlying85 rfl HSW.out) rfl ⟨rfl, ?_⟩
          rw [HAw.out]
          exact below_row HBL.out (by omega) _
end Go.Proofs.YtafolokkjpbieaaDoor
