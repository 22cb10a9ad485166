/-
  THE WALKS over Sum and Short.
-/
import Derived.Test.YtafolokkjpbieaaDoorDigH
namespace Go.Proofs.YtafolokkjpbieaaDoor
open Go.RowKit Sha
set_option linter.unusedVariables false
set_option linter.unusedSimpArgs false
set_option maxRecDepth 100000 in
set_option maxHeartbeats 1000000 in
theorem sum_any (l : List UInt8) (A : Option Addr) (c : Nat) (hl : l.length ≤ 100000) (hc : l.length ≤ c) (hcm : c ≤ maxLen) (w : World) (hs : SrcAt A l w) (env : DEnv w) :
    Calls Tryd.prog 47 #[.slice A l.length c] w fun e w' => e = .returned (.agg (bcells (sha l))) ∧ Below w.heap.size w w' := by
  obtain ⟨F, hF⟩ : ∃ F, sha l = F := ⟨_, rfl⟩
  have hF32 : F.length = 32 := by rw [← hF]; exact hp_len _ _
  rw [hF]
  obtain ⟨v, hv⟩ : ∃ v, Value.slice A l.length c = v := ⟨_, rfl⟩
  have hv1 : v.oneCell' = true := by rw [← hv]; rfl
  have hjoin : ∀ V : World, Below w.heap.size w V → ∀ X, w.heap.size ≤ X → V.cell? ⟨X, 0, none⟩ = some v → Calls Tryd.prog 60 #[.slice (some ⟨X, 0, none⟩) 1 1] V fun e w' => e = .returned (.agg (bcells F)) ∧ Below V.heap.size V w' := by
    intro V hb X hX hcell
    have h := join_any [l] (some ⟨X, 0, none⟩) 1 (fun _ => (A, c)) (by simpa using hl) (by simp) (by simp) V ⟨?_, ?_⟩ (env.on hb)
    · simp only [List.flatten_cons, List.flatten_nil, List.append_nil, hF, List.length_cons, List.length_nil] at h
      exact h
    · intro j x hj
      match j, hj with
      | 0, hj =>
        have : l = x := by simpa using hj
        subst this
        refine ⟨X, 0, rfl, ?_, hs.on hb⟩
        rw [hv]
        exact hcell
      | j + 1, hj => simp at hj
    · intro j x hj
      match j, hj with
      | 0, hj =>
        have : l = x := by simpa using hj
        subst this
        exact ⟨hc, hcm⟩
      | j + 1, hj => simp at hj
  rw [hv]
  have HJ := Lib.hid hjoin
  have hsz : (Tryd.prog.info? 76).map (·.size) = some (bcells F).size := by rw [bcells_size, hF32]; kernel_rfl
  have hso : (32 : Nat) = (bcells F).size := by rw [bcells_size, hF32]
  have HSZ := Lib.hid hsz
  have HSO := Lib.hid hso
  have HV1 := Lib.hid hv1
  have HV := Lib.hid hv
  obtain ⟨A', n', c', hv2⟩ : ∃ A' n' c', v = .slice A' n' c' := ⟨_, _, _, hv.symm⟩
  subst hv2
  clear hF hF32 hjoin hsz hso hv1 hv hs env
  go_enter Tryd.func47, Tryd.ntmps47
  go_upto_region 1 with (fail)
  generalize hV : World.alloc w _ = V
  have hb0 : Below w.heap.size w V := by rw [← hV]; exact below_new _ _
  have hr0 : V.heap[w.heap.size]? = some (.cells (bcells (List.replicate 32 0)) 76 (0, 0)) := by rw [← hV]; exact (heap_alloc_new _ _).trans rfl
  have hz0 : V.heap.size = w.heap.size + 1 := by rw [← hV]; simp
  have HB0 := Lib.hid hb0
  have HR0 := Lib.hid hr0
  have HZ0 := Lib.hid hz0
  clear hV hb0 hr0 hz0
  go_wp2_with fail
  have hz0 := HZ0.out
  refine (HJ.out _ (HB0.out.alloc (by omega) _) V.heap.size (by omega) (by simp)).mono ?_
  rintro e V2 ⟨rfl, hb2⟩
  have HB2 := Lib.hid hb2
  have hr2 : V2.heap[w.heap.size]? = some (.cells (bcells (List.replicate 32 0)) 76 (0, 0)) := by
    rw [hb2.block _ (by simp; omega), Below.heap_alloc _ _ _ (by omega)]
    exact HR0.out
  have hb3 : Below w.heap.size w V2 := (HB0.out.alloc (by omega) _).trans (hb2.mono (by simp; omega))
  have HR2 := Lib.hid hr2
  have HB3 := Lib.hid hb3
  clear hb2 hr2 hb3 hz0 HB2
  go_wp2_with (refine wpList_store_row rfl 76 (.tmp 2) (.tmp 5) rfl w.heap.size (bcells F) rfl rfl 76 _ HR2.out HSZ.out HSO.out (bcells_one _) ?_)
  refine bodyPost_ret (v := .agg (bcells F)) (results_cell_row rfl _ _ w.heap.size 76 _ (0, 0) _ rfl (setRow_heap _ _ _ _ _ _ HR2.out) Tryd.underlying76 rfl HSZ.out) rfl ⟨rfl, ?_⟩
  exact below_row HB3.out (Nat.le_refl _) _
theorem slice_short (X : Nat) (w : World) : (Instr.sliceAt 23 (.pointer (some ⟨X, 0, none⟩)) none none none).run Tryd.prog w = .ok (.slice (some ⟨X, 0, none⟩) 16 16) w := by
  have ha : Tryd.prog.arrayLen 23 = 16 := by kernel_rfl
  have h := run_sliceAt_array_all (P := Tryd.prog) w 23 ⟨X, 0, none⟩ (by kernel_rfl)
  have hs : ∀ w, (sizeOf (Tryd.prog.elem 23)).run Tryd.prog w = .ok 1 w := fun _ => by kernel_rfl
  rw [h, hs, ha]
  rfl
theorem slice_hash (X : Nat) (w : World) : (Instr.sliceAt 76 (.pointer (some ⟨X, 0, none⟩)) none none none).run Tryd.prog w = .ok (.slice (some ⟨X, 0, none⟩) 32 32) w := by
  have ha : Tryd.prog.arrayLen 76 = 32 := by kernel_rfl
  have h := run_sliceAt_array_all (P := Tryd.prog) w 76 ⟨X, 0, none⟩ (by kernel_rfl)
  have hs : ∀ w, (sizeOf (Tryd.prog.elem 76)).run Tryd.prog w = .ok 1 w := fun _ => by kernel_rfl
  rw [h, hs, ha]
  rfl
set_option maxRecDepth 100000 in
set_option maxHeartbeats 1000000 in
theorem short_any (l : List UInt8) (A : Option Addr) (c : Nat) (hl : l.length ≤ 100000) (hc : l.length ≤ c) (hcm : c ≤ maxLen) (w : World) (hs : SrcAt A l w) (env : DEnv w) :
    Calls Tryd.prog 30 #[.slice A l.length c] w fun e w' => e = .returned (.agg (bcells ((sha l).take 16))) ∧ Below w.heap.size w w' := by
  have hsum : ∀ V : World, Below w.heap.size w V → Calls Tryd.prog 47 #[.slice A l.length c] V fun e w' => e = .returned (.agg (bcells (sha l))) ∧ Below V.heap.size V w' := fun V hb => sum_any l A c hl hc hcm V (hs.on hb) (env.on hb)
  obtain ⟨F, hF⟩ : ∃ F, sha l = F := ⟨_, rfl⟩
  have hF32 : F.length = 32 := by rw [← hF]; exact hp_len _ _
  rw [hF] at hsum ⊢
  obtain ⟨n, hn⟩ : ∃ n, l.length = n := ⟨_, rfl⟩
  rw [hn] at hsum ⊢
  have HS := Lib.hid hsum
  have hsz : (Tryd.prog.info? 76).map (·.size) = some (bcells F).size := by rw [bcells_size, hF32]; kernel_rfl
  have hso : (32 : Nat) = (bcells F).size := by rw [bcells_size, hF32]
  have hsz2 : (Tryd.prog.info? 23).map (·.size) = some (bcells (F.take 16)).size := by rw [bcells_size, List.length_take, hF32]; kernel_rfl
  have hso2 : (16 : Nat) = (bcells (F.take 16)).size := by rw [bcells_size, List.length_take, hF32]; rfl
  have HSZ := Lib.hid hsz
  have HSO := Lib.hid hso
  have HSZ2 := Lib.hid hsz2
  have HSO2 := Lib.hid hso2
  have HF32 := Lib.hid hF32
  clear hF hn hs env hl hc hcm hsum hsz hso hsz2 hso2 hF32
  go_enter Tryd.func30, Tryd.ntmps30
  go_upto_region 2 with (fail)
  obtain ⟨X, hX⟩ : ∃ X, w.heap.size = X := ⟨_, rfl⟩
  simp only [hX]
  generalize hV : World.alloc (World.alloc w _) _ = V
  have hb0 : Below X w V := by rw [← hV, ← hX]; exact (below_new _ _).alloc (by simp) _
  have hr0 : V.heap[X]? = some (.cells (bcells (List.replicate 16 0)) 23 (0, 0)) := by
    rw [← hV, ← hX, Below.heap_alloc _ _ _ (by simp)]; exact (heap_alloc_new _ _).trans rfl
  have hr1 : V.heap[X + 1]? = some (.cells (bcells (List.replicate 16 0)) 23 (0, 0)) := by
    rw [← hV, ← hX]
    have h := heap_alloc_new (w.alloc (.cells (bcells (List.replicate 16 0)) 23)) (.cells (bcells (List.replicate 16 0)) 23)
    rw [World.size_alloc] at h
    exact h.trans rfl
  have hz0 : V.heap.size = X + 1 + 1 := by rw [← hV, ← hX]; simp
  obtain ⟨ZZ, hZZ⟩ : ∃ ZZ, bcells (List.replicate 16 0) = ZZ := ⟨_, rfl⟩
  have hzz : ZZ.size = 16 := by rw [← hZZ]; rfl
  rw [hZZ] at hr0 hr1
  have HB0 := Lib.hid hb0
  have HR0 := Lib.hid hr0
  have HR1 := Lib.hid hr1
  have HZ0 := Lib.hid hz0
  have HX := Lib.hid hX
  have HZZ := Lib.hid hzz
  clear hV hb0 hr0 hr1 hz0 hX hZZ hzz
  go_wp2_with fail
  refine (HS.out _ (by rw [HX.out]; exact HB0.out)).mono ?_
  rintro e V2 ⟨rfl, hb2⟩
  have hz0 := HZ0.out
  have hr0 : V2.heap[X]? = some (.cells ZZ 23 (0, 0)) := (hb2.block _ (by omega)).trans HR0.out
  have hr1 : V2.heap[X + 1]? = some (.cells ZZ 23 (0, 0)) := (hb2.block _ (by omega)).trans HR1.out
  have hz2 := hb2.size
  have hbb : Below X w V2 := HB0.out.trans (hb2.mono (by omega))
  have HR20 := Lib.hid hr0
  have HR21 := Lib.hid hr1
  have HZ2 := Lib.hid hz2
  have HBB := Lib.hid hbb
  clear hb2 hr0 hr1 hz2 hz0 hbb
  go_wp2_with (refine wpList_store_row rfl 76 (.tmp 4) (.tmp 6) rfl V2.heap.size (bcells F) rfl rfl 76 _ (heap_alloc_new _ _) HSZ.out HSO.out (bcells_one _) ?_)
  rw [World.setRow_alloc_new]
  obtain ⟨Y, hY⟩ : ∃ Y, V2.heap.size = Y := ⟨_, rfl⟩
  have hz2 := HZ2.out
  have hz0 := HZ0.out
  simp only [hY]
  generalize hV3 : World.alloc V2 _ = V3
  have hr0 : V3.heap[X]? = some (.cells ZZ 23 (0, 0)) := by rw [← hV3, Below.heap_alloc _ _ _ (by omega)]; exact HR20.out
  have hr1 : V3.heap[X + 1]? = some (.cells ZZ 23 (0, 0)) := by rw [← hV3, Below.heap_alloc _ _ _ (by omega)]; exact HR21.out
  have hr2 : V3.heap[Y]? = some (.cells (bcells F) 76 (0, 0)) := by rw [← hV3, ← hY]; exact heap_alloc_new _ _
  have hbb : Below X w V3 := by rw [← hV3]; exact HBB.out.alloc (by omega) _
  have HR30 := Lib.hid hr0
  have HR31 := Lib.hid hr1
  have HR32 := Lib.hid hr2
  have HB3 := Lib.hid hbb
  have s1 := slice_short (X + 1)
  have s2 := slice_hash Y
  have hsz1 : (Tryd.prog.info? 5).map (·.size) = some 1 := by kernel_rfl
  have HSZ1 := Lib.hid hsz1
  have hcs : ∀ j v, (bvals (F.take 16))[j]? = some v → V3.drew.cell? ((⟨Y, 0, none⟩ : Addr).add j) = some v := fun j v hj => by
    unfold bvals at hj
    rw [List.getElem?_map] at hj
    obtain ⟨x, hx, rfl⟩ := Option.map_eq_some_iff.1 hj
    rw [add_eq, Nat.zero_add, cell_of_row V3.drew _ j _ _ _ hr2]
    have h16 : j < 16 := by
      have := (List.getElem?_eq_some_iff.1 hx).1
      simp at this
      omega
    rw [List.getElem?_take, if_pos h16] at hx
    rw [bcells_at _ _ (by rw [HF32.out]; omega), List.getD_eq_getElem?_getD, hx]
    rfl
  have hcl : (bvals (F.take 16)).length = Nat.min 32 16 := by rw [bvals_len, List.length_take, HF32.out]; rfl
  have hone : ∀ v ∈ bvals (F.take 16), v.oneCell' = true := fun v hv => by
    unfold bvals at hv
    obtain ⟨x, _, rfl⟩ := List.mem_map.1 hv
    rfl
  have hfit : 0 + (bvals (F.take 16)).length ≤ ZZ.size := by rw [hcl, HZZ.out]; decide
  have HCS := Lib.hid hcs
  have HCL := Lib.hid hcl
  have HONE := Lib.hid hone
  have HFIT := Lib.hid hfit
  have hrow : (ZZ.toList.take 0 ++ (bvals (F.take 16) ++ ZZ.toList.drop (0 + (bvals (F.take 16)).length))).toArray = bcells (F.take 16) := by
    rw [hcl, List.take_zero, List.nil_append, List.drop_of_length_le (by rw [Array.length_toList, HZZ.out]; decide), List.append_nil]
    rfl
  have HROW := Lib.hid hrow
  clear hY hz2 hz0 hV3 hr0 hr1 hr2 hbb hsz1 hcs hcl hone hfit hrow
  go_wp2_with fail
  go_still_tail 2, (by kernel_rfl)
  change wpList _ _ _ _ _ V3.drew
  refine wpList_copy_own rfl (.tmp 7) (.tmp 8) 42 42 rfl 5 Tryd.underlying42 HSZ1.out (X + 1) 0 16 16 ⟨Y, 0, none⟩ 32 32 rfl rfl ZZ 23 HR31.out (bvals (F.take 16)) HCL.out HCS.out HFIT.out HONE.out ?_
  rw [HROW.out]
  generalize hV4 : World.setRow V3.drew (X + 1) _ = V4
  have hr0 : V4.heap[X]? = some (.cells ZZ 23 (0, 0)) := by rw [← hV4, setRow_other _ _ _ _ (by omega)]; exact HR30.out
  have hr1 : V4.heap[X + 1]? = some (.cells (bcells (F.take 16)) 23 (0, 0)) := by rw [← hV4]; exact setRow_heap _ _ _ _ _ _ HR31.out
  have hbb : Below X w V4 := by rw [← hV4]; exact below_row HB3.out.drew (by omega) _
  have hso3 : ZZ.size = (bcells (F.take 16)).size := by rw [HZZ.out]; exact HSO2.out
  have HSO3 := Lib.hid hso3
  have HR40 := Lib.hid hr0
  have HR41 := Lib.hid hr1
  have HB4 := Lib.hid hbb
  clear hV4 hr0 hr1 hbb hso3
  go_wp2_with (first | (refine wpList_load_row rfl 23 (.tmp 3) rfl (X + 1) rfl 23 (bcells (F.take 16)) (0, 0) _ HR41.out Tryd.underlying23 rfl HSZ2.out ?_) | (refine wpList_store_row rfl 23 (.tmp 2) (.tmp 10) rfl X (bcells (F.take 16)) rfl rfl 23 ZZ HR40.out HSZ2.out HSO3.out (bcells_one _) ?_))
  refine bodyPost_ret (v := .agg (bcells (F.take 16))) (results_cell_row rfl _ _ X 23 _ (0, 0) _ rfl (setRow_heap _ _ _ _ _ _ HR40.out) Tryd.underlying23 rfl HSZ2.out) rfl ⟨rfl, ?_⟩
  rw [HX.out]
  exact below_row HB4.out (Nat.le_refl _) _
end Go.Proofs.YtafolokkjpbieaaDoor
