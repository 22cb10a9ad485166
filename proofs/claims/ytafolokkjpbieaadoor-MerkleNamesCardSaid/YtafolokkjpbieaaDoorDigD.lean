/-
  THE WALKS over the bytes of the registers, and over what is added to bytes.
-/
import Derived.Test.YtafolokkjpbieaaDoorDigC
namespace Go.Proofs.YtafolokkjpbieaaDoor
open Go.RowKit Sha
set_option linter.unusedVariables false
set_option linter.unusedSimpArgs false
set_option maxRecDepth 100000 in
set_option maxHeartbeats 4000000 in
theorem hash_any (r : Regs) (w : World) :
    Calls Tryd.prog 64 #[.agg (wcells r.list)] w fun e w' => e = .returned (.agg (bcells r.hash)) ∧ Below w.heap.size w w' := by
  obtain ⟨l, hl⟩ : ∃ l, r.list = l := ⟨_, rfl⟩
  have hl8 : l.length = 8 := by rw [← hl]; rfl
  obtain ⟨F, hF⟩ : ∃ F, r.hash = F := ⟨_, rfl⟩
  have hF2 : hp l 32 = F := by rw [← hl]; exact hF
  have hFl : F.length = 32 := by rw [← hF2, hp_len]
  rw [hl, hF]
  have HF := Lib.hid hF2
  have HFL := Lib.hid hFl
  have HL := Lib.hid hl8
  clear hl hF hF2 hFl hl8
  go_enter Tryd.func64, Tryd.ntmps64
  go_wp2_with fail
  obtain ⟨A, hA⟩ : ∃ A, w.heap.size = A := ⟨_, rfl⟩
  have hsA : (((w.alloc (.cells (wcells l) 85)).alloc (.cells (bcells (hp l 0)) 76)).alloc (.cells (bcells (hp l 0)) 76)).heap[A + 1 + 1]? = some (.cells (bcells (hp l 0)) 76 (0, 0)) := by rw [← hA]; exact heap3_last _ _ _ _
  simp only [hA]
  generalize hV : World.alloc (World.alloc (World.alloc w _) _) _ = V
  have hvA : V.heap[A]? = some (.cells (wcells l) 85 (0, 0)) := by rw [← hV, ← hA]; exact heap3_first _ _ _ _
  have hvR : V.heap[A + 1]? = some (.cells (bcells (hp l 0)) 76 (0, 0)) := by rw [← hV, ← hA]; exact (heap3_mid _ _ _ _).trans rfl
  have hvH : V.heap[A + 1 + 1]? = some (.cells (bcells (hp l 0)) 76 (0, 0)) := by rw [← hV, ← hA]; exact (heap3_last _ _ _ _).trans rfl
  have hbV : Below A w V := by rw [← hV, ← hA]; exact below3 _ _ _ _
  have HVA := Lib.hid hvA
  have HVR := Lib.hid hvR
  have HVH := Lib.hid (OnlyB.here hvH)
  have HBV := Lib.hid hbV
  have HA := Lib.hid hA
  clear hA hV hvA hvR hvH hbV hsA
  go_loopw [6] (fun i wr => ∃ k : Nat, k ≤ 32 ∧ i = .int .i64 (k : Int) ∧ OnlyB (A + 1 + 1) 76 V wr (bcells (hp l k))) (fun i _ => 32 - (intOf i).toNat)
  case atStart => exact ⟨0, by omega, rfl, HVH.out⟩
  case round =>
    obtain ⟨k, hk, rfl, hrow⟩ := hrel
    have HROW := Lib.hid hrow
    clear hrow
    by_cases hlt : k < 32
    · obtain ⟨y, hy⟩ : ∃ y, l.getD (k / 4) 0 = y := ⟨_, rfl⟩
      obtain ⟨z, hz⟩ : ∃ z, (hp l k).getD k 0 = z := ⟨_, rfl⟩
      have hc : wr.cell? ⟨A, k / 4, none⟩ = some (.int .u32 (u y)) := by
        rw [cell_of_row wr A (k / 4) _ _ _ ((HROW.out.oth A (by omega)).trans HVA.out), wcells_at _ _ (by rw [HL.out]; omega), hy]
      have hd := HROW.out.cell k
      rw [bcells_at _ _ (by rw [hp_len]; omega), hz] at hd
      have hf := HROW.out.free k
      have HB := Lib.hid (u_byte l k)
      have HY := Lib.hid hy
      have hk32 : (k : Int) < 32 := by omega
      clear hy hz
      go_wp2_with fail
      go_roundw
      case rel =>
        refine ⟨k + 1, by omega, by go_num, ?_⟩
        have h := HROW.out.set k (.int .u8 ((byteAt l k).toNat : Int))
        rw [bcells_set] at h
        rw [← HY.out, HB.out, hp]
        exact h
      case measure => simp [intOf]; omega
    · have hk32 : k = 32 := by omega
      subst hk32
      have hge : ¬ ((32 : Nat) : Int) < 32 := by omega
      have hgH := HROW.out.own
      rw [HF.out] at hgH
      have hgR : wr.heap[A + 1]? = some (.cells (bcells (hp l 0)) 76 (0, 0)) := (HROW.out.oth (A + 1) (by omega)).trans HVR.out
      have hsz : (Tryd.prog.info? 76).map (·.size) = some (bcells F).size := by rw [bcells_size, HFL.out]; kernel_rfl
      have hso : (bcells (hp l 0)).size = (bcells F).size := by rw [bcells_size, bcells_size, HFL.out, hp_len]
      have HGH := Lib.hid hgH
      have HGR := Lib.hid hgR
      have HSW := Lib.hid hsz
      have HSO := Lib.hid hso
      have hbl := HBV.out.trans (HROW.out.below (n := A) (by omega))
      have HBL := Lib.hid hbl
      clear hgH hgR hsz hso hbl
      go_wp2_with (first | (refine wpList_load_row rfl 76 _ rfl (A + 1 + 1) rfl 76 (bcells F) (0, 0) _ HGH.out Tryd.underlying76 rfl HSW.out ?_) | (refine wpList_store_row rfl 76 _ _ rfl (A + 1) (bcells F) rfl rfl 76 (bcells (hp l 0)) HGR.out HSW.out HSO.out (bcells_one _) ?_))
      refine bodyPost_ret (v := .agg (bcells F)) (results_cell_row rfl _ _ (A + 1) 76 _ (0, 0) _ rfl (setRow_heap _ _ _ _ _ _ HGR.out) Tryd.underlying76 rfl HSW.out) rfl ⟨rfl, ?_⟩
      rw [HA.out]
      exact below_row HBL.out (by omega) _
end Go.Proofs.YtafolokkjpbieaaDoor
