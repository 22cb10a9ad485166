/-
  THE WALKS over the reference's short digest, and its putting together of parts.
-/
import Derived.Test.YtafolokkjpbieaaDoorDigRB
namespace Go.Proofs.YtafolokkjpbieaaDoor
open Go.RowKit Sha
set_option linter.unusedVariables false
set_option linter.unusedSimpArgs false
/-- 16 bytes, the first k of them those of F -/
def fk (F : List UInt8) : Nat → List UInt8
  | 0 => List.replicate 16 0
  | k + 1 => (fk F k).set k (F.getD k 0)
theorem fk_len (F : List UInt8) : ∀ k, (fk F k).length = 16
  | 0 => by simp [fk]
  | k + 1 => by rw [fk, List.length_set, fk_len F k]
theorem fk_get (F : List UInt8) : ∀ k j, j < k → k ≤ 16 → (fk F k)[j]? = some (F.getD j 0)
  | 0, j, h, _ => by omega
  | k + 1, j, h, hk => by
    rw [fk, List.getElem?_set]
    by_cases e : k = j
    · rw [if_pos e, if_pos (by rw [fk_len]; omega), e]
    · rw [if_neg e]
      exact fk_get F k j (by omega) (by omega)
theorem fk_all (F : List UInt8) (hF : F.length = 32) : fk F 16 = F.take 16 := by
  apply List.ext_getElem?
  intro j
  by_cases h : j < 16
  · rw [fk_get F 16 j h (Nat.le_refl _), List.getElem?_take, if_pos h, List.getD_eq_getElem?_getD, List.getElem?_eq_getElem (by omega)]
    rfl
  · rw [List.getElem?_eq_none (by rw [fk_len]; omega), List.getElem?_eq_none (by rw [List.length_take]; omega)]
set_option maxRecDepth 100000 in
set_option maxHeartbeats 4000000 in
theorem short_ref (l : List UInt8) (A : Option Addr) (c : Nat) (hl : l.length ≤ 100000) (hc : l.length ≤ c) (hA : A = none → c = 0) (w : World) (hs : SrcAt A l w) :
    Calls Tryd.prog 54 #[.slice A l.length c] w fun e w' => e = .returned (.agg (bcells ((sha l).take 16))) ∧ Below w.heap.size w w' := by
  have hsum := fun (V : World) (hb : Below w.heap.size w V) => sum_ref l A c hl hc hA V (hs.on hb)
  obtain ⟨F, hF⟩ : ∃ F, sha l = F := ⟨_, rfl⟩
  have hF32 : F.length = 32 := by rw [← hF]; exact sha_len _
  rw [hF] at hsum ⊢
  have hfin := fk_all F hF32
  obtain ⟨n, hn⟩ : ∃ n, l.length = n := ⟨_, rfl⟩
  rw [hn] at hsum ⊢
  have HSUM := Lib.hid hsum
  have HFIN := Lib.hid hfin
  have HF32 := Lib.hid hF32
  have hsz : (Tryd.prog.info? 76).map (·.size) = some (bcells F).size := by rw [bcells_size, hF32]; kernel_rfl
  have hso : (32 : Nat) = (bcells F).size := by rw [bcells_size, hF32]
  have HSZ := Lib.hid hsz
  have HSO := Lib.hid hso
  clear hsum hF hF32 hfin hn hs hA hc hl hsz hso
  go_enter Tryd.func54, Tryd.ntmps54
  go_wp2_with fail
  refine (HSUM.out _ (below_new _ _)).mono ?_
  rintro e w1 ⟨rfl, hb1⟩
  have HB1 := Lib.hid ((below_new w _).trans (hb1.mono (by simp)))
  have HZ1 : RowKit.Hid (w1.heap[w.heap.size]? = some (.cells (bcells (fk F 0)) 23 (0, 0))) := Lib.hid ((hb1.block _ (by simp)).trans ((heap_alloc_new _ _).trans rfl))
  have hz1 : w.heap.size < w1.heap.size := by have := hb1.size; simp at this; omega
  clear hb1
  go_wp2_with (refine wpList_store_row rfl 76 _ _ rfl w1.heap.size (bcells F) rfl rfl 76 _ (heap_alloc_new _ _) HSZ.out HSO.out (bcells_one _) ?_)
  rw [World.setRow_alloc_new]
  obtain ⟨B, hB⟩ : ∃ B, w1.heap.size = B := ⟨_, rfl⟩
  simp only [hB]
  generalize hV : World.alloc (World.alloc w1 _) _ = V
  have a3 : V.heap[B]? = some (.cells (bcells F) 76 (0, 0)) := by rw [← hV, ← hB]; exact heap_alloc2_old _ _ _
  have a4 : V.heap[B + 1]? = some (.cells (bcells (fk F 0)) 23 (0, 0)) := by rw [← hV, ← hB]; exact heap_alloc2_new _ _ _
  have a2 : V.heap[w.heap.size]? = some (.cells (bcells (fk F 0)) 23 (0, 0)) := by
    rw [← hV, Below.heap_alloc _ _ _ (by simp; omega), Below.heap_alloc _ _ _ (by omega)]
    exact HZ1.out
  have ab : Below w.heap.size w V := by rw [← hV]; exact (HB1.out.alloc (by omega) _).alloc (by simp; omega) _
  rw [hB] at hz1
  have A3 := Lib.hid a3
  have A4 := Lib.hid (OnlyB.here a4)
  have A2 := Lib.hid a2
  have AB := Lib.hid ab
  clear a2 a3 a4 ab hV hB HZ1 HB1
  go_loopw [5] (fun i wz => ∃ k : Nat, k ≤ 16 ∧ i = .int .i64 (k : Int) ∧ RowKit.Hid (OnlyB (B + 1) 23 V wz (bcells (fk F k)))) (fun i _ => 16 - (intOf i).toNat)
  case atStart => exact ⟨0, by omega, rfl, A4⟩
  case round =>
    clear A4
    obtain ⟨k, hk, rfl, HROW⟩ := hrel
    by_cases hlt : k < 16
    · have hki : (k : Int) < 16 := by omega
      have hk32 : (k : Int) < 32 := by omega
      have hd := HROW.out.cell k
      rw [bcells_at _ _ (by rw [fk_len]; exact hlt)] at hd
      have hf := HROW.out.free k
      have hc : wr.cell? ⟨B, k, none⟩ = some (.int .u8 ((F.getD k 0).toNat : Int)) := by
        rw [cell_of_heap2 (HROW.out.oth B (by omega)), cell_of_row _ _ _ _ _ _ A3.out, bcells_at _ _ (by rw [HF32.out]; omega)]
      obtain ⟨y, hy⟩ : ∃ y, F.getD k 0 = y := ⟨_, rfl⟩
      obtain ⟨z, hz⟩ : ∃ z, (fk F k).getD k 0 = z := ⟨_, rfl⟩
      rw [hy] at hc
      rw [hz] at hd
      have HY := Lib.hid hy
      clear hy hz
      go_wp2_with fail
      refine ⟨⟨k + 1, by omega, by go_num, Lib.hid ?_⟩, by simp [intOf]; omega⟩
      have h := HROW.out.set k (.int .u8 (y.toNat : Int))
      rw [bcells_set] at h
      rw [fk, HY.out]
      exact h
    · have hkk : k = 16 := by omega
      subst hkk
      have hkg : ¬ ((16 : Nat) : Int) < 16 := by omega
      have hgO := HROW.out.own
      rw [HFIN.out] at hgO
      have hg2 : wr.heap[w.heap.size]? = some (.cells (bcells (fk F 0)) 23 (0, 0)) := (HROW.out.oth _ (by omega)).trans A2.out
      have hT16 : (F.take 16).length = 16 := by rw [List.length_take, HF32.out]; rfl
      have hs2 : (Tryd.prog.info? 23).map (·.size) = some (bcells (F.take 16)).size := by rw [bcells_size, hT16]; kernel_rfl
      have ho2 : (bcells (fk F 0)).size = (bcells (F.take 16)).size := by rw [bcells_size, bcells_size, fk_len, hT16]
      have HGO := Lib.hid hgO
      have HG2 := Lib.hid hg2
      have HS2 := Lib.hid hs2
      have HO2 := Lib.hid ho2
      have HBL := Lib.hid (AB.out.trans (HROW.out.below (n := w.heap.size) (by omega)))
      clear hgO hg2 hs2 ho2 hT16
      go_wp2_with (first | (refine wpList_load_row rfl 23 _ rfl (B + 1) rfl 23 (bcells (F.take 16)) (0, 0) _ HGO.out Tryd.underlying23 rfl HS2.out ?_) | (refine wpList_store_row rfl 23 _ _ rfl w.heap.size (bcells (F.take 16)) rfl rfl 23 (bcells (fk F 0)) HG2.out HS2.out HO2.out (bcells_one _) ?_))
      refine bodyPost_ret (v := .agg (bcells (F.take 16))) (results_cell_row rfl _ _ w.heap.size 23 _ (0, 0) _ rfl (setRow_heap _ _ _ _ _ _ HG2.out) Tryd.underlying23 rfl HS2.out) rfl ⟨rfl, ?_⟩
      exact below_row HBL.out (Nat.le_refl _) _
/-- an own row of bytes, as a slice that is read -/
theorem own_rd2 {w : World} {base : Nat} {v : Value} {l : List UInt8} (h : w.ownsRow base 5 1 v l.length (bvals l)) :
    ∃ A c, v = .slice A l.length c ∧ l.length ≤ c ∧ c ≤ maxLen ∧ (A = none → c = 0) ∧ SrcAt A l w := by
  obtain ⟨hl', h | ⟨g, cap, cur, hv, hb, hg, hnc, hcm, hcs, ht⟩⟩ := h
  · obtain ⟨rfl, h2⟩ := h
    have hl : l = [] := List.length_eq_zero_iff.1 h2
    subst hl
    exact ⟨none, 0, rfl, Nat.le_refl _, Nat.zero_le _, fun _ => rfl, fun e => absurd rfl e⟩
  · refine ⟨some ⟨g, 0, none⟩, cap, hv, hnc, hcm, fun e => (by cases e), fun _ => ⟨g, 0, rfl, fun j x hj => ?_⟩⟩
    rw [Nat.zero_add, cell_of_row w g j cur _ _ hg, ← Array.getElem?_toList]
    have h2 : (cur.toList.take (l.length * 1))[j]? = some (.int .u8 (x.toNat : Int)) := by
      rw [ht]
      unfold bvals
      rw [List.getElem?_map, hj]
      rfl
    rw [List.getElem?_take] at h2
    split at h2
    · exact h2
    · cases h2
end Go.Proofs.YtafolokkjpbieaaDoor
