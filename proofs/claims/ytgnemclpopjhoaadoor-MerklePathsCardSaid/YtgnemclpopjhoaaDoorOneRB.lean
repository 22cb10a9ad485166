/-
  THE WALKS over the reference's joining of short digests, and its digits.
-/
import Derived.Test.YtgnemclpopjhoaaDoorOneRA
namespace Go.Proofs.YtgnemclpopjhoaaDoor
open Go.RowKit Sha Ots
set_option linter.unusedVariables false
set_option linter.unusedSimpArgs false
set_option maxRecDepth 100000 in
set_option maxHeartbeats 2000000 in
theorem joined_ref (ls : List (List UInt8)) (A : Option Addr) (c : Nat) (hn : ls.length ≤ 1000) (w : World) (hs : Shorts A ls w) :
    Calls Tryd.prog 61 #[.slice A ls.length c] w fun e w' => e = .returned (.agg (bcells (sh ls.flatten))) ∧ Below w.heap.size w w' := by
  obtain ⟨F, hF⟩ : ∃ F, ls.flatten = F := ⟨_, rfl⟩
  have hFl : F.length ≤ 16000 := by rw [← hF, flat_len ls hs.len]; omega
  have hsho : ∀ (V : World) (v : Value), V.ownsRow (w.heap.size + 1) 5 1 v F.length (bvals F) → Calls Tryd.prog 58 #[v] V fun e w' => e = .returned (.agg (bcells (sh F))) ∧ Below V.heap.size V w' := fun V v ho => by
    obtain ⟨A, c, rfl, h1, h2, h3, h4⟩ := own_rd2 ho
    exact short_ref _ A c (by omega) h1 h3 V h4
  rw [hF]
  obtain ⟨R, hR⟩ : ∃ R, sh F = R := ⟨_, rfl⟩
  have hR16 : R.length = 16 := by rw [← hR]; exact sh_len _
  rw [hR] at hsho ⊢
  obtain ⟨n, hnn⟩ : ∃ n, ls.length = n := ⟨_, rfl⟩
  rw [hnn] at hn ⊢
  have HN := Lib.hid hnn
  have HF := Lib.hid hF
  have HS := Lib.hid hs
  have SH := Lib.hid hsho
  have HSZ := Lib.hid (sz16 R hR16)
  have hso : (16 : Nat) = (bcells R).size := by rw [bcells_size, hR16]
  have HSO := Lib.hid hso
  have HFL := Lib.hid hFl
  clear hF hFl hsho hR hR16 hnn hs hso
  go_enter Tryd.func61, Tryd.ntmps61
  go_wp2_with fail
  have hr0 : (w.alloc (.cells (bcells (List.replicate 16 0)) 23)).heap[w.heap.size]? = some (.cells (bcells (List.replicate 16 0)) 23 (0, 0)) := heap_alloc_new _ _
  have HR0 := Lib.hid hr0
  clear hr0
  go_loopw [3, 4, 5] (fun v i _ wr => ∃ (k : Nat) (done : List UInt8), k ≤ n ∧ i = .int .i64 (k : Int) ∧ RowKit.Hid (F = done ++ (ls.drop k).flatten) ∧ RowKit.Hid (wr.ownsRow (w.heap.size + 1) 5 1 v done.length (bvals done)) ∧ RowKit.Hid (Below w.heap.size w wr ∧ w.heap.size + 1 ≤ wr.heap.size ∧ wr.heap[w.heap.size]? = some (.cells (bcells (List.replicate 16 0)) 23 (0, 0)))) (fun _ i _ _ => n - (intOf i).toNat)
  case atStart => exact ⟨0, [], by omega, rfl, Lib.hid HF.out.symm, Lib.hid ⟨rfl, Or.inl ⟨rfl, rfl⟩⟩, Lib.hid ⟨below_new _ _, by simp, HR0.out⟩⟩
  case round =>
    clear HR0
    obtain ⟨k, done, hk, rfl, HD, HO, HB⟩ := hrel
    by_cases hlt : k < n
    · obtain ⟨x, hx⟩ : ∃ x, ls[k]? = some x := ⟨_, List.getElem?_eq_getElem (by rw [HN.out]; exact hlt)⟩
      obtain ⟨g, o, rfl, hrg⟩ := HS.out.row k x hx
      have hx16 : x.length = 16 := HS.out.len x (List.mem_of_getElem? hx)
      rw [Nat.mul_comm] at hrg
      have HRG := Lib.hid hrg
      have hdk : ls.drop k = x :: ls.drop (k + 1) := by
        obtain ⟨hlt2, e⟩ := List.getElem?_eq_some_iff.1 hx
        rw [List.drop_eq_getElem_cons hlt2, e]
      have hd2 : F = (done ++ x) ++ (ls.drop (k + 1)).flatten := by rw [HD.out, hdk, List.flatten_cons, List.append_assoc]
      have hdl : done.length + 16 ≤ 16000 := by
        have h := congrArg List.length hd2
        have h2 := HFL.out
        rw [List.length_append, List.length_append] at h
        omega
      have HD2 := Lib.hid hd2
      have HDL := Lib.hid hdl
      have HX16 := Lib.hid hx16
      have hki : (k : Int) < (n : Int) := by omega
      have HO0 : RowKit.Hid (wr.ownsRow (w.heap.size + 1) 5 1 u3 (done ++ x.take 0).length (bvals (done ++ x.take 0))) := Lib.hid (by rw [List.take_zero, List.append_nil]; exact HO.out)
      clear hx hrg hdk hd2 hdl hx16 HD HO
      go_wp2_with fail
      go_loopw [3, 5] (fun v y wz => ∃ j : Nat, j ≤ 16 ∧ y = .int .i64 (j : Int) ∧ RowKit.Hid (wz.ownsRow (w.heap.size + 1) 5 1 v (done ++ x.take j).length (bvals (done ++ x.take j))) ∧ RowKit.Hid (Below w.heap.size w wz ∧ w.heap.size + 1 ≤ wz.heap.size ∧ wz.heap[w.heap.size]? = some (.cells (bcells (List.replicate 16 0)) 23 (0, 0)))) (fun _ y _ => 16 - (intOf y).toNat)
      case atStart => exact ⟨0, by omega, rfl, HO0, HB⟩
      case round =>
        clear HO0 HB
        obtain ⟨j, hj, rfl, HO, HB⟩ := hrel
        by_cases hlj : j < 16
        · have hji : (j : Int) < 16 := by omega
          have hc : wr.cell? ⟨g, o + k * 16 + j, none⟩ = some (.int .u8 ((x.getD j 0).toNat : Int)) := by
            refine rangeAt_on HRG.out HB.out.1 j _ ?_
            unfold bvals
            rw [List.getElem?_map, List.getElem?_eq_getElem (by rw [HX16.out]; exact hlj), List.getD_eq_getElem?_getD, List.getElem?_eq_getElem (by rw [HX16.out]; exact hlj)]
            rfl
          have hts := take_snoc8 x j (by rw [HX16.out]; exact hlj)
          obtain ⟨y, hy⟩ : ∃ y, x.getD j 0 = y := ⟨_, rfl⟩
          rw [hy] at hc hts
          have HTS := Lib.hid hts
          have hdl2 : (done ++ x.take j).length ≤ 16000 := by have := HDL.out; rw [List.length_append, List.length_take, HX16.out]; omega
          have HDL2 := Lib.hid hdl2
          clear hts hy hdl2
          go_wp2_with (at_builtin; go_loud (refine append_src rfl (.tmp 16) (.tmp 23) rfl (w.heap.size + 1) _ _ _ rfl (HO.out.alloc _) (some ⟨wr.heap.size, 0, none⟩) [y] 1 1 rfl rfl (fun e => by cases e) (srcAt_row (heap_alloc_new _ _)) (by have := HDL2.out; omega) (by have := HB.out.2.1; simp; omega) ?_); intro v' w5 hown5 hgrow5; have HO5 := Lib.hid hown5; have HG5 := Lib.hid hgrow5; clear hown5 hgrow5)
          have hne : ∀ j, Value.ownBlock u3 = some j → w.heap.size + 1 ≤ j := fun j hj => (own_ge HO.out hj).1
          have h9 := HB.out.2.1
          have hsz5 := HG5.out.size
          rw [World.size_alloc] at hsz5
          refine ⟨⟨j + 1, by omega, by go_num, Lib.hid ?_, Lib.hid ⟨(HB.out.1.alloc HB.out.1.size _).grown HG5.out (by simp; omega) (fun j hj => (by have := hne j hj; omega)), by omega, ?_⟩⟩, by simp [intOf]; omega⟩
          · have hle : (done ++ x.take j ++ [y]).length = (done ++ x.take j).length + 1 := by rw [List.length_append]; rfl
            rw [HTS.out, ← List.append_assoc, hle, bvals_app (done ++ x.take j)]
            exact HO5.out
          · rw [HG5.out.block w.heap.size (by simp; omega) (fun e => by have := hne _ e.symm; omega), Below.heap_alloc _ _ _ (by omega)]
            exact HB.out.2.2
        · have hjj : j = 16 := by omega
          subst hjj
          have hge : ¬ ((16 : Nat) : Int) < 16 := by omega
          have hl16 : x.take 16 = x := List.take_of_length_le (by rw [HX16.out]; exact Nat.le_refl _)
          rw [hl16] at HO
          clear hl16
          go_wp2_with fail
          exact ⟨⟨k + 1, done ++ x, by omega, by go_num, HD2, HO, HB⟩, by simp [intOf]; omega⟩
    · have hge : ¬ (k : Int) < (n : Int) := by omega
      have hfin : F = done := by rw [HD.out, List.drop_of_length_le (by rw [HN.out]; omega)]; simp
      have HO2 : RowKit.Hid (wr.ownsRow (w.heap.size + 1) 5 1 u3 F.length (bvals F)) := Lib.hid (by rw [hfin]; exact HO.out)
      clear hfin HO HD
      go_wp2_with fail
      refine (SH.out _ _ HO2.out).mono ?_
      rintro e w2 ⟨rfl, hb2⟩
      have HR2 := Lib.hid ((hb2.block w.heap.size (by have := HB.out.2.1; omega)).trans HB.out.2.2)
      have HB2 := Lib.hid (chain HB.out.1 hb2)
      clear hb2
      go_wp2_with (refine wpList_store_row rfl 23 (.tmp 2) (.tmp 26) rfl w.heap.size (bcells R) rfl rfl 23 _ HR2.out HSZ.out HSO.out (bcells_one _) ?_)
      refine bodyPost_ret (v := .agg (bcells R)) (results_cell_row rfl _ _ w.heap.size 23 _ (0, 0) _ rfl (setRow_heap _ _ _ _ _ _ HR2.out) Tryd.underlying23 rfl HSZ.out) rfl ⟨rfl, ?_⟩
      exact below_row HB2.out (Nat.le_refl _) _
end Go.Proofs.YtgnemclpopjhoaaDoor
