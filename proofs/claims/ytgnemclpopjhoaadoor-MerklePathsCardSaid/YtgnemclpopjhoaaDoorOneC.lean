/-
  THE WALKS over the program's key and digits.
-/
import Derived.Test.YtgnemclpopjhoaaDoorOneB
namespace Go.Proofs.YtgnemclpopjhoaaDoor
open Go.RowKit Sha Ots
set_option linter.unusedVariables false
set_option linter.unusedSimpArgs false
theorem flat_len (ls : List (List UInt8)) (h : ∀ l ∈ ls, l.length = 16) : ls.flatten.length = 16 * ls.length := by
  induction ls with
  | nil => rfl
  | cons a r ih => rw [List.flatten_cons, List.length_append, h a (List.mem_cons_self ..), ih fun l hl => h l (List.mem_cons_of_mem _ hl), List.length_cons]; omega
theorem own_ge {w : World} {b n k : Nat} {v : Value} {xs : List Value} (h : w.ownsRow b 5 1 v n xs) (hk : v.ownBlock = some k) : b ≤ k ∧ k < w.heap.size := by
  obtain ⟨h1, ⟨rfl, _⟩ | ⟨g, cap, cur, rfl, h3, h4, _⟩⟩ := h
  · cases hk
  · obtain rfl : g = k := by simpa [Value.ownBlock] using hk
    exact ⟨h3, (Array.getElem?_eq_some_iff.1 h4).1⟩
set_option maxRecDepth 100000 in
set_option maxHeartbeats 1000000 in
theorem key_any (ls : List (List UInt8)) (A : Option Addr) (c : Nat) (hn : ls.length ≤ 1000) (w : World) (hs : Shorts A ls w) (env : DEnv w) :
    Calls Tryd.prog 50 #[.slice A ls.length c] w fun e w' => e = .returned (.agg (bcells (sh ls.flatten))) ∧ Below w.heap.size w w' := by
  obtain ⟨F, hF⟩ : ∃ F, ls.flatten = F := ⟨_, rfl⟩
  have hFl : F.length ≤ 16000 := by rw [← hF, flat_len ls hs.len]; omega
  have hsho : ∀ (V : World) (v : Value), Below w.heap.size w V → V.ownsRow (w.heap.size + 1) 5 1 v F.length (bvals F) → Calls Tryd.prog 28 #[v] V fun e w' => e = .returned (.agg (bcells (sh F))) ∧ Below V.heap.size V w' := fun V v hb ho => by
    obtain ⟨A, c, rfl, h1, h2, h3, h4⟩ := own_rd2 ho
    exact short_any _ A c (by omega) h1 h2 V h4 (env.on hb)
  rw [hF]
  obtain ⟨R, hR⟩ : ∃ R, sh F = R := ⟨_, rfl⟩
  have hR16 : R.length = 16 := by rw [← hR]; exact sh_len _
  rw [hR] at hsho ⊢
  obtain ⟨n, hnn⟩ : ∃ n, ls.length = n := ⟨_, rfl⟩
  rw [hnn] at hn ⊢
  have HN := Lib.hid hnn
  have HF := Lib.hid hF
  have HS := Lib.hid hs
  have SH := Lib.hid hsho
  have HSZ := Lib.hid (sz16 R hR16)
  have hso : (16 : Nat) = (bcells R).size := by rw [bcells_size, hR16]
  have HSO := Lib.hid hso
  have HFL := Lib.hid hFl
  have s1 := slice_short
  clear hF hFl hsho hR hR16 hnn hs hso env
  go_enter Tryd.func50, Tryd.ntmps50
  go_wp2_with fail
  have hr0 : (w.alloc (.cells (bcells (List.replicate 16 0)) 23)).heap[w.heap.size]? = some (.cells (bcells (List.replicate 16 0)) 23 (0, 0)) := heap_alloc_new _ _
  have HR0 := Lib.hid hr0
  clear hr0
  go_loopw [3, 5, 8] (fun v _ i wr => ∃ (k : Nat) (done : List UInt8), k ≤ n ∧ i = .int .i64 (k : Int) ∧ RowKit.Hid (F = done ++ (ls.drop k).flatten) ∧ RowKit.Hid (wr.ownsRow (w.heap.size + 1) 5 1 v done.length (bvals done)) ∧ RowKit.Hid (Below w.heap.size w wr ∧ w.heap.size + 1 ≤ wr.heap.size ∧ wr.heap[w.heap.size]? = some (.cells (bcells (List.replicate 16 0)) 23 (0, 0)))) (fun _ _ i _ => n - (intOf i).toNat)
  case atStart => exact ⟨0, [], by omega, rfl, Lib.hid HF.out.symm, Lib.hid ⟨rfl, Or.inl ⟨rfl, rfl⟩⟩, Lib.hid ⟨below_new _ _, by simp, HR0.out⟩⟩
  case round =>
    clear HR0
    obtain ⟨k, done, hk, rfl, HD, HO, HB⟩ := hrel
    by_cases hlt : k < n
    · obtain ⟨x, hx⟩ : ∃ x, ls[k]? = some x := ⟨_, List.getElem?_eq_getElem (by rw [HN.out]; exact hlt)⟩
      obtain ⟨g, o, rfl, hrg⟩ := HS.out.row k x hx
      have hx16 : x.length = 16 := HS.out.len x (List.mem_of_getElem? hx)
      have hrw := rangeAt_on hrg HB.out.1
      rw [Nat.mul_comm] at hrw
      have HRW := Lib.hid hrw
      have hxi : (Tryd.prog.info? 23).map (·.size) = some (bvals x).length := by rw [bvals_len, hx16]; kernel_rfl
      have HXI := Lib.hid hxi
      have hdk : ls.drop k = x :: ls.drop (k + 1) := by
        obtain ⟨hlt2, e⟩ := List.getElem?_eq_some_iff.1 hx
        rw [List.drop_eq_getElem_cons hlt2, e]
      have hd2 : F = (done ++ x) ++ (ls.drop (k + 1)).flatten := by rw [HD.out, hdk, List.flatten_cons, List.append_assoc]
      have hdl : done.length + 16 ≤ 16000 := by
        have h := congrArg List.length hd2
        have h2 := HFL.out
        rw [List.length_append, List.length_append] at h
        omega
      have HD2 := Lib.hid hd2
      have HDL := Lib.hid hdl
      have HX16 := Lib.hid hx16
      have HSZX := Lib.hid (sz16 x hx16)
      have hsox : (16 : Nat) = (bcells x).size := by rw [bcells_size, hx16]
      have HSOX := Lib.hid hsox
      have hki : (k : Int) < (n : Int) := by omega
      clear hx hrg hrw hxi hdk hd2 hdl hx16 hsox HD
      go_wp2_with (first | (refine wpList_load_mid rfl 23 (.tmp 10) rfl g (o + k * 16) rfl (bvals x) _ HRW.out Tryd.underlying23 rfl HXI.out ?_) | (refine wpList_store_row rfl 23 (.tmp 5) (.tmp 11) rfl wr.heap.size (bcells x) rfl rfl 23 _ (heap_alloc_new _ _) HSZX.out HSOX.out (bcells_one _) ?_) | (at_builtin; refine append_src rfl (.tmp 12) (.tmp 13) rfl (w.heap.size + 1) _ _ _ rfl (by rw [World.setRow_alloc_new]; exact HO.out.alloc _) (some ⟨wr.heap.size, 0, none⟩) x 16 16 HX16.out rfl (fun e => by cases e) (by rw [World.setRow_alloc_new]; exact srcAt_row (heap_alloc_new _ _)) (by have := HDL.out; omega) (by rw [World.setRow_alloc_new]; have := HB.out.2.1; simp; omega) ?_; rw [World.setRow_alloc_new]; intro v' w5 hown5 hgrow5; have HO5 := Lib.hid hown5; have HG5 := Lib.hid hgrow5; clear hown5 hgrow5))
      have hsz5 := HG5.out.size
      have hszw := HB.out.2.1
      have hne : some w.heap.size ≠ Value.ownBlock u3 := fun e => by
        have := (own_ge HO.out e.symm).1
        omega
      refine ⟨⟨k + 1, done ++ x, by omega, by go_num, HD2, Lib.hid ?_, Lib.hid ⟨(HB.out.1.alloc HB.out.1.size _).grown HG5.out (by simp; omega) (fun j hj => ?_), by simp at hsz5; omega, ?_⟩⟩, by simp [intOf]; omega⟩
      · rw [List.length_append, bvals_app, HX16.out]
        exact HO5.out
      · have := (own_ge HO.out hj).1
        omega
      · rw [HG5.out.block w.heap.size (by simp; omega) hne, Below.heap_alloc _ _ _ (by omega)]
        exact HB.out.2.2
    · have hge : ¬ (k : Int) < (n : Int) := by omega
      have hfin : F = done := by rw [HD.out, List.drop_of_length_le (by rw [HN.out]; omega)]; simp
      have HO2 : RowKit.Hid (wr.ownsRow (w.heap.size + 1) 5 1 u3 F.length (bvals F)) := Lib.hid (by rw [hfin]; exact HO.out)
      clear hfin HO HD
      go_wp2_with fail
      refine (SH.out _ _ HB.out.1 HO2.out).mono ?_
      rintro e w2 ⟨rfl, hb2⟩
      have HR2 := Lib.hid ((hb2.block w.heap.size (by have := HB.out.2.1; omega)).trans HB.out.2.2)
      have HB2 := Lib.hid (HB.out.1.trans (hb2.mono HB.out.1.size))
      clear hb2
      go_wp2_with (refine wpList_store_row rfl 23 (.tmp 2) (.tmp 17) rfl w.heap.size (bcells R) rfl rfl 23 _ HR2.out HSZ.out HSO.out (bcells_one _) ?_)
      refine bodyPost_ret (v := .agg (bcells R)) (results_cell_row rfl _ _ w.heap.size 23 _ (0, 0) _ rfl (setRow_heap _ _ _ _ _ _ HR2.out) Tryd.underlying23 rfl HSZ.out) rfl ⟨rfl, ?_⟩
      exact below_row HB2.out (Nat.le_refl _) _
end Go.Proofs.YtgnemclpopjhoaaDoor
