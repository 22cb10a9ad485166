/-
  THE WALKS over the reference's step and chain.
-/
import Derived.Test.YtgnemclpopjhoaaDoorOneH
namespace Go.Proofs.YtgnemclpopjhoaaDoor
open Go.RowKit Sha Ots
set_option linter.unusedVariables false
set_option linter.unusedSimpArgs false
theorem take_snoc8 (l : List UInt8) (k : Nat) (h : k < l.length) : l.take (k + 1) = l.take k ++ [l.getD k 0] := by
  rw [List.take_succ_eq_append_getElem h, List.getD_eq_getElem?_getD, List.getElem?_eq_getElem h]
  rfl
set_option maxRecDepth 100000 in
set_option maxHeartbeats 1000000 in
theorem step_ref (l : List UInt8) (hl : l.length = 16) (i j : Nat) (hi : i < 256) (hj : j < 256) (w : World) :
    Calls Tryd.prog 60 #[.agg (bcells l), .int .i64 (i : Int), .int .i64 (j : Int)] w fun e w' => e = .returned (.agg (bcells (stp l i j))) ∧ Below w.heap.size w w' := by
  have hsho : ∀ (V : World) (v : Value), V.ownsRow (w.heap.size + 2) 5 1 v (l ++ [UInt8.ofNat i, UInt8.ofNat j]).length (bvals (l ++ [UInt8.ofNat i, UInt8.ofNat j])) → Calls Tryd.prog 58 #[v] V fun e w' => e = .returned (.agg (bcells (stp l i j))) ∧ Below V.heap.size V w' := fun V v ho => by
    obtain ⟨A, c, rfl, h1, h2, h3, h4⟩ := own_rd2 ho
    exact short_ref _ A c (by rw [List.length_append, hl]; show 16 + 2 ≤ 100000; decide) h1 h3 V h4
  obtain ⟨F, hF⟩ : ∃ F, stp l i j = F := ⟨_, rfl⟩
  have hF16 : F.length = 16 := by rw [← hF]; exact stp_len _ _ _
  rw [hF] at hsho ⊢
  have hwi := u8_wrap i hi
  have hwj := u8_wrap j hj
  obtain ⟨a, ha⟩ : ∃ a, UInt8.ofNat i = a := ⟨_, rfl⟩
  obtain ⟨b, hb⟩ : ∃ b, UInt8.ofNat j = b := ⟨_, rfl⟩
  rw [ha] at hwi hsho
  rw [hb] at hwj hsho
  have SH := Lib.hid hsho
  have HSZ := Lib.hid (sz16 F hF16)
  have hso : (16 : Nat) = (bcells F).size := by rw [bcells_size, hF16]
  have HSO := Lib.hid hso
  have HL := Lib.hid hl
  clear hsho hF hF16 hi hj ha hb hso hl
  go_enter Tryd.func60, Tryd.ntmps60
  go_upto_region 1 with (fail)
  generalize hV : World.alloc (World.alloc w _) _ = V
  have hb0 : Below w.heap.size w V := by rw [← hV]; exact (below_new _ _).alloc (by simp) _
  have hr0 : V.heap[w.heap.size]? = some (.cells (bcells l) 23 (0, 0)) := by rw [← hV]; exact heap_alloc2_old _ _ _
  have hr1 : V.heap[w.heap.size + 1]? = some (.cells (bcells (List.replicate 16 0)) 23 (0, 0)) := by rw [← hV]; exact (heap_alloc2_new _ _ _).trans rfl
  have hz : V.heap.size = w.heap.size + 2 := by rw [← hV]; simp
  have HC0 := Lib.hid (And.intro hb0 (And.intro hr0 (And.intro hr1 (show w.heap.size + 2 ≤ V.heap.size by omega))))
  clear hV hb0 hr0 hr1 hz
  go_wp2_with fail
  go_loopw [7, 8] (fun v x wr => ∃ k : Nat, k ≤ 16 ∧ x = .int .i64 (k : Int) ∧ RowKit.Hid (wr.ownsRow (w.heap.size + 2) 5 1 v k (bvals (l.take k))) ∧ RowKit.Hid (Below w.heap.size w wr ∧ wr.heap[w.heap.size]? = some (.cells (bcells l) 23 (0, 0)) ∧ wr.heap[w.heap.size + 1]? = some (.cells (bcells (List.replicate 16 0)) 23 (0, 0)) ∧ w.heap.size + 2 ≤ wr.heap.size)) (fun _ x _ => 16 - (intOf x).toNat)
  case atStart => exact ⟨0, by omega, rfl, Lib.hid ⟨rfl, Or.inl ⟨rfl, rfl⟩⟩, HC0⟩
  case round =>
    clear HC0
    obtain ⟨k, hk, rfl, HO, HC⟩ := hrel
    by_cases hlt : k < 16
    · have hki : (k : Int) < 16 := by omega
      have hc : wr.cell? ⟨w.heap.size, k, none⟩ = some (.int .u8 ((l.getD k 0).toNat : Int)) := by
        rw [cell_of_row _ _ _ _ _ _ HC.out.2.1, bcells_at _ _ (by rw [HL.out]; exact hlt)]
      have hts := take_snoc8 l k (by rw [HL.out]; exact hlt)
      obtain ⟨y, hy⟩ : ∃ y, l.getD k 0 = y := ⟨_, rfl⟩
      rw [hy] at hc hts
      have HTS := Lib.hid hts
      clear hts hy
      go_wp2_with (at_builtin; refine append_src rfl (.tmp 13) (.tmp 17) rfl (w.heap.size + 2) _ _ _ rfl (HO.out.alloc _) (some ⟨wr.heap.size, 0, none⟩) [y] 1 1 rfl rfl (fun e => by cases e) (srcAt_row (heap_alloc_new _ _)) (by omega) (by have := HC.out.2.2.2; simp; omega) ?_; intro v' w5 hown5 hgrow5; have HO5 := Lib.hid hown5; have HG5 := Lib.hid hgrow5; clear hown5 hgrow5)
      have hne : ∀ j, Value.ownBlock u7 = some j → w.heap.size + 2 ≤ j := fun j hj => (own_ge HO.out hj).1
      have h9 := HC.out.2.2.2
      have hsz5 := HG5.out.size
      rw [World.size_alloc] at hsz5
      refine ⟨⟨k + 1, by omega, by go_num, Lib.hid ?_, Lib.hid ⟨(HC.out.1.alloc HC.out.1.size _).grown HG5.out (by simp; omega) (fun j hj => (by have := hne j hj; omega)), ?_, ?_, by omega⟩⟩, by simp [intOf]; omega⟩
      · rw [HTS.out, bvals_app]
        exact HO5.out
      · rw [HG5.out.block w.heap.size (by simp; omega) (fun e => by have := hne _ e.symm; omega), Below.heap_alloc _ _ _ (by omega)]
        exact HC.out.2.1
      · rw [HG5.out.block (w.heap.size + 1) (by simp; omega) (fun e => by have := hne _ e.symm; omega), Below.heap_alloc _ _ _ (by omega)]
        exact HC.out.2.2.1
    · have hkk : k = 16 := by omega
      subst hkk
      have hge : ¬ ((16 : Nat) : Int) < 16 := by omega
      have hl16 : l.take 16 = l := List.take_of_length_le (by rw [HL.out]; exact Nat.le_refl _)
      have hho : wr.ownsRow (w.heap.size + 2) 5 1 u7 l.length (bvals l) := by rw [HL.out]; have h := HO.out; rw [hl16] at h; exact h
      have HHO := Lib.hid hho
      have h9 := HC.out.2.2.2
      have H9 := Lib.hid h9
      clear hl16 hho HO h9
      go_wp2_with (at_builtin; refine append_src rfl (.tmp 19) (.tmp 24) rfl (w.heap.size + 2) _ _ _ rfl (HHO.out.alloc _) (some ⟨wr.heap.size, 0, none⟩) [a, b] 2 2 rfl rfl (fun e => by cases e) (srcAt_row (heap_alloc_new _ _)) (by rw [HL.out]; decide) (by have := H9.out; simp; omega) ?_; intro v' w5 hown5 hgrow5; have HO5 := Lib.hid hown5; have HG5 := Lib.hid hgrow5; clear hown5 hgrow5)
      have hne : ∀ j, Value.ownBlock u7 = some j → w.heap.size + 2 ≤ j := fun j hj => (own_ge HHO.out hj).1
      have h9 := H9.out
      have hbw5 : Below w.heap.size w w5 := (HC.out.1.alloc HC.out.1.size _).grown HG5.out (by simp; omega) (fun j hj => (by have := hne j hj; omega))
      have hr5 : w5.heap[w.heap.size + 1]? = some (.cells (bcells (List.replicate 16 0)) 23 (0, 0)) := by
        rw [HG5.out.block (w.heap.size + 1) (by simp; omega) (fun e => by have := hne _ e.symm; omega), Below.heap_alloc _ _ _ (by omega)]
        exact HC.out.2.2.1
      have hown5 : w5.ownsRow (w.heap.size + 2) 5 1 v' (l ++ [a, b]).length (bvals (l ++ [a, b])) := by
        rw [List.length_append, bvals_app]
        exact HO5.out
      have HB5 := Lib.hid hbw5
      have HR5 := Lib.hid hr5
      have HOW5 := Lib.hid hown5
      clear hne h9 hbw5 hr5 hown5 HO5 HG5
      refine (SH.out w5 v' HOW5.out).mono ?_
      rintro e w6 ⟨rfl, hb6⟩
      have HR6 := Lib.hid ((hb6.block _ (Array.getElem?_eq_some_iff.1 HR5.out).1).trans HR5.out)
      have HB6 := Lib.hid (chain HB5.out hb6)
      clear hb6
      go_wp2_with (refine wpList_store_row rfl 23 (.tmp 6) (.tmp 26) rfl (w.heap.size + 1) (bcells F) rfl rfl 23 _ HR6.out HSZ.out HSO.out (bcells_one _) ?_)
      refine bodyPost_ret (v := .agg (bcells F)) (results_cell_row rfl _ _ (w.heap.size + 1) 23 _ (0, 0) _ rfl (setRow_heap _ _ _ _ _ _ HR6.out) Tryd.underlying23 rfl HSZ.out) rfl ⟨rfl, ?_⟩
      exact below_row HB6.out (by omega) _
set_option maxRecDepth 100000 in
set_option maxHeartbeats 1000000 in
theorem chain_ref (l : List UInt8) (hl : l.length = 16) (i b : Nat) (hi : i < 256) (hb : b ≤ 256) (w : World) :
    Calls Tryd.prog 57 #[.agg (bcells l), .int .i64 (i : Int), .int .i64 (b : Int)] w fun e w' => e = .returned (.agg (bcells (chn l i b))) ∧ Below w.heap.size w w' := by
  have hm0 := fun (V : World) => step_ref l hl i 255 hi (by decide) V
  have hm := fun (k : Nat) (hk : k < b) (V : World) => step_ref (chn l i k) (chn_len l i k) i k hi (by omega) V
  have hl2 := fun k => chn_len l i k
  have hms : ∀ k, stp (chn l i k) i k = chn l i (k + 1) := fun k => by
    unfold chn
    rw [clm, Nat.zero_add]
  have hm00 : stp l i 255 = chn l i 0 := rfl
  rw [hm00] at hm0
  simp only [hms] at hm
  obtain ⟨G, hG⟩ : ∃ G : Nat → List UInt8, ∀ k, chn l i k = G k := ⟨_, fun _ => rfl⟩
  simp only [hG] at hm0 hm hl2 ⊢
  have HM0 := Lib.hid hm0
  have HM := Lib.hid hm
  have HL := Lib.hid hl2
  have HSZL := Lib.hid (sz16 l hl)
  clear hm0 hm hl2 hms hm00 hG hl
  go_enter Tryd.func57, Tryd.ntmps57
  go_upto_region 1 with (fail)
  generalize hV : World.alloc (World.alloc w _) _ = V
  have hb0 : Below w.heap.size w V := by rw [← hV]; exact (below_new _ _).alloc (by simp) _
  have hr0 : V.heap[w.heap.size]? = some (.cells (bcells l) 23 (0, 0)) := by rw [← hV]; exact heap_alloc2_old _ _ _
  have hr1 : V.heap[w.heap.size + 1]? = some (.cells (bcells (List.replicate 16 0)) 23 (0, 0)) := by rw [← hV]; exact (heap_alloc2_new _ _ _).trans rfl
  have HB0 := Lib.hid hb0
  have HR0 := Lib.hid hr0
  have HR1 := Lib.hid hr1
  clear hV hb0 hr0 hr1
  go_wp2_with (refine wpList_load_row rfl 23 (.tmp 3) rfl w.heap.size rfl 23 (bcells l) (0, 0) _ HR0.out Tryd.underlying23 rfl HSZL.out ?_)
  refine (HM0.out V).mono ?_
  rintro e w1 ⟨rfl, hb1⟩
  have HB1 := Lib.hid (HB0.out.trans (hb1.mono (HB0.out.size)))
  have HR11 := Lib.hid ((hb1.block _ (Array.getElem?_eq_some_iff.1 HR1.out).1).trans HR1.out)
  have HZ := Lib.hid (show w.heap.size + 1 < w1.heap.size by have := (Array.getElem?_eq_some_iff.1 HR1.out).1; have := hb1.size; omega)
  have HSZ0 := Lib.hid (sz16 (G 0) (HL.out 0))
  have hso0 : (16 : Nat) = (bcells (G 0)).size := by rw [bcells_size, HL.out 0]
  have HSO0 := Lib.hid hso0
  clear hb1 hso0
  go_wp2_with (refine wpList_store_row rfl 23 (.tmp 7) (.tmp 11) rfl w1.heap.size (bcells (G 0)) rfl rfl 23 _ (heap_alloc_new _ _) HSZ0.out HSO0.out (bcells_one _) ?_)
  rw [World.setRow_alloc_new]
  obtain ⟨X, hX⟩ : ∃ X, w1.heap.size = X := ⟨_, rfl⟩
  generalize hV2 : World.alloc w1 _ = V2
  have hb2 : Below w1.heap.size w1 V2 := by rw [← hV2]; exact below_new _ _
  have hc0 : Below w.heap.size w V2 ∧ V2.heap[X]? = some (.cells (bcells (G 0)) 23 (0, 0)) ∧ V2.heap[w.heap.size + 1]? = some (.cells (bcells (List.replicate 16 0)) 23 (0, 0)) := ⟨chain HB1.out hb2, by rw [← hV2, ← hX]; exact heap_alloc_new _ _, (hb2.block _ HZ.out).trans HR11.out⟩
  have HC0 := Lib.hid hc0
  have HZX : RowKit.Hid (w.heap.size + 1 < X) := Lib.hid (by rw [← hX]; exact HZ.out)
  try simp only [hX]
  try simp only [Act.put]
  clear hV2 hb2 hc0 hX HB1 HR11 HR0 HR1 HB0 HZ
  go_wp2_with fail
  go_loopw [8] (fun x wr => ∃ k : Nat, k ≤ b ∧ x = .int .i64 (k : Int) ∧ RowKit.Hid (Below w.heap.size w wr ∧ wr.heap[X]? = some (.cells (bcells (G k)) 23 (0, 0)) ∧ wr.heap[w.heap.size + 1]? = some (.cells (bcells (List.replicate 16 0)) 23 (0, 0)))) (fun x _ => b - (intOf x).toNat)
  case atStart => exact ⟨0, by omega, rfl, HC0⟩
  case round =>
    clear HC0
    obtain ⟨k, hk, rfl, HC⟩ := hrel
    have hZX := HZX.out
    by_cases hlt : k < b
    · have hki : (k : Int) < (b : Int) := by omega
      have HSZ0 := Lib.hid (sz16 _ (HL.out k))
      have hcall := fun V => HM.out k hlt V
      obtain ⟨F, hF⟩ : ∃ F, G (k + 1) = F := ⟨_, rfl⟩
      have hF16 : F.length = 16 := by rw [← hF]; exact HL.out _
      rw [hF] at hcall
      have hso : (bcells (G k)).size = (bcells F).size := by rw [bcells_size, bcells_size, hF16]; exact HL.out k
      have HSO := Lib.hid hso
      have HSZ := Lib.hid (sz16 F hF16)
      have HF2 := Lib.hid hF
      have HCALL := Lib.hid hcall
      obtain ⟨C, hC⟩ : ∃ C, G k = C := ⟨_, rfl⟩
      have HC1 := Lib.hid HC.out.1
      have HC2 := Lib.hid HC.out.2.1
      have HC3 := Lib.hid HC.out.2.2
      rw [hC] at HSZ0 HCALL HSO HC2
      clear hcall hF hF16 hso hC HC
      go_wp2_with (refine wpList_load_row rfl 23 (.tmp 7) rfl X rfl 23 (bcells C) (0, 0) _ HC2.out Tryd.underlying23 rfl HSZ0.out ?_)
      refine (HCALL.out _).mono ?_
      rintro e w2 ⟨rfl, hb2⟩
      have HR0 := Lib.hid ((hb2.block X (Array.getElem?_eq_some_iff.1 HC2.out).1).trans HC2.out)
      have HR1 := Lib.hid ((hb2.block (w.heap.size + 1) (Array.getElem?_eq_some_iff.1 HC3.out).1).trans HC3.out)
      have HB2 := Lib.hid (chain HC1.out hb2)
      clear hb2
      go_wp2_with (refine wpList_store_row rfl 23 (.tmp 7) (.tmp 20) rfl X (bcells F) rfl rfl 23 _ HR0.out HSZ.out HSO.out (bcells_one _) ?_)
      refine ⟨⟨k + 1, by omega, by go_num, Lib.hid ⟨below_row HB2.out (by omega) _, ?_, ?_⟩⟩, by simp [intOf]; omega⟩
      · rw [HF2.out]
        exact setRow_heap _ _ _ _ _ _ HR0.out
      · exact (setRow_other _ _ _ _ (by omega)).trans HR1.out
    · have hge : ¬ (k : Int) < (b : Int) := by omega
      have hkb : k = b := by omega
      subst hkb
      have HSZ0 := Lib.hid (sz16 _ (HL.out k))
      obtain ⟨C, hC⟩ : ∃ C, G k = C := ⟨_, rfl⟩
      have hC16 : C.length = 16 := by rw [← hC]; exact HL.out _
      have HC1 := Lib.hid HC.out.1
      have HC2 := Lib.hid HC.out.2.1
      have HC3 := Lib.hid HC.out.2.2
      rw [hC] at HSZ0 HC2
      have HCE := Lib.hid hC
      have hso : (bcells (List.replicate 16 (0 : UInt8))).size = (bcells C).size := by rw [bcells_size, bcells_size, hC16]; rfl
      have HSO := Lib.hid hso
      clear hC hC16 HC hso
      go_wp2_with (first | (refine wpList_load_row rfl 23 (.tmp 7) rfl X rfl 23 (bcells C) (0, 0) _ HC2.out Tryd.underlying23 rfl HSZ0.out ?_) | (refine wpList_store_row rfl 23 (.tmp 6) (.tmp 21) rfl (w.heap.size + 1) (bcells C) rfl rfl 23 _ HC3.out HSZ0.out HSO.out (bcells_one _) ?_))
      refine bodyPost_ret (v := .agg (bcells C)) (results_cell_row rfl _ _ (w.heap.size + 1) 23 _ (0, 0) _ rfl (setRow_heap _ _ _ _ _ _ HC3.out) Tryd.underlying23 rfl HSZ0.out) rfl ⟨by rw [HCE.out], ?_⟩
      exact below_row HC1.out (by omega) _
end Go.Proofs.YtgnemclpopjhoaaDoor
