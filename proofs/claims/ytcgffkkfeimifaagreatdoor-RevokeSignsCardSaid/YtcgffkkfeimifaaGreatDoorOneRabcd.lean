import Derived.Test.YtcgffkkfeimifaaGreatDoorOneH
namespace Go.Proofs.YtcgffkkfeimifaaGreatDoor
open Go.RowKit Sha Ots
set_option linter.unusedVariables false
set_option linter.unusedSimpArgs false
theorem take_snoc7 (l : List UInt8) (k : Nat) (h : k < l.length) : l.take (k + 1) = l.take k ++ [l.getD k 0] := by
 rw [List.take_succ_eq_append_getElem h, List.getD_eq_getElem?_getD, List.getElem?_eq_getElem h]
 rfl
set_option maxRecDepth 100000 in
set_option maxHeartbeats 1000000 in
theorem step_ref (l : List UInt8) (hl : l.length = 16) (i j : Nat) (hi : i < 256) (hj : j < 256) (w : World) :
  Calls Tryz.prog 144 #[.agg (bcells l), .int .i64 (i : Int), .int .i64 (j : Int)] w fun e w' => e = .returned (.agg (bcells (stp l i j))) ∧ Below w.heap.size w w' := by
 have hsho : ∀ (V : World) (v : Value), V.ownsRow (w.heap.size + 2) 5 1 v (l ++ [UInt8.ofNat i, UInt8.ofNat j]).length (bvals (l ++ [UInt8.ofNat i, UInt8.ofNat j])) → Calls Tryz.prog 121 #[v] V fun e w' => e = .returned (.agg (bcells (stp l i j))) ∧ Below V.heap.size V w' := fun V v ho => by
  obtain ⟨A, c, rfl, h1, h2, h3, h4⟩ := own_rd7 ho
  exact short_ref _ A c (by rw [List.length_append, hl]; show 16 + 2 ≤ 100000; decide) h1 h3 V h4
 obtain ⟨F, hF⟩ : ∃ F, stp l i j = F := ⟨_, rfl⟩
 have hF16 : F.length = 16 := by rw [← hF]; exact stp_len _ _ _
 rw [hF] at hsho ⊢
 have hwi := u8_wrap i hi
 have hwj := u8_wrap j hj
 obtain ⟨a, ha⟩ : ∃ a, UInt8.ofNat i = a := ⟨_, rfl⟩
 obtain ⟨b, hb⟩ : ∃ b, UInt8.ofNat j = b := ⟨_, rfl⟩
 rw [ha] at hwi hsho
 rw [hb] at hwj hsho
 have SH := Lib.hid hsho
 have HSZ := Lib.hid (sz16 F hF16)
 have hso : (16 : Nat) = (bcells F).size := by rw [bcells_size, hF16]
 have HSO := Lib.hid hso
 have HL := Lib.hid hl
 clear hsho hF hF16 hi hj ha hb hso hl
 go_enter Tryz.func144, Tryz.ntmps144
 go_upto_region 1 with (fail)
 generalize hV : World.alloc (World.alloc w _) _ = V
 have hb0 : Below w.heap.size w V := by rw [← hV]; exact (below_new _ _).alloc (by simp) _
 have hr0 : V.heap[w.heap.size]? = some (.cells (bcells l) 41 (0, 0)) := by rw [← hV]; exact heap_alloc2_old _ _ _
 have hr1 : V.heap[w.heap.size + 1]? = some (.cells (bcells (List.replicate 16 0)) 41 (0, 0)) := by rw [← hV]; exact (heap_alloc2_new _ _ _).trans rfl
 have hz : V.heap.size = w.heap.size + 2 := by rw [← hV]; simp
 have HC0 := Lib.hid (And.intro hb0 (And.intro hr0 (And.intro hr1 (show w.heap.size + 2 ≤ V.heap.size by omega))))
 clear hV hb0 hr0 hr1 hz
 go_wp2_with fail
 go_loopw [7, 8] (fun v x wr => ∃ k : Nat, k ≤ 16 ∧ x = .int .i64 (k : Int) ∧ RowKit.Hid (wr.ownsRow (w.heap.size + 2) 5 1 v k (bvals (l.take k))) ∧ RowKit.Hid (Below w.heap.size w wr ∧ wr.heap[w.heap.size]? = some (.cells (bcells l) 41 (0, 0)) ∧ wr.heap[w.heap.size + 1]? = some (.cells (bcells (List.replicate 16 0)) 41 (0, 0)) ∧ w.heap.size + 2 ≤ wr.heap.size)) (fun _ x _ => 16 - (intOf x).toNat)
 case atStart => exact ⟨0, by omega, rfl, Lib.hid ⟨rfl, Or.inl ⟨rfl, rfl⟩⟩, HC0⟩
 case round =>
  clear HC0
  obtain ⟨k, hk, rfl, HO, HC⟩ := hrel
  by_cases hlt : k < 16
  ·
   have hki : (k : Int) < 16 := by omega
   have hc : wr.cell? ⟨w.heap.size, k, none⟩ = some (.int .u8 ((l.getD k 0).toNat : Int)) := by
    rw [cell_of_row _ _ _ _ _ _ HC.out.2.1, bcells_at _ _ (by rw [HL.out]; exact hlt)]
   have hts := take_snoc7 l k (by rw [HL.out]; exact hlt)
   obtain ⟨y, hy⟩ : ∃ y, l.getD k 0 = y := ⟨_, rfl⟩
   rw [hy] at hc hts
   have HTS := Lib.hid hts
   clear hts hy
   go_wp2_with (at_builtin; refine append_src7 rfl (.tmp 13) (.tmp 17) rfl (w.heap.size + 2) _ _ _ rfl (HO.out.alloc _) (some ⟨wr.heap.size, 0, none⟩) [y] 1 1 rfl rfl (fun e => by cases e) (srcAt_row (heap_alloc_new _ _)) (by omega) (by have := HC.out.2.2.2; simp; omega) ?_; intro v' w5 hown5 hgrow5; have HO5 := Lib.hid hown5; have HG5 := Lib.hid hgrow5; clear hown5 hgrow5)
   have hne : ∀ j, Value.ownBlock u7 = some j → w.heap.size + 2 ≤ j := fun j hj => (own_ge7 HO.out hj).1
   have h9 := HC.out.2.2.2
   have hsz5 := HG5.out.size
   rw [World.size_alloc] at hsz5
   refine ⟨⟨k + 1, by omega, by go_num, Lib.hid ?_, Lib.hid ⟨(HC.out.1.alloc HC.out.1.size _).grown HG5.out (by simp; omega) (fun j hj => (by have := hne j hj; omega)), ?_, ?_, by omega⟩⟩, by simp [intOf]; omega⟩
   ·
    rw [HTS.out, bvals_app]
    exact HO5.out
   ·
    rw [HG5.out.block w.heap.size (by simp; omega) (fun e => by have := hne _ e.symm; omega), Below.heap_alloc _ _ _ (by omega)]
    exact HC.out.2.1
   ·
    rw [HG5.out.block (w.heap.size + 1) (by simp; omega) (fun e => by have := hne _ e.symm; omega), Below.heap_alloc _ _ _ (by omega)]
    exact HC.out.2.2.1
  ·
   have hkk : k = 16 := by omega
   subst hkk
   have hge : ¬ ((16 : Nat) : Int) < 16 := by omega
   have hl16 : l.take 16 = l := List.take_of_length_le (by rw [HL.out]; exact Nat.le_refl _)
   have hho : wr.ownsRow (w.heap.size + 2) 5 1 u7 l.length (bvals l) := by rw [HL.out]; have h := HO.out; rw [hl16] at h; exact h
   have HHO := Lib.hid hho
   have h9 := HC.out.2.2.2
   have H9 := Lib.hid h9
   clear hl16 hho HO h9
   go_wp2_with (at_builtin; refine append_src7 rfl (.tmp 19) (.tmp 24) rfl (w.heap.size + 2) _ _ _ rfl (HHO.out.alloc _) (some ⟨wr.heap.size, 0, none⟩) [a, b] 2 2 rfl rfl (fun e => by cases e) (srcAt_row (heap_alloc_new _ _)) (by rw [HL.out]; decide) (by have := H9.out; simp; omega) ?_; intro v' w5 hown5 hgrow5; have HO5 := Lib.hid hown5; have HG5 := Lib.hid hgrow5; clear hown5 hgrow5)
   have hne : ∀ j, Value.ownBlock u7 = some j → w.heap.size + 2 ≤ j := fun j hj => (own_ge7 HHO.out hj).1
   have h9 := H9.out
   have hbw5 : Below w.heap.size w w5 := (HC.out.1.alloc HC.out.1.size _).grown HG5.out (by simp; omega) (fun j hj => (by have := hne j hj; omega))
   have hr5 : w5.heap[w.heap.size + 1]? = some (.cells (bcells (List.replicate 16 0)) 41 (0, 0)) := by
    rw [HG5.out.block (w.heap.size + 1) (by simp; omega) (fun e => by have := hne _ e.symm; omega), Below.heap_alloc _ _ _ (by omega)]
    exact HC.out.2.2.1
   have hown5 : w5.ownsRow (w.heap.size + 2) 5 1 v' (l ++ [a, b]).length (bvals (l ++ [a, b])) := by
    rw [List.length_append, bvals_app]
    exact HO5.out
   have HB5 := Lib.hid hbw5
   have HR5 := Lib.hid hr5
   have HOW5 := Lib.hid hown5
   clear hne h9 hbw5 hr5 hown5 HO5 HG5
   refine (SH.out w5 v' HOW5.out).mono ?_
   rintro e w6 ⟨rfl, hb6⟩
   have HR6 := Lib.hid ((hb6.block _ (Array.getElem?_eq_some_iff.1 HR5.out).1).trans HR5.out)
   have HB6 := Lib.hid (chain HB5.out hb6)
   clear hb6
   go_wp2_with (refine wpList_store_row rfl 41 (.tmp 6) (.tmp 26) rfl (w.heap.size + 1) (bcells F) rfl rfl 41 _ HR6.out HSZ.out HSO.out (bcells_one _) ?_)
   refine bodyPost_ret (v := .agg (bcells F)) (results_cell_row rfl _ _ (w.heap.size + 1) 41 _ (0, 0) _ rfl (setRow_heap _ _ _ _ _ _ HR6.out) Tryz.underlying41 rfl HSZ.out) rfl ⟨rfl, ?_⟩
   exact below_row HB6.out (by omega) _
set_option maxRecDepth 100000 in
set_option maxHeartbeats 1000000 in
theorem chain_ref (l : List UInt8) (hl : l.length = 16) (i b : Nat) (hi : i < 256) (hb : b ≤ 256) (w : World) :
  Calls Tryz.prog 120 #[.agg (bcells l), .int .i64 (i : Int), .int .i64 (b : Int)] w fun e w' => e = .returned (.agg (bcells (chn l i b))) ∧ Below w.heap.size w w' := by
 have hm0 := fun (V : World) => step_ref l hl i 255 hi (by decide) V
 have hm := fun (k : Nat) (hk : k < b) (V : World) => step_ref (chn l i k) (chn_len l i k) i k hi (by omega) V
 have hl2 := fun k => chn_len l i k
 have hms : ∀ k, stp (chn l i k) i k = chn l i (k + 1) := fun k => by
  unfold chn
  rw [clm, Nat.zero_add]
 have hm00 : stp l i 255 = chn l i 0 := rfl
 rw [hm00] at hm0
 simp only [hms] at hm
 obtain ⟨G, hG⟩ : ∃ G : Nat → List UInt8, ∀ k, chn l i k = G k := ⟨_, fun _ => rfl⟩
 simp only [hG] at hm0 hm hl2 ⊢
 have HM0 := Lib.hid hm0
 have HM := Lib.hid hm
 have HL := Lib.hid hl2
 have HSZL := Lib.hid (sz16 l hl)
 clear hm0 hm hl2 hms hm00 hG hl
 go_enter Tryz.func120, Tryz.ntmps120
 go_upto_region 1 with (fail)
 generalize hV : World.alloc (World.alloc w _) _ = V
 have hb0 : Below w.heap.size w V := by rw [← hV]; exact (below_new _ _).alloc (by simp) _
 have hr0 : V.heap[w.heap.size]? = some (.cells (bcells l) 41 (0, 0)) := by rw [← hV]; exact heap_alloc2_old _ _ _
 have hr1 : V.heap[w.heap.size + 1]? = some (.cells (bcells (List.replicate 16 0)) 41 (0, 0)) := by rw [← hV]; exact (heap_alloc2_new _ _ _).trans rfl
 have HB0 := Lib.hid hb0
 have HR0 := Lib.hid hr0
 have HR1 := Lib.hid hr1
 clear hV hb0 hr0 hr1
 go_wp2_with (refine wpList_load_row rfl 41 (.tmp 3) rfl w.heap.size rfl 41 (bcells l) (0, 0) _ HR0.out Tryz.underlying41 rfl HSZL.out ?_)
 refine (HM0.out V).mono ?_
 rintro e w1 ⟨rfl, hb1⟩
 have HB1 := Lib.hid (HB0.out.trans (hb1.mono (HB0.out.size)))
 have HR11 := Lib.hid ((hb1.block _ (Array.getElem?_eq_some_iff.1 HR1.out).1).trans HR1.out)
 have HZ := Lib.hid (show w.heap.size + 1 < w1.heap.size by have := (Array.getElem?_eq_some_iff.1 HR1.out).1; have := hb1.size; omega)
 have HSZ0 := Lib.hid (sz16 (G 0) (HL.out 0))
 have hso0 : (16 : Nat) = (bcells (G 0)).size := by rw [bcells_size, HL.out 0]
 have HSO0 := Lib.hid hso0
 clear hb1 hso0
 go_wp2_with (refine wpList_store_row rfl 41 (.tmp 7) (.tmp 11) rfl w1.heap.size (bcells (G 0)) rfl rfl 41 _ (heap_alloc_new _ _) HSZ0.out HSO0.out (bcells_one _) ?_)
 rw [World.setRow_alloc_new]
 obtain ⟨X, hX⟩ : ∃ X, w1.heap.size = X := ⟨_, rfl⟩
 generalize hV2 : World.alloc w1 _ = V2
 have hb2 : Below w1.heap.size w1 V2 := by rw [← hV2]; exact below_new _ _
 have hc0 : Below w.heap.size w V2 ∧ V2.heap[X]? = some (.cells (bcells (G 0)) 41 (0, 0)) ∧ V2.heap[w.heap.size + 1]? = some (.cells (bcells (List.replicate 16 0)) 41 (0, 0)) := ⟨chain HB1.out hb2, by rw [← hV2, ← hX]; exact heap_alloc_new _ _, (hb2.block _ HZ.out).trans HR11.out⟩
 have HC0 := Lib.hid hc0
 have HZX : RowKit.Hid (w.heap.size + 1 < X) := Lib.hid (by rw [← hX]; exact HZ.out)
 try simp only [hX]
 try simp only [Act.put]
 clear hV2 hb2 hc0 hX HB1 HR11 HR0 HR1 HB0 HZ
 go_wp2_with fail
 go_loopw [8] (fun x wr => ∃ k : Nat, k ≤ b ∧ x = .int .i64 (k : Int) ∧ RowKit.Hid (Below w.heap.size w wr ∧ wr.heap[X]? = some (.cells (bcells (G k)) 41 (0, 0)) ∧ wr.heap[w.heap.size + 1]? = some (.cells (bcells (List.replicate 16 0)) 41 (0, 0)))) (fun x _ => b - (intOf x).toNat)
 case atStart => exact ⟨0, by omega, rfl, HC0⟩
 case round =>
  clear HC0
  obtain ⟨k, hk, rfl, HC⟩ := hrel
  have hZX := HZX.out
  by_cases hlt : k < b
  ·
   have hki : (k : Int) < (b : Int) := by omega
   have HSZ0 := Lib.hid (sz16 _ (HL.out k))
   have hcall := fun V => HM.out k hlt V
   obtain ⟨F, hF⟩ : ∃ F, G (k + 1) = F := ⟨_, rfl⟩
   have hF16 : F.length = 16 := by rw [← hF]; exact HL.out _
   rw [hF] at hcall
   have hso : (bcells (G k)).size = (bcells F).size := by rw [bcells_size, bcells_size, hF16]; exact HL.out k
   have HSO := Lib.hid hso
   have HSZ := Lib.hid (sz16 F hF16)
   have HF2 := Lib.hid hF
   have HCALL := Lib.hid hcall
   obtain ⟨C, hC⟩ : ∃ C, G k = C := ⟨_, rfl⟩
   have HC1 := Lib.hid HC.out.1
   have HC2 := Lib.hid HC.out.2.1
   have HC3 := Lib.hid HC.out.2.2
   rw [hC] at HSZ0 HCALL HSO HC2
   clear hcall hF hF16 hso hC HC
   go_wp2_with (refine wpList_load_row rfl 41 (.tmp 7) rfl X rfl 41 (bcells C) (0, 0) _ HC2.out Tryz.underlying41 rfl HSZ0.out ?_)
   refine (HCALL.out _).mono ?_
   rintro e w2 ⟨rfl, hb2⟩
   have HR0 := Lib.hid ((hb2.block X (Array.getElem?_eq_some_iff.1 HC2.out).1).trans HC2.out)
   have HR1 := Lib.hid ((hb2.block (w.heap.size + 1) (Array.getElem?_eq_some_iff.1 HC3.out).1).trans HC3.out)
   have HB2 := Lib.hid (chain HC1.out hb2)
   clear hb2
   go_wp2_with (refine wpList_store_row rfl 41 (.tmp 7) (.tmp 20) rfl X (bcells F) rfl rfl 41 _ HR0.out HSZ.out HSO.out (bcells_one _) ?_)
   refine ⟨⟨k + 1, by omega, by go_num, Lib.hid ⟨below_row HB2.out (by omega) _, ?_, ?_⟩⟩, by simp [intOf]; omega⟩
   ·
    rw [HF2.out]
    exact setRow_heap _ _ _ _ _ _ HR0.out
   ·
    exact (setRow_other _ _ _ _ (by omega)).trans HR1.out
  ·
   have hge : ¬ (k : Int) < (b : Int) := by omega
   have hkb : k = b := by omega
   subst hkb
   have HSZ0 := Lib.hid (sz16 _ (HL.out k))
   obtain ⟨C, hC⟩ : ∃ C, G k = C := ⟨_, rfl⟩
   have hC16 : C.length = 16 := by rw [← hC]; exact HL.out _
   have HC1 := Lib.hid HC.out.1
   have HC2 := Lib.hid HC.out.2.1
   have HC3 := Lib.hid HC.out.2.2
   rw [hC] at HSZ0 HC2
   have HCE := Lib.hid hC
   have hso : (bcells (List.replicate 16 (0 : UInt8))).size = (bcells C).size := by rw [bcells_size, bcells_size, hC16]; rfl
   have HSO := Lib.hid hso
   clear hC hC16 HC hso
   go_wp2_with (first | (refine wpList_load_row rfl 41 (.tmp 7) rfl X rfl 41 (bcells C) (0, 0) _ HC2.out Tryz.underlying41 rfl HSZ0.out ?_) | (refine wpList_store_row rfl 41 (.tmp 6) (.tmp 21) rfl (w.heap.size + 1) (bcells C) rfl rfl 41 _ HC3.out HSZ0.out HSO.out (bcells_one _) ?_))
   refine bodyPost_ret (v := .agg (bcells C)) (results_cell_row rfl _ _ (w.heap.size + 1) 41 _ (0, 0) _ rfl (setRow_heap _ _ _ _ _ _ HC3.out) Tryz.underlying41 rfl HSZ0.out) rfl ⟨by rw [HCE.out], ?_⟩
   exact below_row HC1.out (by omega) _
end Go.Proofs.YtcgffkkfeimifaaGreatDoor
namespace Go.Proofs.YtcgffkkfeimifaaGreatDoor
open Go.RowKit Sha Ots
set_option linter.unusedVariables false
set_option linter.unusedSimpArgs false
set_option maxRecDepth 100000 in
set_option maxHeartbeats 2000000 in
theorem joined_ref (ls : List (List UInt8)) (A : Option Addr) (c : Nat) (hn : ls.length ≤ 1000) (w : World) (hs : Shorts A ls w) :
  Calls Tryz.prog 146 #[.slice A ls.length c] w fun e w' => e = .returned (.agg (bcells (sh ls.flatten))) ∧ Below w.heap.size w w' := by
 obtain ⟨F, hF⟩ : ∃ F, ls.flatten = F := ⟨_, rfl⟩
 have hFl : F.length ≤ 16000 := by rw [← hF, flat_len ls hs.len]; omega
 have hsho : ∀ (V : World) (v : Value), V.ownsRow (w.heap.size + 1) 5 1 v F.length (bvals F) → Calls Tryz.prog 121 #[v] V fun e w' => e = .returned (.agg (bcells (sh F))) ∧ Below V.heap.size V w' := fun V v ho => by
  obtain ⟨A, c, rfl, h1, h2, h3, h4⟩ := own_rd7 ho
  exact short_ref _ A c (by omega) h1 h3 V h4
 rw [hF]
 obtain ⟨R, hR⟩ : ∃ R, sh F = R := ⟨_, rfl⟩
 have hR16 : R.length = 16 := by rw [← hR]; exact sh_len _
 rw [hR] at hsho ⊢
 obtain ⟨n, hnn⟩ : ∃ n, ls.length = n := ⟨_, rfl⟩
 rw [hnn] at hn ⊢
 have HN := Lib.hid hnn
 have HF := Lib.hid hF
 have HS := Lib.hid hs
 have SH := Lib.hid hsho
 have HSZ := Lib.hid (sz16 R hR16)
 have hso : (16 : Nat) = (bcells R).size := by rw [bcells_size, hR16]
 have HSO := Lib.hid hso
 have HFL := Lib.hid hFl
 clear hF hFl hsho hR hR16 hnn hs hso
 go_enter Tryz.func146, Tryz.ntmps146
 go_wp2_with fail
 have hr0 : (w.alloc (.cells (bcells (List.replicate 16 0)) 41)).heap[w.heap.size]? = some (.cells (bcells (List.replicate 16 0)) 41 (0, 0)) := heap_alloc_new _ _
 have HR0 := Lib.hid hr0
 clear hr0
 go_loopw [3, 4, 5] (fun v i _ wr => ∃ (k : Nat) (done : List UInt8), k ≤ n ∧ i = .int .i64 (k : Int) ∧ RowKit.Hid (F = done ++ (ls.drop k).flatten) ∧ RowKit.Hid (wr.ownsRow (w.heap.size + 1) 5 1 v done.length (bvals done)) ∧ RowKit.Hid (Below w.heap.size w wr ∧ w.heap.size + 1 ≤ wr.heap.size ∧ wr.heap[w.heap.size]? = some (.cells (bcells (List.replicate 16 0)) 41 (0, 0)))) (fun _ i _ _ => n - (intOf i).toNat)
 case atStart => exact ⟨0, [], by omega, rfl, Lib.hid HF.out.symm, Lib.hid ⟨rfl, Or.inl ⟨rfl, rfl⟩⟩, Lib.hid ⟨below_new _ _, by simp, HR0.out⟩⟩
 case round =>
  clear HR0
  obtain ⟨k, done, hk, rfl, HD, HO, HB⟩ := hrel
  by_cases hlt : k < n
  ·
   obtain ⟨x, hx⟩ : ∃ x, ls[k]? = some x := ⟨_, List.getElem?_eq_getElem (by rw [HN.out]; exact hlt)⟩
   obtain ⟨g, o, rfl, hrg⟩ := HS.out.row k x hx
   have hx16 : x.length = 16 := HS.out.len x (List.mem_of_getElem? hx)
   rw [Nat.mul_comm] at hrg
   have HRG := Lib.hid hrg
   have hdk : ls.drop k = x :: ls.drop (k + 1) := by
    obtain ⟨hlt2, e⟩ := List.getElem?_eq_some_iff.1 hx
    rw [List.drop_eq_getElem_cons hlt2, e]
   have hd2 : F = (done ++ x) ++ (ls.drop (k + 1)).flatten := by rw [HD.out, hdk, List.flatten_cons, List.append_assoc]
   have hdl : done.length + 16 ≤ 16000 := by
    have h := congrArg List.length hd2
    have h2 := HFL.out
    rw [List.length_append, List.length_append] at h
    omega
   have HD2 := Lib.hid hd2
   have HDL := Lib.hid hdl
   have HX16 := Lib.hid hx16
   have hki : (k : Int) < (n : Int) := by omega
   have HO0 : RowKit.Hid (wr.ownsRow (w.heap.size + 1) 5 1 u3 (done ++ x.take 0).length (bvals (done ++ x.take 0))) := Lib.hid (by rw [List.take_zero, List.append_nil]; exact HO.out)
   clear hx hrg hdk hd2 hdl hx16 HD HO
   go_wp2_with fail
   go_loopw [3, 5] (fun v y wz => ∃ j : Nat, j ≤ 16 ∧ y = .int .i64 (j : Int) ∧ RowKit.Hid (wz.ownsRow (w.heap.size + 1) 5 1 v (done ++ x.take j).length (bvals (done ++ x.take j))) ∧ RowKit.Hid (Below w.heap.size w wz ∧ w.heap.size + 1 ≤ wz.heap.size ∧ wz.heap[w.heap.size]? = some (.cells (bcells (List.replicate 16 0)) 41 (0, 0)))) (fun _ y _ => 16 - (intOf y).toNat)
   case atStart => exact ⟨0, by omega, rfl, HO0, HB⟩
   case round =>
    clear HO0 HB
    obtain ⟨j, hj, rfl, HO, HB⟩ := hrel
    by_cases hlj : j < 16
    ·
     have hji : (j : Int) < 16 := by omega
     have hc : wr.cell? ⟨g, o + k * 16 + j, none⟩ = some (.int .u8 ((x.getD j 0).toNat : Int)) := by
      refine rangeAt_on HRG.out HB.out.1 j _ ?_
      unfold bvals
      rw [List.getElem?_map, List.getElem?_eq_getElem (by rw [HX16.out]; exact hlj), List.getD_eq_getElem?_getD, List.getElem?_eq_getElem (by rw [HX16.out]; exact hlj)]
      rfl
     have hts := take_snoc7 x j (by rw [HX16.out]; exact hlj)
     obtain ⟨y, hy⟩ : ∃ y, x.getD j 0 = y := ⟨_, rfl⟩
     rw [hy] at hc hts
     have HTS := Lib.hid hts
     have hdl2 : (done ++ x.take j).length ≤ 16000 := by have := HDL.out; rw [List.length_append, List.length_take, HX16.out]; omega
     have HDL2 := Lib.hid hdl2
     clear hts hy hdl2
     go_wp2_with (at_builtin; go_loud (refine append_src7 rfl (.tmp 16) (.tmp 23) rfl (w.heap.size + 1) _ _ _ rfl (HO.out.alloc _) (some ⟨wr.heap.size, 0, none⟩) [y] 1 1 rfl rfl (fun e => by cases e) (srcAt_row (heap_alloc_new _ _)) (by have := HDL2.out; omega) (by have := HB.out.2.1; simp; omega) ?_); intro v' w5 hown5 hgrow5; have HO5 := Lib.hid hown5; have HG5 := Lib.hid hgrow5; clear hown5 hgrow5)
     have hne : ∀ j, Value.ownBlock u3 = some j → w.heap.size + 1 ≤ j := fun j hj => (own_ge7 HO.out hj).1
     have h9 := HB.out.2.1
     have hsz5 := HG5.out.size
     rw [World.size_alloc] at hsz5
     refine ⟨⟨j + 1, by omega, by go_num, Lib.hid ?_, Lib.hid ⟨(HB.out.1.alloc HB.out.1.size _).grown HG5.out (by simp; omega) (fun j hj => (by have := hne j hj; omega)), by omega, ?_⟩⟩, by simp [intOf]; omega⟩
     ·
      have hle : (done ++ x.take j ++ [y]).length = (done ++ x.take j).length + 1 := by rw [List.length_append]; rfl
      rw [HTS.out, ← List.append_assoc, hle, bvals_app (done ++ x.take j)]
      exact HO5.out
     ·
      rw [HG5.out.block w.heap.size (by simp; omega) (fun e => by have := hne _ e.symm; omega), Below.heap_alloc _ _ _ (by omega)]
      exact HB.out.2.2
    ·
     have hjj : j = 16 := by omega
     subst hjj
     have hge : ¬ ((16 : Nat) : Int) < 16 := by omega
     have hl16 : x.take 16 = x := List.take_of_length_le (by rw [HX16.out]; exact Nat.le_refl _)
     rw [hl16] at HO
     clear hl16
     go_wp2_with fail
     exact ⟨⟨k + 1, done ++ x, by omega, by go_num, HD2, HO, HB⟩, by simp [intOf]; omega⟩
  ·
   have hge : ¬ (k : Int) < (n : Int) := by omega
   have hfin : F = done := by rw [HD.out, List.drop_of_length_le (by rw [HN.out]; omega)]; simp
   have HO2 : RowKit.Hid (wr.ownsRow (w.heap.size + 1) 5 1 u3 F.length (bvals F)) := Lib.hid (by rw [hfin]; exact HO.out)
   clear hfin HO HD
   go_wp2_with fail
   refine (SH.out _ _ HO2.out).mono ?_
   rintro e w2 ⟨rfl, hb2⟩
   have HR2 := Lib.hid ((hb2.block w.heap.size (by have := HB.out.2.1; omega)).trans HB.out.2.2)
   have HB2 := Lib.hid (chain HB.out.1 hb2)
   clear hb2
   go_wp2_with (refine wpList_store_row rfl 41 (.tmp 2) (.tmp 26) rfl w.heap.size (bcells R) rfl rfl 41 _ HR2.out HSZ.out HSO.out (bcells_one _) ?_)
   refine bodyPost_ret (v := .agg (bcells R)) (results_cell_row rfl _ _ w.heap.size 41 _ (0, 0) _ rfl (setRow_heap _ _ _ _ _ _ HR2.out) Tryz.underlying41 rfl HSZ.out) rfl ⟨rfl, ?_⟩
   exact below_row HB2.out (Nat.le_refl _) _
end Go.Proofs.YtcgffkkfeimifaaGreatDoor
namespace Go.Proofs.YtcgffkkfeimifaaGreatDoor
open Go.RowKit Sha Ots
set_option linter.unusedVariables false
set_option linter.unusedSimpArgs false
theorem append_ints {w : World} {ops : Array Oper} {rest : List Oper} {o : Oper} {a : Act} {Q : Exit → Act → World → Prop} (hgd : o.guard = none) (s x : Operand)
  (ho : o.op = .call { callee := .builtin .append, args := #[s, x], argTypes := #[145, 145] }) (base : Nat) (v : Value) (n : Nat) (xs : List Value) (hs : a.eval s = v) (hown : w.ownsRow base 3 1 v n xs)
  (ad : Addr) (m c : Nat) (news : List Value) (hx : a.eval x = .slice (some ad) m c) (hm : news.length = m) (hc : ∀ j u, news[j]? = some u → w.cell? (ad.add j) = some u) (h1 : ∀ u ∈ news, u.oneCell' = true) (h63 : n + m ≤ 1000000) (hbase : base ≤ w.heap.size)
  (h : ∀ v' w', w'.ownsRow base 3 1 v' (n + m) (xs ++ news) → w.grownBy w' v.ownBlock → wpList Tryz.prog ops Q rest (a.put o.dst v') w') : wpList Tryz.prog ops Q (o :: rest) a w := by
 obtain ⟨i0, hi, hz0, hz1, hz2⟩ := info_parts Tryz.info_int
 exact wpList_append_own _ hgd s x 145 ho base 3 i0 (.int .i64 0) 1 8 Tryz.underlying145 hi hz0 hz1 hz2 rfl (by decide) v n xs hs hown ad m c news hx (by rw [hm, Nat.mul_one]) hc h1 (by unfold maxLen; omega) (by omega) hbase (fun v' w' h1 h2 _ => h v' w' h1 h2)
theorem own_geI {w : World} {b n k : Nat} {v : Value} {xs : List Value} (h : w.ownsRow b 3 1 v n xs) (hk : v.ownBlock = some k) : b ≤ k ∧ k < w.heap.size := by
 obtain ⟨h1, ⟨rfl, _⟩ | ⟨g, cap, cur, rfl, h3, h4, _⟩⟩ := h
 ·
  cases hk
 ·
  obtain rfl : g = k := by simpa [Value.ownBlock] using hk
  exact ⟨h3, (Array.getElem?_eq_some_iff.1 h4).1⟩
theorem own_sliceI {w : World} {b n : Nat} {v : Value} {xs : List Value} (h : w.ownsRow b 3 1 v n xs) (hn : n ≠ 0) : ∃ X cap, v = .slice (some ⟨X, 0, none⟩) n cap ∧ b ≤ X := by
 obtain ⟨h1, ⟨rfl, h2⟩ | ⟨g, cap, cur, rfl, h3, h4, _⟩⟩ := h
 ·
  exact absurd h2 hn
 ·
  exact ⟨g, cap, rfl, h3⟩
theorem take_snocN (l : List Nat) (k : Nat) (h : k < l.length) : l.take (k + 1) = l.take k ++ [l.getD k 0] := by
 rw [List.take_succ_eq_append_getElem h, List.getD_eq_getElem?_getD, List.getElem?_eq_getElem h]
 rfl
set_option maxRecDepth 100000 in
set_option maxHeartbeats 2000000 in
theorem digits_ref (l : List UInt8) (A : Option Addr) (c : Nat) (hl : l.length ≤ 100000) (hc : l.length ≤ c) (hA : A = none → c = 0) (w : World) (hs : SrcAt A l w) :
  Calls Tryz.prog 119 #[.slice A l.length c] w fun e w' => ∃ X cap, e = .returned (.slice (some ⟨X, 0, none⟩) 35 cap) ∧ w.heap.size ≤ X ∧ Ints (some ⟨X, 0, none⟩) (dig l) w' ∧ Below w.heap.size w w' := by
 have hsho : Calls Tryz.prog 121 #[.slice A l.length c] w fun e w' => e = .returned (.agg (bcells (sh l))) ∧ Below w.heap.size w w' := short_ref l A c hl hc hA w hs
 have hdg : dig l = digs (sh l) := rfl
 rw [hdg]
 have h16 := sh_len l
 obtain ⟨s, hsq⟩ : ∃ s, sh l = s := ⟨_, rfl⟩
 rw [hsq] at hsho h16 ⊢
 have hnl : (nib s).length = 32 := by rw [nib_len, h16]
 have hnle := nib_le s
 have hnat := nib_at s
 rw [h16] at hnat
 have hc480 := csum_480 s h16
 have hdd : digs s = nib s ++ [csum (nib s) / 256, csum (nib s) / 16 % 16, csum (nib s) % 16] := rfl
 rw [hdd]
 obtain ⟨D, hD⟩ : ∃ D, nib s = D := ⟨_, rfl⟩
 rw [hD] at hnl hnle hnat hc480 ⊢
 have SH := Lib.hid hsho
 have HSZ := Lib.hid (sz16 s h16)
 have hso : (16 : Nat) = (bcells s).size := by rw [bcells_size, h16]
 have HSO := Lib.hid hso
 have HS16 := Lib.hid h16
 have HDL := Lib.hid hnl
 have HDLE := Lib.hid hnle
 have HDAT := Lib.hid hnat
 have HC480 := Lib.hid hc480
 obtain ⟨n, hn⟩ : ∃ n, l.length = n := ⟨_, rfl⟩
 rw [hn] at SH ⊢
 clear hsho hdg h16 hsq hnl hnle hnat hc480 hdd hD hso hn hs hl hc hA
 go_enter Tryz.func119, Tryz.ntmps119
 go_wp2_with fail
 refine SH.out.mono ?_
 rintro e w1 ⟨rfl, hb1⟩
 have HB1 := Lib.hid hb1
 clear hb1
 go_wp2_with (refine wpList_store_row rfl 41 (.tmp 3) (.tmp 9) rfl w1.heap.size (bcells s) rfl rfl 41 _ (heap_alloc_new _ _) HSZ.out HSO.out (bcells_one _) ?_)
 rw [World.setRow_alloc_new]
 obtain ⟨X, hX⟩ : ∃ X, w1.heap.size = X := ⟨_, rfl⟩
 generalize hV : World.alloc w1 _ = V
 have hb2 : Below w1.heap.size w1 V := by rw [← hV]; exact below_new _ _
 have hc0 : Below w.heap.size w V ∧ V.heap[X]? = some (.cells (bcells s) 41 (0, 0)) ∧ X + 1 ≤ V.heap.size ∧ w.heap.size ≤ X := ⟨chain HB1.out hb2, by rw [← hV, ← hX]; exact heap_alloc_new _ _, by rw [← hV, ← hX]; simp, by rw [← hX]; exact HB1.out.size⟩
 have HC0 := Lib.hid hc0
 try simp only [hX]
 try simp only [Act.put]
 clear hV hb2 hc0 hX HB1
 go_wp2_with fail
 go_loopw [4, 5, 6, 7] (fun v sm x _ wr => ∃ k : Nat, k ≤ 32 ∧ x = .int .i64 (k : Int) ∧ sm = .int .i64 ((csum (D.take k) : Nat) : Int) ∧ RowKit.Hid (wr.ownsRow (X + 1) 3 1 v k (ivals (D.take k))) ∧ RowKit.Hid (Below w.heap.size w wr ∧ wr.heap[X]? = some (.cells (bcells s) 41 (0, 0)) ∧ X + 1 ≤ wr.heap.size ∧ w.heap.size ≤ X)) (fun _ _ x _ _ => 32 - (intOf x).toNat)
 case atStart => exact ⟨0, by omega, rfl, rfl, Lib.hid ⟨rfl, Or.inl ⟨rfl, rfl⟩⟩, HC0⟩
 case round =>
  clear HC0
  obtain ⟨k, hk, rfl, rfl, HO, HC⟩ := hrel
  by_cases hlt : k < 32
  ·
   have hki : (k : Int) < 32 := by omega
   obtain ⟨m, hm⟩ : ∃ m, k / 2 = m := ⟨_, rfl⟩
   have hm16 : m < 16 := by omega
   have hmi : (k : Int) / 2 = (m : Int) := by omega
   have hmi2 : (m : Int) < 16 := by omega
   have hcell : wr.cell? ⟨X, m, none⟩ = some (.int .u8 ((s.getD m 0).toNat : Int)) := by
    rw [cell_of_row _ _ _ _ _ _ HC.out.2.1, bcells_at _ _ (by rw [HS16.out]; exact hm16)]
   have hdat := HDAT.out k (by omega)
   rw [hm] at hdat
   have hts := take_snocN D k (by rw [HDL.out]; exact hlt)
   have hdle : D.getD k 0 ≤ 15 := getD_le15 D HDLE.out k
   have hcl : csum (D.take k) ≤ 480 := by
    have h := csum_le (D.take k)
    rw [List.length_take, HDL.out] at h
    omega
   obtain ⟨b, hb⟩ : ∃ b, (s.getD m 0).toNat = b := ⟨_, rfl⟩
   have hb8 : b < 256 := by rw [← hb]; exact (s.getD m 0).toNat_lt
   rw [hb] at hcell hdat
   obtain ⟨d, hd⟩ : ∃ d, D.getD k 0 = d := ⟨_, rfl⟩
   rw [hd] at hdat hts hdle
   have hcs : ((csum (D.take (k + 1)) : Nat) : Int) = ((csum (D.take k) : Nat) : Int) + 15 - (d : Int) := by
    rw [hts, csum_app]
    simp only [csum]
    omega
   obtain ⟨C, hC⟩ : ∃ C, csum (D.take k) = C := ⟨_, rfl⟩
   rw [hC] at hcs hcl ⊢
   have HTS := Lib.hid hts
   have HCS := Lib.hid hcs
   have hnew : ivals [d] = [Value.int .i64 (d : Int)] := rfl
   clear hts hcs hb hd hC hm
   have h9 := HC.out.2.2.1
   have H9 := Lib.hid h9
   clear h9
   by_cases hpar : k % 2 = 0
   ·
    have hp1 : (k : Int) % 2 = 0 := by omega
    rw [if_pos hpar] at hdat
    have hdi : (b : Int) / 16 = (d : Int) := by omega
    clear hdat hpar
    go_wp2_with (at_builtin; refine append_ints rfl (.tmp 29) (.tmp 31) rfl (X + 1) _ _ _ rfl (HO.out.alloc _) ⟨wr.heap.size, 0, none⟩ 1 1 [.int .i64 (d : Int)] rfl rfl (new_cells _ _ _) (by intro u hu; simp at hu; subst hu; rfl) (by omega) (by have := H9.out; simp; omega) ?_; intro v' w5 hown5 hgrow5; have HO5 := Lib.hid hown5; have HG5 := Lib.hid hgrow5; clear hown5 hgrow5)
    have hne : ∀ j, Value.ownBlock u4 = some j → X + 1 ≤ j := fun j hj => (own_geI HO.out hj).1
    have h9 := H9.out
    have h10 := HC.out.2.2.2
    have hsz5 := HG5.out.size
    rw [World.size_alloc] at hsz5
    refine ⟨⟨k + 1, by omega, by go_num, by rw [HCS.out], Lib.hid ?_, Lib.hid ⟨(HC.out.1.alloc HC.out.1.size _).grown HG5.out (by simp; omega) (fun j hj => (by have := hne j hj; omega)), ?_, by omega, h10⟩⟩, by simp [intOf]; omega⟩
    ·
     rw [HTS.out, ivals_app]
     exact HO5.out
    ·
     rw [HG5.out.block X (by simp; omega) (fun e => by have := hne _ e.symm; omega), Below.heap_alloc _ _ _ (by omega)]
     exact HC.out.2.1
   ·
    have hp1 : (k : Int) % 2 = 1 := by omega
    rw [if_neg hpar] at hdat
    have hdi : (b : Int) % 16 = (d : Int) := by omega
    clear hdat hpar
    go_wp2_with (at_builtin; refine append_ints rfl (.tmp 29) (.tmp 31) rfl (X + 1) _ _ _ rfl (HO.out.alloc _) ⟨wr.heap.size, 0, none⟩ 1 1 [.int .i64 (d : Int)] rfl rfl (new_cells _ _ _) (by intro u hu; simp at hu; subst hu; rfl) (by omega) (by have := H9.out; simp; omega) ?_; intro v' w5 hown5 hgrow5; have HO5 := Lib.hid hown5; have HG5 := Lib.hid hgrow5; clear hown5 hgrow5)
    have hne : ∀ j, Value.ownBlock u4 = some j → X + 1 ≤ j := fun j hj => (own_geI HO.out hj).1
    have h9 := H9.out
    have h10 := HC.out.2.2.2
    have hsz5 := HG5.out.size
    rw [World.size_alloc] at hsz5
    refine ⟨⟨k + 1, by omega, by go_num, by rw [HCS.out], Lib.hid ?_, Lib.hid ⟨(HC.out.1.alloc HC.out.1.size _).grown HG5.out (by simp; omega) (fun j hj => (by have := hne j hj; omega)), ?_, by omega, h10⟩⟩, by simp [intOf]; omega⟩
    ·
     rw [HTS.out, ivals_app]
     exact HO5.out
    ·
     rw [HG5.out.block X (by simp; omega) (fun e => by have := hne _ e.symm; omega), Below.heap_alloc _ _ _ (by omega)]
     exact HC.out.2.1
  ·
   have hkk : k = 32 := by omega
   subst hkk
   have hge : ¬ ((32 : Nat) : Int) < 32 := by omega
   have hst : D.take 32 = D := List.take_of_length_le (by rw [HDL.out]; exact Nat.le_refl _)
   rw [hst] at HO ⊢
   have hcl := HC480.out
   obtain ⟨C, hC⟩ : ∃ C, csum D = C := ⟨_, rfl⟩
   rw [hC] at hcl ⊢
   have HCC := Lib.hid hC
   have hne : (ivals [C / 256, C / 16 % 16, C % 16]) = [Value.int .i64 ((C : Int) / 256), Value.int .i64 ((C : Int) / 16 % 16), Value.int .i64 ((C : Int) % 16)] := by simp [ivals]
   have HNE := Lib.hid hne
   have H9 := Lib.hid HC.out.2.2.1
   clear hst hC hne
   go_wp2_with (at_builtin; refine append_ints rfl (.tmp 37) (.tmp 45) rfl (X + 1) _ _ _ rfl (HO.out.alloc _) ⟨wr.heap.size, 0, none⟩ 3 3 [.int .i64 ((C : Int) / 256), .int .i64 ((C : Int) / 16 % 16), .int .i64 ((C : Int) % 16)] rfl rfl (new_cells _ _ _) (by intro u hu; simp at hu; rcases hu with rfl | rfl | rfl <;> rfl) (by omega) (by have := H9.out; simp; omega) ?_; intro v' w5 hown5 hgrow5; have HO5 := Lib.hid hown5; have HG5 := Lib.hid hgrow5; clear hown5 hgrow5)
   go_ret
   obtain ⟨Y, cap, rfl, hY⟩ := own_sliceI HO5.out (by decide)
   refine ⟨Y, ⟨cap, rfl⟩, by have := HC.out.2.2.2; omega, ?_, ?_⟩
   ·
    refine ints_own (b := X + 1) (n := 35) (c := cap) ?_
    rw [ivals_app, HCC.out, HNE.out]
    exact HO5.out
   ·
    have h9 := HC.out.2.2.2
    exact (HC.out.1.alloc HC.out.1.size _).grown HG5.out (by have := HC.out.1.size; simp; omega) (fun j hj => (by have := (own_geI HO.out hj).1; omega))
end Go.Proofs.YtcgffkkfeimifaaGreatDoor
namespace Go.Proofs.YtcgffkkfeimifaaGreatDoor
open Go.RowKit Sha Ots
set_option linter.unusedVariables false
set_option linter.unusedSimpArgs false
theorem append_shorts {w : World} {ops : Array Oper} {rest : List Oper} {o : Oper} {a : Act} {Q : Exit → Act → World → Prop} (hgd : o.guard = none) (s x : Operand)
  (ho : o.op = .call { callee := .builtin .append, args := #[s, x], argTypes := #[28, 28] }) (base : Nat) (v : Value) (n : Nat) (xs : List Value) (hs : a.eval s = v) (hown : w.ownsRow base 41 16 v n xs)
  (ad : Addr) (m c : Nat) (L : List UInt8) (hx : a.eval x = .slice (some ad) m c) (hm : L.length = m * 16) (hc : ∀ j u, (bvals L)[j]? = some u → w.cell? (ad.add j) = some u) (h63 : n + m ≤ 1000000) (hbase : base ≤ w.heap.size)
  (h : ∀ v' w', w'.ownsRow base 41 16 v' (n + m) (xs ++ bvals L) → w.grownBy w' v.ownBlock → wpList Tryz.prog ops Q rest (a.put o.dst v') w') : wpList Tryz.prog ops Q (o :: rest) a w := by
 obtain ⟨i0, hi, hz0, hz1, hz2⟩ := info_parts Tryz.info_short
 exact wpList_append_own _ hgd s x 28 ho base 41 i0 (.agg (bcells (List.replicate 16 0))) 16 16 Tryz.underlying28 hi hz0 hz1 hz2 rfl (by decide) v n xs hs hown ad m c (bvals L) hx (by rw [bvals_len, hm]) hc (fun u hu => by
  unfold bvals at hu
  obtain ⟨x, _, rfl⟩ := List.mem_map.1 hu
  rfl) (by unfold maxLen; omega) (by omega) hbase (fun v' w' h1 h2 _ => h v' w' h1 h2)
theorem fold_set : ∀ (l : List Value) (k : Nat) (A : Array Value), k + l.length ≤ A.size → ∀ j, ((l.zipIdx k).foldl (fun cs x => cs.setIfInBounds x.snd x.fst) A)[j]? = if k ≤ j ∧ j < k + l.length then l[j - k]? else A[j]?
 | [], k, A, _, j => by
  rw [if_neg (by simp <;> omega)]
  rfl
 | v :: r, k, A, h, j => by
  rw [List.length_cons] at h
  rw [List.zipIdx_cons, List.foldl_cons, fold_set r (k + 1) (A.setIfInBounds k v) (by simp; omega) j, List.length_cons]
  by_cases e : j = k
  ·
   subst e
   rw [if_neg (by omega), if_pos (by omega), Nat.sub_self, Array.getElem?_setIfInBounds]
   rw [if_pos rfl, if_pos (by omega)]
   rfl
  ·
   by_cases h1 : k + 1 ≤ j ∧ j < k + 1 + r.length
   ·
    rw [if_pos h1, if_pos (by omega), show j - k = (j - (k + 1)) + 1 by omega, List.getElem?_cons_succ]
   ·
    rw [if_neg h1, if_neg (by omega), Array.getElem?_setIfInBounds, if_neg (by omega)]
theorem fill_row (cs Z : Array Value) (h : Z.size = cs.size) : Array.foldl (fun cs x => cs.setIfInBounds x.snd x.fst) Z cs.zipIdx 0 cs.size = cs := by
 have e1 : Array.foldl (fun (cs : Array Value) (x : Value × Nat) => cs.setIfInBounds x.snd x.fst) Z cs.zipIdx 0 cs.size = (cs.toList.zipIdx 0).foldl (fun cs x => cs.setIfInBounds x.snd x.fst) Z := by
  have hz : cs.size = cs.zipIdx.size := by simp
  rw [hz, ← Array.foldl_toList, Array.toList_zipIdx]
 rw [e1]
 apply Array.ext_getElem?
 intro j
 rw [fold_set _ _ _ (by simp [h]) j]
 by_cases hj : j < cs.size
 ·
  rw [if_pos (by simp [hj])]
  simp
 ·
  rw [if_neg (by simp; omega), Array.getElem?_eq_none (by omega), Array.getElem?_eq_none (by omega)]
theorem fill_short (C : List UInt8) (hC : C.length = 16) (V : World) : (V.alloc (.cells (Array.foldl (fun cs x => cs.setIfInBounds x.snd x.fst) #[.int .u8 0, .int .u8 0, .int .u8 0, .int .u8 0, .int .u8 0, .int .u8 0, .int .u8 0, .int .u8 0, .int .u8 0, .int .u8 0, .int .u8 0, .int .u8 0, .int .u8 0, .int .u8 0, .int .u8 0, .int .u8 0] (bcells C).zipIdx 0 16) 41)).heap[V.heap.size]? = some (.cells (bcells C) 41 (0, 0)) := by
 have h16 : (bcells C).size = 16 := by rw [bcells_size, hC]
 have hf := fill_row (bcells C) #[.int .u8 0, .int .u8 0, .int .u8 0, .int .u8 0, .int .u8 0, .int .u8 0, .int .u8 0, .int .u8 0, .int .u8 0, .int .u8 0, .int .u8 0, .int .u8 0, .int .u8 0, .int .u8 0, .int .u8 0, .int .u8 0] h16.symm
 rw [h16] at hf
 rw [hf]
 exact heap_alloc_new _ _
theorem row_bvals {w : World} {g : Nat} {L : List UInt8} {t : TypeId} {fr : Nat × Nat} (h : w.heap[g]? = some (.cells (bcells L) t fr)) : ∀ j u, (bvals L)[j]? = some u → w.cell? ((⟨g, 0, none⟩ : Addr).add j) = some u := fun j u hj => by
 rw [add_eq, Nat.zero_add, cell_of_row _ _ _ _ _ _ h]
 unfold bcells
 unfold bvals at hj
 simpa using hj
theorem own_geS {w : World} {b n k : Nat} {v : Value} {xs : List Value} (h : w.ownsRow b 41 16 v n xs) (hk : v.ownBlock = some k) : b ≤ k ∧ k < w.heap.size := by
 obtain ⟨h1, ⟨rfl, _⟩ | ⟨g, cap, cur, rfl, h3, h4, _⟩⟩ := h
 ·
  cases hk
 ·
  obtain rfl : g = k := by simpa [Value.ownBlock] using hk
  exact ⟨h3, (Array.getElem?_eq_some_iff.1 h4).1⟩
theorem own_onS {w V : World} {b n : Nat} {v : Value} {xs : List Value} (h : w.ownsRow b 41 16 v n xs) (hb : Below w.heap.size w V) : V.ownsRow b 41 16 v n xs := by
 obtain ⟨h1, h2 | ⟨g, cap, cur, h3, h4, h5, h6⟩⟩ := h
 ·
  exact ⟨h1, .inl h2⟩
 ·
  exact ⟨h1, .inr ⟨g, cap, cur, h3, h4, (hb.block g (Array.getElem?_eq_some_iff.1 h5).1).trans h5, h6⟩⟩
theorem flat_at : ∀ (ls : List (List UInt8)), (∀ l ∈ ls, l.length = 16) → ∀ i l, ls[i]? = some l → ∀ j x, l[j]? = some x → ls.flatten[16 * i + j]? = some x
 | [], _, i, l, h, _, _, _ => by simp at h
 | a :: r, hl, 0, l, h, j, x, hj => by
  obtain rfl : a = l := by simpa using h
  rw [List.flatten_cons, List.getElem?_append_left (by have := (List.getElem?_eq_some_iff.1 hj).1; omega), Nat.mul_zero, Nat.zero_add]
  exact hj
 | a :: r, hl, i + 1, l, h, j, x, hj => by
  have ha := hl a (List.mem_cons_self ..)
  rw [List.flatten_cons, List.getElem?_append_right (by omega), ha, show 16 * (i + 1) + j - 16 = 16 * i + j by omega]
  exact flat_at r (fun l hl' => hl l (List.mem_cons_of_mem _ hl')) i l (by simpa using h) j x hj
theorem shorts_own {w : World} {b : Nat} {v : Value} {ls : List (List UInt8)} (hl : ∀ l ∈ ls, l.length = 16) (h : w.ownsRow b 41 16 v ls.length (bvals ls.flatten)) : ∃ A c, v = .slice A ls.length c ∧ ls.length ≤ c ∧ (A = none → c = 0) ∧ Shorts A ls w := by
 obtain ⟨h1, ⟨rfl, h2⟩ | ⟨g, cap, cur, rfl, h3, h4, h5, h6, h7, h8⟩⟩ := h
 ·
  have : ls = [] := List.length_eq_zero_iff.1 h2
  subst this
  exact ⟨none, 0, rfl, Nat.le_refl _, fun _ => rfl, fun i l hi => by simp at hi, fun l hl => by simp at hl⟩
 ·
  refine ⟨some ⟨g, 0, none⟩, cap, rfl, h5, (fun e => by cases e), fun i l hi => ⟨g, 0, rfl, fun j u hj => ?_⟩, hl⟩
  unfold bvals at hj
  rw [List.getElem?_map] at hj
  obtain ⟨x, hx, rfl⟩ := Option.map_eq_some_iff.1 hj
  have hf := flat_at ls hl i l hi j x hx
  rw [cell_of_row w g _ cur _ _ h4, Nat.zero_add, ← Array.getElem?_toList]
  have h9 : (cur.toList.take (ls.length * 16))[16 * i + j]? = some (.int .u8 (x.toNat : Int)) := by
   rw [h8]
   unfold bvals
   rw [List.getElem?_map, hf]
   rfl
  rw [List.getElem?_take] at h9
  split at h9
  ·
   exact h9
  ·
   cases h9
set_option maxRecDepth 100000 in
set_option maxHeartbeats 2000000 in
theorem public_ref (seed : List UInt8) (hs : seed.length = 16) (w : World) :
  Calls Tryz.prog 123 #[.agg (bcells seed)] w fun e w' => e = .returned (.agg (bcells (pub seed))) ∧ Below w.heap.size w w' := by
 have hch := fun (i : Nat) (hi : i < 35) (V : World) => chain_ref seed hs i 15 (by omega) (by decide) V
 have hl2 := fun k => chn_len seed k 15
 have hpb : pub seed = sh ((List.range 35).map fun i => chn seed i 15).flatten := rfl
 rw [hpb]
 obtain ⟨G, hG⟩ : ∃ G : Nat → List UInt8, ∀ k, chn seed k 15 = G k := ⟨_, fun _ => rfl⟩
 simp only [hG] at hch hl2 ⊢
 have hj := fun (V : World) (A : Option Addr) (c : Nat) (hsh : Shorts A ((List.range 35).map fun i => G i) V) => joined_ref ((List.range 35).map fun i => G i) A c (by rw [List.length_map, List.length_range]; decide) V hsh
 have hj2 : ∀ (V : World) (v : Value), V.ownsRow (w.heap.size + 2) 41 16 v 35 (bvals ((List.range 35).map fun i => G i).flatten) → Calls Tryz.prog 146 #[v] V fun e w' => e = .returned (.agg (bcells (sh ((List.range 35).map fun i => G i).flatten))) ∧ Below V.heap.size V w' := fun V v ho => by
  have hll : ((List.range 35).map fun i => G i).length = 35 := by rw [List.length_map, List.length_range]
  rw [← hll] at ho
  obtain ⟨A, c, rfl, _, _, hsh⟩ := shorts_own (fun l hl => by obtain ⟨i, _, rfl⟩ := List.mem_map.1 hl; exact hl2 i) ho
  exact hj V A c hsh
 have hsuc : ∀ k, ((List.range (k + 1)).map fun i => G i).flatten = ((List.range k).map fun i => G i).flatten ++ G k := fun k => by
  rw [List.range_succ, List.map_append, List.flatten_append]
  simp
 obtain ⟨FL, hFL⟩ : ∃ FL : Nat → List UInt8, ∀ k, ((List.range k).map fun i => G i).flatten = FL k := ⟨_, fun _ => rfl⟩
 have hF0 : FL 0 = [] := by rw [← hFL]; rfl
 simp only [hFL] at hj2 hsuc ⊢
 obtain ⟨R, hR⟩ : ∃ R, sh (FL 35) = R := ⟨_, rfl⟩
 have hR16 : R.length = 16 := by rw [← hR]; exact sh_len _
 rw [hR] at hj2 ⊢
 have CH := Lib.hid hch
 have HL := Lib.hid hl2
 have HJ := Lib.hid hj2
 have HSUC := Lib.hid hsuc
 have HF0 := Lib.hid hF0
 have HSZL := Lib.hid (sz16 seed hs)
 have HSZ := Lib.hid (sz16 R hR16)
 have hso : (16 : Nat) = (bcells R).size := by rw [bcells_size, hR16]
 have HSO := Lib.hid hso
 clear hch hl2 hpb hG hj hj2 hsuc hFL hF0 hR hR16 hso hs
 go_enter Tryz.func123, Tryz.ntmps123
 go_upto_region 1 with (fail)
 generalize hV : World.alloc (World.alloc w _) _ = V
 have hb0 : Below w.heap.size w V := by rw [← hV]; exact (below_new _ _).alloc (by simp) _
 have hr0 : V.heap[w.heap.size]? = some (.cells (bcells seed) 41 (0, 0)) := by rw [← hV]; exact heap_alloc2_old _ _ _
 have hr1 : V.heap[w.heap.size + 1]? = some (.cells (bcells (List.replicate 16 0)) 41 (0, 0)) := by rw [← hV]; exact (heap_alloc2_new _ _ _).trans rfl
 have hz : V.heap.size = w.heap.size + 2 := by rw [← hV]; simp
 have HC0 := Lib.hid (And.intro hb0 (And.intro hr0 (And.intro hr1 (show w.heap.size + 2 ≤ V.heap.size by omega))))
 clear hV hb0 hr0 hr1 hz
 go_wp2_with fail
 go_loopw [3, 4] (fun v x wr => ∃ k : Nat, k ≤ 35 ∧ x = .int .i64 (k : Int) ∧ RowKit.Hid (wr.ownsRow (w.heap.size + 2) 41 16 v k (bvals (FL k))) ∧ RowKit.Hid (Below w.heap.size w wr ∧ wr.heap[w.heap.size]? = some (.cells (bcells seed) 41 (0, 0)) ∧ wr.heap[w.heap.size + 1]? = some (.cells (bcells (List.replicate 16 0)) 41 (0, 0)) ∧ w.heap.size + 2 ≤ wr.heap.size)) (fun _ x _ => 35 - (intOf x).toNat)
 case atStart => exact ⟨0, by omega, rfl, Lib.hid (by rw [HF0.out]; exact ⟨rfl, Or.inl ⟨rfl, rfl⟩⟩), HC0⟩
 case round =>
  clear HC0
  obtain ⟨k, hk, rfl, HO, HC⟩ := hrel
  by_cases hlt : k < 35
  ·
   have hki : (k : Int) < 35 := by omega
   have hcall := fun V => CH.out k hlt V
   have hsuc := HSUC.out k
   have hg16 := HL.out k
   obtain ⟨C, hC⟩ : ∃ C, G k = C := ⟨_, rfl⟩
   rw [hC] at hcall hsuc hg16
   have HCALL := Lib.hid hcall
   have HSU := Lib.hid hsuc
   have HG16 := Lib.hid hg16
   have hbs : (bcells C).size = 16 := by rw [bcells_size, hg16]
   clear hcall hsuc hg16 hC
   go_wp2_with (refine wpList_load_row rfl 41 (.tmp 1) rfl w.heap.size rfl 41 (bcells seed) (0, 0) _ HC.out.2.1 Tryz.underlying41 rfl HSZL.out ?_)
   refine (HCALL.out wr).mono ?_
   rintro e w2 ⟨rfl, hb2⟩
   have HB2 := Lib.hid hb2
   clear hb2
   go_wp2_with (at_builtin; go_loud (refine append_shorts rfl (.tmp 9) (.tmp 13) rfl (w.heap.size + 2) _ _ _ rfl ((own_onS HO.out HB2.out).alloc _) ⟨w2.heap.size, 0, none⟩ 1 1 C rfl (by rw [HG16.out]) (row_bvals (fill_short C HG16.out w2)) (by omega) (by have h1 := HC.out.2.2.2; have h2 := HB2.out.size; rw [World.size_alloc]; omega) ?_); go_loud (intro v' w5 hown5 hgrow5); go_loud (have HO5 := Lib.hid hown5); go_loud (have HG5 := Lib.hid hgrow5); go_loud (clear hown5 hgrow5))
   have hne : ∀ j, Value.ownBlock u3 = some j → w.heap.size + 2 ≤ j := fun j hj => (own_geS HO.out hj).1
   have h9 := HC.out.2.2.2
   have h10 := HB2.out.size
   have hsz5 := HG5.out.size
   rw [World.size_alloc] at hsz5
   have hbw : Below w.heap.size w w2 := chain HC.out.1 HB2.out
   refine ⟨⟨k + 1, by omega, by go_num, Lib.hid ?_, Lib.hid ⟨(hbw.alloc hbw.size _).grown HG5.out (by rw [World.size_alloc]; omega) (fun j hj => (by have := hne j hj; omega)), ?_, ?_, by omega⟩⟩, by simp [intOf]; omega⟩
   ·
    rw [HSU.out, bvals_app]
    exact HO5.out
   ·
    rw [HG5.out.block w.heap.size (by rw [World.size_alloc]; omega) (fun e => by have := hne _ e.symm; omega), Below.heap_alloc _ _ _ (by omega)]
    exact (HB2.out.block _ (by omega)).trans HC.out.2.1
   ·
    rw [HG5.out.block (w.heap.size + 1) (by rw [World.size_alloc]; omega) (fun e => by have := hne _ e.symm; omega), Below.heap_alloc _ _ _ (by omega)]
    exact (HB2.out.block _ (by omega)).trans HC.out.2.2.1
  ·
   have hkk : k = 35 := by omega
   subst hkk
   have hge : ¬ ((35 : Nat) : Int) < 35 := by omega
   go_wp2_with fail
   refine (HJ.out wr u3 HO.out).mono ?_
   rintro e w2 ⟨rfl, hb2⟩
   have HR2 := Lib.hid ((hb2.block (w.heap.size + 1) (by have := HC.out.2.2.2; omega)).trans HC.out.2.2.1)
   have HB2 := Lib.hid (chain HC.out.1 hb2)
   clear hb2
   go_wp2_with (refine wpList_store_row rfl 41 (.tmp 2) (.tmp 16) rfl (w.heap.size + 1) (bcells R) rfl rfl 41 _ HR2.out HSZ.out HSO.out (bcells_one _) ?_)
   refine bodyPost_ret (v := .agg (bcells R)) (results_cell_row rfl _ _ (w.heap.size + 1) 41 _ (0, 0) _ rfl (setRow_heap _ _ _ _ _ _ HR2.out) Tryz.underlying41 rfl HSZ.out) rfl ⟨rfl, ?_⟩
   exact below_row HB2.out (by omega) _
end Go.Proofs.YtcgffkkfeimifaaGreatDoor
