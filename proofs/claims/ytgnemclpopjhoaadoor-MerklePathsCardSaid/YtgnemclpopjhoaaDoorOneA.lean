/-
  THE WALKS over the program's mark, begin, climb.
-/
import Derived.Test.YtgnemclpopjhoaaDoorDigRC
import Derived.Test.YtgnemclpopjhoaaDoorDigDoor
import Derived.Test.YtgnemclpopjhoaaDoorOneMath
import Derived.Deep.MidRow
import Derived.ArgAppend
namespace Go.Proofs.YtgnemclpopjhoaaDoor
open Go.RowKit Sha Ots
set_option linter.unusedVariables false
set_option linter.unusedSimpArgs false
theorem stp_len (x : List UInt8) (i j : Nat) : (stp x i j).length = 16 := sh_len _
theorem sz16 (l : List UInt8) (hl : l.length = 16) : (Tryd.prog.info? 23).map (·.size) = some (bcells l).size := by rw [bcells_size, hl]; kernel_rfl
theorem u8_of (i : Nat) (h : i < 256) : ((i : Int)) % 256 = ((UInt8.ofNat i).toNat : Int) := by
  rw [UInt8.toNat_ofNat']
  omega
theorem u8_wrap (i : Nat) (h : i < 256) : IntKind.u8.wrap (i : Int) = ((UInt8.ofNat i).toNat : Int) := by
  rw [← u8_of i h]
  simp [IntKind.wrap, IntKind.bits, IntKind.signed]
/-- append to a slice that is full -/
theorem append_full {w : World} {ops : Array Oper} {rest : List Oper} {o : Oper} {a : Act} {Q : Exit → Act → World → Prop} (hgd : o.guard = none) (s x : Operand)
    (ho : o.op = .call { callee := .builtin .append, args := #[s, x], argTypes := #[42, 42] }) (B n cap : Nat) (L : List UInt8) (t : TypeId) (fr : Nat × Nat) (hs : a.eval s = .slice (some ⟨B, 0, none⟩) n cap) (hL : L.length = n) (hB : w.heap[B]? = some (.cells (bcells L) t fr))
    (C m c : Nat) (N : List UInt8) (t2 : TypeId) (fr2 : Nat × Nat) (hx : a.eval x = .slice (some ⟨C, 0, none⟩) m c) (hN : N.length = m) (hC : w.heap[C]? = some (.cells (bcells N) t2 fr2)) (hfull : cap < n + m) (hb : n + m ≤ 1000000)
    (h : ∀ v' w', w'.ownsRow w.heap.size 5 1 v' (L ++ N).length (bvals (L ++ N)) → Below w.heap.size w w' → wpList Tryd.prog ops Q rest (a.put o.dst v') w') : wpList Tryd.prog ops Q (o :: rest) a w := by
  obtain ⟨i0, hi, hz0, hz1, hz2⟩ := info_parts Tryd.info_byte
  have hat : ∀ (D : Nat) (M : List UInt8) (t : TypeId) (fr : Nat × Nat), w.heap[D]? = some (.cells (bcells M) t fr) → ∀ j u, (bvals M)[j]? = some u → w.cell? ((⟨D, 0, none⟩ : Addr).add j) = some u := fun D M t fr hD j u hj => by
    unfold bvals at hj
    rw [List.getElem?_map] at hj
    obtain ⟨y, hy, rfl⟩ := Option.map_eq_some_iff.1 hj
    have hlt := (List.getElem?_eq_some_iff.1 hy).1
    rw [add_eq, Nat.zero_add, cell_of_row w D j _ _ _ hD, bcells_at _ _ hlt, List.getD_eq_getElem?_getD, hy]
    rfl
  have hone : ∀ v ∈ bvals N, v.oneCell' = true := fun v hv => by
    unfold bvals at hv
    obtain ⟨x, _, rfl⟩ := List.mem_map.1 hv
    rfl
  refine wpList_append_grows w hgd s x 42 ho 5 i0 (.int .u8 0) 1 1 Tryd.underlying42 hi hz0 hz1 hz2 rfl (by decide) (some ⟨B, 0, none⟩) n cap (bvals L) hs (fun e => by cases e) (by rw [bvals_len, hL, Nat.mul_one]) (fun b hb' => ?_) ⟨C, 0, none⟩ m c (bvals N) hx (by rw [bvals_len, hN, Nat.mul_one]) (hat C N t2 fr2 hC) hone hfull (by unfold maxLen; omega) (by omega) (fun v' w' h1 h2 => ?_)
  · obtain rfl := Option.some.inj hb'
    exact hat B L t fr hB
  · refine h v' w' ?_ ?_
    · rw [bvals_app, List.length_append, hL, hN]
      exact h1
    · exact ⟨h2.os, h2.tape, h2.output, h2.size, fun k hk => h2.block k hk (by simp)⟩
theorem own_base {w : World} {b b' n : Nat} {v : Value} {xs : List Value} (h : w.ownsRow b 5 1 v n xs) (hb : b' ≤ b) : w.ownsRow b' 5 1 v n xs := by
  obtain ⟨h1, h2 | ⟨g, cap, cur, h3, h4, h5⟩⟩ := h
  · exact ⟨h1, .inl h2⟩
  · exact ⟨h1, .inr ⟨g, cap, cur, h3, by omega, h5⟩⟩
set_option maxRecDepth 100000 in
set_option maxHeartbeats 1000000 in
theorem mark_any (l : List UInt8) (hl : l.length = 16) (i j : Nat) (hi : i < 256) (hj : j < 256) (w : World) (env : DEnv w) :
    Calls Tryd.prog 63 #[.agg (bcells l), .int .i64 (i : Int), .int .i64 (j : Int)] w fun e w' => e = .returned (.agg (bcells (stp l i j))) ∧ Below w.heap.size w w' := by
  have hsho : ∀ (V : World) (v : Value), Below w.heap.size w V → V.ownsRow w.heap.size 5 1 v (l ++ [UInt8.ofNat i, UInt8.ofNat j]).length (bvals (l ++ [UInt8.ofNat i, UInt8.ofNat j])) → Calls Tryd.prog 28 #[v] V fun e w' => e = .returned (.agg (bcells (stp l i j))) ∧ Below V.heap.size V w' := fun V v hb ho => by
    obtain ⟨A, c, rfl, h1, h2, h3, h4⟩ := own_rd2 ho
    exact short_any _ A c (by rw [List.length_append, hl]; show 16 + 2 ≤ 100000; decide) h1 h2 V h4 (env.on hb)
  obtain ⟨F, hF⟩ : ∃ F, stp l i j = F := ⟨_, rfl⟩
  have hF16 : F.length = 16 := by rw [← hF]; exact stp_len _ _ _
  rw [hF] at hsho ⊢
  have hwi := u8_wrap i hi
  have hwj := u8_wrap j hj
  obtain ⟨a, ha⟩ : ∃ a, UInt8.ofNat i = a := ⟨_, rfl⟩
  obtain ⟨b, hb⟩ : ∃ b, UInt8.ofNat j = b := ⟨_, rfl⟩
  rw [ha] at hwi hsho
  rw [hb] at hwj hsho
  have SH := Lib.hid hsho
  have hsz := sz16 F hF16
  have hso : (16 : Nat) = (bcells F).size := by rw [bcells_size, hF16]
  have HSZ := Lib.hid hsz
  have HSO := Lib.hid hso
  have s1 := slice_short
  have HL := Lib.hid hl
  clear hsho hF hF16 hi hj ha hb hsz hso env hl
  go_enter Tryd.func63, Tryd.ntmps63
  go_wp2_with (at_builtin; go_loud (refine append_full rfl (.tmp 7) (.tmp 12) rfl w.heap.size 16 16 l 23 (0, 0) rfl HL.out (heap3_first _ _ _ _) (w.heap.size + 1 + 1) 2 2 [a, b] 5 (0, 0) rfl rfl (heap3_last _ _ _ _) (by decide) (by decide) ?_); intro v1 w1 ho1 hb1; go_loud (have HO1 := Lib.hid (own_base ho1 (show w.heap.size ≤ _ by simp <;> omega))); go_loud (have HB1 := Lib.hid ((below3 w _ _ _).trans (hb1.mono (by simp <;> omega)))); go_loud (have HR1 := Lib.hid ((hb1.block (w.heap.size + 1) (by simp <;> omega)).trans (heap3_mid _ _ _ _))); clear ho1 hb1)
  refine (SH.out w1 v1 HB1.out HO1.out).mono ?_
  rintro e w2 ⟨rfl, hb2⟩
  have hlt : w.heap.size + 1 < w1.heap.size := (Array.getElem?_eq_some_iff.1 HR1.out).1
  have HR2 := Lib.hid ((hb2.block (w.heap.size + 1) hlt).trans HR1.out)
  have HB2 := Lib.hid (HB1.out.trans (hb2.mono (by omega)))
  clear hb2 hlt HR1 HB1 HO1
  go_wp2_with (refine wpList_store_row rfl 23 (.tmp 6) (.tmp 14) rfl (w.heap.size + 1) (bcells F) rfl rfl 23 _ HR2.out HSZ.out HSO.out (bcells_one _) ?_)
  refine bodyPost_ret (v := .agg (bcells F)) (results_cell_row rfl _ _ (w.heap.size + 1) 23 _ (0, 0) _ rfl (setRow_heap _ _ _ _ _ _ HR2.out) Tryd.underlying23 rfl HSZ.out) rfl ⟨rfl, ?_⟩
  exact below_row HB2.out (by omega) _
/-- what the program's own calls of mark hand on -/
theorem mark_nat (l : List UInt8) (hl : l.length = 16) (i j : Nat) (hi : i < 256) (hj : j < 256) (w V : World) (env : DEnv w) (hb : Below w.heap.size w V) :
    Calls Tryd.prog 63 #[.agg (bcells l), .int .i64 (i : Int), .int .i64 (j : Int)] V fun e w' => e = .returned (.agg (bcells (stp l i j))) ∧ Below V.heap.size V w' := mark_any l hl i j hi hj V (env.on hb)
set_option maxRecDepth 100000 in
set_option maxHeartbeats 1000000 in
theorem begin_any (l : List UInt8) (hl : l.length = 16) (i : Nat) (hi : i < 256) (w : World) (env : DEnv w) :
    Calls Tryd.prog 53 #[.agg (bcells l), .int .i64 (i : Int)] w fun e w' => e = .returned (.agg (bcells (stp l i 255))) ∧ Below w.heap.size w w' := by
  have hm := fun (V : World) (hb : Below w.heap.size w V) => mark_nat l hl i 255 hi (by decide) w V env hb
  obtain ⟨F, hF⟩ : ∃ F, stp l i 255 = F := ⟨_, rfl⟩
  have hF16 : F.length = 16 := by rw [← hF]; exact stp_len _ _ _
  rw [hF] at hm ⊢
  have HM := Lib.hid hm
  have HSZ0 := Lib.hid (sz16 l hl)
  have HSZ := Lib.hid (sz16 F hF16)
  have hso : (16 : Nat) = (bcells F).size := by rw [bcells_size, hF16]
  have HSO := Lib.hid hso
  clear hm hF hF16 hl hi hso env
  go_enter Tryd.func53, Tryd.ntmps53
  go_wp2_with (refine wpList_load_row rfl 23 (.tmp 2) rfl w.heap.size rfl 23 (bcells l) (0, 0) _ (heap_alloc2_old _ _ _) Tryd.underlying23 rfl HSZ0.out ?_)
  refine (HM.out _ ((below_new w _).trans ((below_new _ _).mono (by simp)))).mono ?_
  rintro e w2 ⟨rfl, hb2⟩
  have HR2 := Lib.hid ((hb2.block (w.heap.size + 1) (by simp)).trans (heap_alloc2_new _ _ _))
  have HB2 := Lib.hid (((below_new w _).trans ((below_new _ _).mono (by simp))).trans (hb2.mono (by simp; omega)))
  clear hb2
  go_wp2_with (refine wpList_store_row rfl 23 (.tmp 4) (.tmp 7) rfl (w.heap.size + 1) (bcells F) rfl rfl 23 _ HR2.out HSZ.out HSO.out (bcells_one _) ?_)
  refine bodyPost_ret (v := .agg (bcells F)) (results_cell_row rfl _ _ (w.heap.size + 1) 23 _ (0, 0) _ rfl (setRow_heap _ _ _ _ _ _ HR2.out) Tryd.underlying23 rfl HSZ.out) rfl ⟨rfl, ?_⟩
  exact below_row HB2.out (by omega) _
set_option maxRecDepth 100000 in
set_option maxHeartbeats 1000000 in
theorem climb_any (l : List UInt8) (hl : l.length = 16) (i a b : Nat) (hi : i < 256) (hb : b ≤ 256) (w : World) (env : DEnv w) :
    Calls Tryd.prog 49 #[.agg (bcells l), .int .i64 (i : Int), .int .i64 (a : Int), .int .i64 (b : Int)] w fun e w' => e = .returned (.agg (bcells (clm l i a (b - a)))) ∧ Below w.heap.size w w' := by
  have hm := fun (k : Nat) (hk : a + k < b) (V : World) (hbV : Below w.heap.size w V) => mark_nat (clm l i a k) (clm_len l i a hl k) i (a + k) hi (by omega) w V env hbV
  have hl2 := fun k => clm_len l i a hl k
  have hms : ∀ k, stp (clm l i a k) i (a + k) = clm l i a (k + 1) := fun k => by rw [clm]
  simp only [hms] at hm
  obtain ⟨G, hG⟩ : ∃ G : Nat → List UInt8, ∀ k, clm l i a k = G k := ⟨_, fun _ => rfl⟩
  have hl0 : l = G 0 := hG 0
  simp only [hG] at hm hl2 ⊢
  rw [hl0]
  have HM := Lib.hid hm
  have HL := Lib.hid hl2
  clear hm hl2 hms hG hl0 env hl
  go_enter Tryd.func49, Tryd.ntmps49
  go_upto_region 1 with (fail)
  generalize hV : World.alloc (World.alloc w _) _ = V
  have hb0 : Below w.heap.size w V := by rw [← hV]; exact (below_new _ _).alloc (by simp) _
  have hr0 : V.heap[w.heap.size]? = some (.cells (bcells (G 0)) 23 (0, 0)) := by rw [← hV]; exact heap_alloc2_old _ _ _
  have hr1 : V.heap[w.heap.size + 1]? = some (.cells (bcells (List.replicate 16 0)) 23 (0, 0)) := by rw [← hV]; exact (heap_alloc2_new _ _ _).trans rfl
  have HB0 := Lib.hid hb0
  have HR0 := Lib.hid hr0
  have HR1 := Lib.hid hr1
  clear hV hb0 hr0 hr1
  have hc0 : Below w.heap.size w V ∧ V.heap[w.heap.size]? = some (.cells (bcells (G 0)) 23 (0, 0)) ∧ V.heap[w.heap.size + 1]? = some (.cells (bcells (List.replicate 16 0)) 23 (0, 0)) := ⟨HB0.out, HR0.out, HR1.out⟩
  have HC0 := Lib.hid hc0
  clear HB0 HR0 HR1 hc0
  go_wp2_with fail
  go_loopw [9] (fun x wr => ∃ k : Nat, k ≤ b - a ∧ x = .int .i64 ((a + k : Nat) : Int) ∧ RowKit.Hid (Below w.heap.size w wr ∧ wr.heap[w.heap.size]? = some (.cells (bcells (G k)) 23 (0, 0)) ∧ wr.heap[w.heap.size + 1]? = some (.cells (bcells (List.replicate 16 0)) 23 (0, 0)))) (fun x _ => b - (intOf x).toNat)
  case atStart => exact ⟨0, by omega, rfl, HC0⟩
  case round =>
    clear HC0
    obtain ⟨k, hk, rfl, HC⟩ := hrel
    by_cases hlt : a + k < b
    · have hki : ((a + k : Nat) : Int) < (b : Int) := by omega
      have HSZ0 := Lib.hid (sz16 _ (HL.out k))
      have hcall := fun V hV => HM.out k hlt V hV
      obtain ⟨F, hF⟩ : ∃ F, G (k + 1) = F := ⟨_, rfl⟩
      have hF16 : F.length = 16 := by rw [← hF]; exact HL.out _
      rw [hF] at hcall
      have hso : (bcells (G k)).size = (bcells F).size := by rw [bcells_size, bcells_size, hF16]; exact HL.out k
      have HSO := Lib.hid hso
      have HSZ := Lib.hid (sz16 F hF16)
      have HF2 := Lib.hid hF
      have HCALL := Lib.hid hcall
      obtain ⟨C, hC⟩ : ∃ C, G k = C := ⟨_, rfl⟩
      have HC1 := Lib.hid HC.out.1
      have HC2 := Lib.hid HC.out.2.1
      have HC3 := Lib.hid HC.out.2.2
      rw [hC] at HSZ0 HCALL HSO HC2
      clear hcall hF hF16 hso hC HC
      go_wp2_with (refine wpList_load_row rfl 23 (.tmp 4) rfl w.heap.size rfl 23 (bcells C) (0, 0) _ HC2.out Tryd.underlying23 rfl HSZ0.out ?_)
      refine (HCALL.out _ HC1.out).mono ?_
      rintro e w2 ⟨rfl, hb2⟩
      have hlt2 : w.heap.size + 1 < wr.heap.size := (Array.getElem?_eq_some_iff.1 HC3.out).1
      have HR0 := Lib.hid ((hb2.block w.heap.size (by omega)).trans HC2.out)
      have HR1 := Lib.hid ((hb2.block (w.heap.size + 1) hlt2).trans HC3.out)
      have HB2 := Lib.hid (HC1.out.trans (hb2.mono (by omega)))
      clear hb2 hlt2
      go_wp2_with (refine wpList_store_row rfl 23 (.tmp 4) (.tmp 19) rfl w.heap.size (bcells F) rfl rfl 23 _ HR0.out HSZ.out HSO.out (bcells_one _) ?_)
      refine ⟨⟨k + 1, by omega, by go_num, Lib.hid ⟨below_row HB2.out (Nat.le_refl _) _, ?_, ?_⟩⟩, by simp [intOf]; omega⟩
      · rw [HF2.out]
        exact setRow_heap _ _ _ _ _ _ HR0.out
      · exact (setRow_other _ _ _ _ (by omega)).trans HR1.out
    · have hge : ¬ ((a + k : Nat) : Int) < (b : Int) := by omega
      have hkb : k = b - a := by omega
      subst hkb
      have HSZ0 := Lib.hid (sz16 _ (HL.out (b - a)))
      obtain ⟨C, hC⟩ : ∃ C, G (b - a) = C := ⟨_, rfl⟩
      have hC16 : C.length = 16 := by rw [← hC]; exact HL.out _
      have HC1 := Lib.hid HC.out.1
      have HC2 := Lib.hid HC.out.2.1
      have HC3 := Lib.hid HC.out.2.2
      rw [hC] at HSZ0 HC2
      have HCE := Lib.hid hC
      have hso : (bcells (List.replicate 16 (0 : UInt8))).size = (bcells C).size := by rw [bcells_size, bcells_size, hC16]; rfl
      have HSO := Lib.hid hso
      clear hC hC16 HC hso
      go_wp2_with (first | (refine wpList_load_row rfl 23 (.tmp 4) rfl w.heap.size rfl 23 (bcells C) (0, 0) _ HC2.out Tryd.underlying23 rfl HSZ0.out ?_) | (refine wpList_store_row rfl 23 (.tmp 8) (.tmp 20) rfl (w.heap.size + 1) (bcells C) rfl rfl 23 _ HC3.out HSZ0.out HSO.out (bcells_one _) ?_))
      refine bodyPost_ret (v := .agg (bcells C)) (results_cell_row rfl _ _ (w.heap.size + 1) 23 _ (0, 0) _ rfl (setRow_heap _ _ _ _ _ _ HC3.out) Tryd.underlying23 rfl HSZ0.out) rfl ⟨by rw [HCE.out], ?_⟩
      exact below_row HC1.out (by omega) _
end Go.Proofs.YtgnemclpopjhoaaDoor
