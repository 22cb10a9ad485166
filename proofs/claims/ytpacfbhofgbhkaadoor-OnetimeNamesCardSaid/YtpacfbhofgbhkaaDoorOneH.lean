/-
  THE WALK over the law's own steps of a chain; digests compared.
-/
import Derived.Test.YtpacfbhofgbhkaaDoorOneG
import Derived.Stop.BytesEq
namespace Go.Proofs.YtpacfbhofgbhkaaDoor
open Go.RowKit Sha Ots
set_option linter.unusedVariables false
set_option linter.unusedSimpArgs false
theorem eql_short (F G : List UInt8) (hF : F.length = 16) (hG : G.length = 16) (w : World) : (binOp .eql 25 (.agg (bcells F)) (.agg (bcells G))).run Tryd.prog w = .ok (.bool (F == G)) w :=
  run_eql_bytes (P := Tryd.prog) w 25 5 16 Tryd.underlying25 Tryd.underlying5 (fun _ => by kernel_rfl) F G hF hG
theorem neq_short (F G : List UInt8) (hF : F.length = 16) (hG : G.length = 16) (w : World) : (binOp .neq 25 (.agg (bcells F)) (.agg (bcells G))).run Tryd.prog w = .ok (.bool (!(F == G))) w := by
  have h := eql_short F G hF hG w
  have h2 : (Op.equal 25 (.agg (bcells F)) (.agg (bcells G))).run Tryd.prog w = .ok (F == G) w := by
    cases hr : (Op.equal 25 (.agg (bcells F)) (.agg (bcells G))).run Tryd.prog w with
    | ok a w' =>
      unfold binOp at h
      simp [hr] at h
      rw [h.1, h.2]
    | halt e w' =>
      unfold binOp at h
      simp [hr] at h
  unfold binOp
  simp [h2]
set_option maxRecDepth 100000 in
set_option maxHeartbeats 1000000 in
theorem climbed_any (l : List UInt8) (hl : l.length = 16) (i a b : Nat) (hi : i < 256) (hb : b ≤ 256) (w : World) (env : DEnv w) :
    Calls Tryd.prog 23 #[.agg (bcells l), .int .i64 (i : Int), .int .i64 (a : Int), .int .i64 (b : Int)] w fun e w' => e = .returned (.agg (bcells (clm l i a (b - a)))) ∧ Below w.heap.size w w' := by
  have hm := fun (k : Nat) (hk : a + k < b) (V : World) (v : Value) (hbV : Below w.heap.size w V) (ho : V.ownsRow (w.heap.size + 2) 5 1 v (clm l i a k ++ [UInt8.ofNat i, UInt8.ofNat (a + k)]).length (bvals (clm l i a k ++ [UInt8.ofNat i, UInt8.ofNat (a + k)]))) => (by
    obtain ⟨A, c, rfl, h1, h2, h3, h4⟩ := own_rd2 ho
    exact short_any _ A c (by rw [List.length_append, clm_len l i a hl k]; show 16 + 2 ≤ 100000; decide) h1 h2 V h4 (env.on hbV) : Calls Tryd.prog 14 #[v] V fun e w' => e = .returned (.agg (bcells (stp (clm l i a k) i (a + k)))) ∧ Below V.heap.size V w')
  have hl2 := fun k => clm_len l i a hl k
  have hms : ∀ k, stp (clm l i a k) i (a + k) = clm l i a (k + 1) := fun k => by rw [clm]
  simp only [hms] at hm
  obtain ⟨G, hG⟩ : ∃ G : Nat → List UInt8, ∀ k, clm l i a k = G k := ⟨_, fun _ => rfl⟩
  have hl0 : l = G 0 := hG 0
  simp only [hG] at hm hl2 ⊢
  rw [hl0]
  have HM := Lib.hid hm
  have HL := Lib.hid hl2
  have hwi := u8_wrap i hi
  obtain ⟨bi, hbi⟩ : ∃ bi, UInt8.ofNat i = bi := ⟨_, rfl⟩
  rw [hbi] at hwi HM
  clear hm hl2 hms hG hl0 env hl hbi
  have s1 := slice_short
  go_enter Tryd.func23, Tryd.ntmps23
  go_upto_region 1 with (fail)
  generalize hV : World.alloc (World.alloc w _) _ = V
  have hb0 : Below w.heap.size w V := by rw [← hV]; exact (below_new _ _).alloc (by simp) _
  have hr0 : V.heap[w.heap.size]? = some (.cells (bcells (G 0)) 25 (0, 0)) := by rw [← hV]; exact heap_alloc2_old _ _ _
  have hr1 : V.heap[w.heap.size + 1]? = some (.cells (bcells (List.replicate 16 0)) 25 (0, 0)) := by rw [← hV]; exact (heap_alloc2_new _ _ _).trans rfl
  have HC0 := Lib.hid (And.intro hb0 (And.intro hr0 hr1))
  clear hV hb0 hr0 hr1
  go_wp2_with fail
  go_loopw [9] (fun x wr => ∃ k : Nat, k ≤ b - a ∧ x = .int .i64 ((a + k : Nat) : Int) ∧ RowKit.Hid (Below w.heap.size w wr ∧ wr.heap[w.heap.size]? = some (.cells (bcells (G k)) 25 (0, 0)) ∧ wr.heap[w.heap.size + 1]? = some (.cells (bcells (List.replicate 16 0)) 25 (0, 0)))) (fun x _ => b - (intOf x).toNat)
  case atStart => exact ⟨0, by omega, rfl, HC0⟩
  case round =>
    clear HC0
    obtain ⟨k, hk, rfl, HC⟩ := hrel
    by_cases hlt : a + k < b
    · have hki : ((a + k : Nat) : Int) < (b : Int) := by omega
      have hcall := fun V v hV ho => HM.out k hlt V v hV ho
      obtain ⟨F, hF⟩ : ∃ F, G (k + 1) = F := ⟨_, rfl⟩
      have hF16 : F.length = 16 := by rw [← hF]; exact HL.out _
      have hG16 : (G k).length = 16 := HL.out k
      rw [hF] at hcall
      have hso : (bcells (G k)).size = (bcells F).size := by rw [bcells_size, bcells_size, hF16]; exact HL.out k
      obtain ⟨bj, hbj⟩ : ∃ bj, UInt8.ofNat (a + k) = bj := ⟨_, rfl⟩
      rw [hbj] at hcall
      have HSO := Lib.hid hso
      have HSZ := Lib.hid (sz16 F hF16)
      have HF2 := Lib.hid hF
      have HCALL := Lib.hid hcall
      obtain ⟨C, hC⟩ : ∃ C, G k = C := ⟨_, rfl⟩
      have HC1 := Lib.hid HC.out.1
      have HC2 := Lib.hid HC.out.2.1
      have HC3 := Lib.hid HC.out.2.2
      rw [hC] at HCALL HSO HC2 hG16
      have HG16 := Lib.hid hG16
      have hz3 : w.heap.size + 1 < wr.heap.size := (Array.getElem?_eq_some_iff.1 HC3.out).1
      have HZ3 := Lib.hid hz3
      have hej : ((a : Int) + (k : Int)) = (bj.toNat : Int) := by
        rw [← hbj, UInt8.toNat_ofNat']
        omega
      have hrow : ∀ U : World, (U.alloc (.cells #[Value.int .u8 (bi.toNat : Int), Value.int .u8 ((a : Int) + (k : Int))] 5)).heap[U.heap.size]? = some (.cells (bcells [bi, bj]) 5 (0, 0)) := fun U => by
        rw [hej]
        exact heap_alloc_new _ _
      have HROW := Lib.hid hrow
      clear hcall hF hF16 hso hC HC hbj hG16 hz3 hej hrow
      go_wp2_with (at_builtin; first | (refine append_full rfl (.tmp 16) (.tmp 17) rfl wr.heap.size 0 0 [] 5 (0, 0) rfl rfl (heap_alloc_new _ _) w.heap.size 16 16 C 25 (0, 0) rfl HG16.out ((Below.heap_alloc _ _ _ (by have := HZ3.out; omega)).trans HC2.out) (by decide) (by decide) ?_; intro v1 w1 ho1 hb1; have HO1 : RowKit.Hid (w1.ownsRow (w.heap.size + 2) 5 1 v1 C.length (bvals C)) := Lib.hid (own_base ho1 (show w.heap.size + 2 ≤ _ by have := HZ3.out; simp <;> omega)); have HB1 := Lib.hid (HC1.out.trans ((((below_new wr _).trans (hb1.mono (by simp)))).mono (HC1.out.size))); have HR1 := Lib.hid ((hb1.block w.heap.size (by have := HZ3.out; simp <;> omega)).trans ((Below.heap_alloc _ _ _ (by have := HZ3.out; omega)).trans HC2.out)); have HR2 := Lib.hid ((hb1.block (w.heap.size + 1) (by have := HZ3.out; simp <;> omega)).trans ((Below.heap_alloc _ _ _ HZ3.out).trans HC3.out)); clear ho1 hb1) | (refine append_src rfl (.tmp 18) (.tmp 23) rfl (w.heap.size + 2) _ _ _ rfl (HO1.out.alloc _) (some ⟨w1.heap.size, 0, none⟩) [bi, bj] 2 2 rfl rfl (fun e => by cases e) (srcAt_row (HROW.out _)) (by rw [HG16.out]; decide) (by have h9 := (Array.getElem?_eq_some_iff.1 HR2.out).1; simp; omega) ?_; intro v2 w2 ho2 hg2; have HO2 := Lib.hid ho2; have HG2 := Lib.hid hg2; clear ho2 hg2))
      have hown2 : w2.ownsRow (w.heap.size + 2) 5 1 v2 (C ++ [bi, bj]).length (bvals (C ++ [bi, bj])) := by
        rw [List.length_append, bvals_app]
        exact HO2.out
      have hge : ∀ j, v1.ownBlock = some j → w.heap.size + 2 ≤ j := fun j hj => (own_ge HO1.out hj).1
      have h9 := (Array.getElem?_eq_some_iff.1 HR2.out).1
      have hbw2 : Below w.heap.size w w2 := (HB1.out.alloc HB1.out.size _).grown HG2.out (by simp; omega) (fun j hj => (by have := hge j hj; omega))
      have hr21 : w2.heap[w.heap.size]? = some (.cells (bcells C) 25 (0, 0)) := by
        rw [HG2.out.block w.heap.size (by simp; omega) (fun e => by have := hge _ e.symm; omega), Below.heap_alloc _ _ _ (by omega)]
        exact HR1.out
      have hr22 : w2.heap[w.heap.size + 1]? = some (.cells (bcells (List.replicate 16 0)) 25 (0, 0)) := by
        rw [HG2.out.block (w.heap.size + 1) (by simp; omega) (fun e => by have := hge _ e.symm; omega), Below.heap_alloc _ _ _ h9]
        exact HR2.out
      have HR21 := Lib.hid hr21
      have HR22 := Lib.hid hr22
      have HBW2 := Lib.hid hbw2
      have HOW2 := Lib.hid hown2
      clear hown2 hge h9 hbw2 hr21 hr22 HO2 HG2 HO1 HB1 HR1 HR2
      refine (HCALL.out _ _ HBW2.out HOW2.out).mono ?_
      rintro e w3 ⟨rfl, hb3⟩
      have HR31 := Lib.hid ((hb3.block _ (Array.getElem?_eq_some_iff.1 HR21.out).1).trans HR21.out)
      have HR32 := Lib.hid ((hb3.block _ (Array.getElem?_eq_some_iff.1 HR22.out).1).trans HR22.out)
      have HB3 := Lib.hid (chain HBW2.out hb3)
      clear hb3
      go_wp2_with (refine wpList_store_row rfl 25 (.tmp 4) (.tmp 25) rfl w.heap.size (bcells F) rfl rfl 25 _ HR31.out HSZ.out HSO.out (bcells_one _) ?_)
      refine ⟨⟨k + 1, by omega, by go_num, Lib.hid ⟨below_row HB3.out (Nat.le_refl _) _, ?_, ?_⟩⟩, by simp [intOf]; omega⟩
      · rw [HF2.out]
        exact setRow_heap _ _ _ _ _ _ HR31.out
      · exact (setRow_other _ _ _ _ (by omega)).trans HR32.out
    · have hge : ¬ ((a + k : Nat) : Int) < (b : Int) := by omega
      have hkb : k = b - a := by omega
      subst hkb
      have HSZ0 := Lib.hid (sz16 _ (HL.out (b - a)))
      obtain ⟨C, hC⟩ : ∃ C, G (b - a) = C := ⟨_, rfl⟩
      have hC16 : C.length = 16 := by rw [← hC]; exact HL.out _
      have HC1 := Lib.hid HC.out.1
      have HC2 := Lib.hid HC.out.2.1
      have HC3 := Lib.hid HC.out.2.2
      rw [hC] at HSZ0 HC2
      have HCE := Lib.hid hC
      have hso : (bcells (List.replicate 16 (0 : UInt8))).size = (bcells C).size := by rw [bcells_size, bcells_size, hC16]; rfl
      have HSO := Lib.hid hso
      clear hC hC16 HC hso
      go_wp2_with (first | (refine wpList_load_row rfl 25 (.tmp 4) rfl w.heap.size rfl 25 (bcells C) (0, 0) _ HC2.out Tryd.underlying25 rfl HSZ0.out ?_) | (refine wpList_store_row rfl 25 (.tmp 8) (.tmp 26) rfl (w.heap.size + 1) (bcells C) rfl rfl 25 _ HC3.out HSZ0.out HSO.out (bcells_one _) ?_))
      refine bodyPost_ret (v := .agg (bcells C)) (results_cell_row rfl _ _ (w.heap.size + 1) 25 _ (0, 0) _ rfl (setRow_heap _ _ _ _ _ _ HC3.out) Tryd.underlying25 rfl HSZ0.out) rfl ⟨by rw [HCE.out], ?_⟩
      exact below_row HC1.out (by omega) _
end Go.Proofs.YtpacfbhofgbhkaaDoor
