import Derived.Test.YtcgffkkfeimifaaGreatDoorOneAll
import Derived.Test.YtcgffkkfeimifaaGreatDoorMkMath
namespace Go.Proofs.YtcgffkkfeimifaaGreatDoor
open Go.RowKit Sha Ots
set_option linter.unusedVariables false
set_option linter.unusedSimpArgs false
set_option maxRecDepth 100000 in
set_option maxHeartbeats 1000000 in
theorem isHeight_any (h : Int) (w : World) :
  Calls Tryz.prog 37 #[.int .i64 h] w fun e w' => e = .returned (.bool (decide (0 ≤ h ∧ h ≤ 4))) ∧ Below w.heap.size w w' := by
 have hz : Below w.heap.size w w := Below.refl _ _
 by_cases h1 : 0 ≤ h
 ·
  by_cases h2 : h ≤ 4
  ·
   rw [decide_eq_true ⟨h1, h2⟩]
   go_enter Tryz.func37, Tryz.ntmps37
   go_wp2_with fail
   go_ret
   exact ⟨rfl, hz⟩
  ·
   rw [decide_eq_false (fun hh => h2 hh.2)]
   go_enter Tryz.func37, Tryz.ntmps37
   go_wp2_with fail
   go_ret
   exact ⟨rfl, hz⟩
 ·
  rw [decide_eq_false (fun hh => h1 hh.1)]
  go_enter Tryz.func37, Tryz.ntmps37
  go_wp2_with fail
  go_ret
  exact ⟨rfl, hz⟩
theorem shl_any (h : Nat) (hh : h ≤ 4) : ∀ w : World, (Op.shift .shl .i64 1 .i64 (h : Int)).run Tryz.prog w = .ok (.int .i64 ((2 ^ h : Nat) : Int)) w := by
 intro w
 obtain rfl | rfl | rfl | rfl | rfl : h = 0 ∨ h = 1 ∨ h = 2 ∨ h = 3 ∨ h = 4 := by omega
 all_goals rfl
set_option maxRecDepth 100000 in
set_option maxHeartbeats 1000000 in
theorem isIndex_any (n : Int) (h : Nat) (hh : h ≤ 4) (w : World) :
  Calls Tryz.prog 69 #[.int .i64 n, .int .i64 (h : Int)] w fun e w' => e = .returned (.bool (decide (0 ≤ n ∧ n < ((2 ^ h : Nat) : Int)))) ∧ Below w.heap.size w w' := by
 have hz : Below w.heap.size w w := Below.refl _ _
 have hs := shl_any h hh
 obtain ⟨p, hp⟩ : ∃ p : Int, ((2 ^ h : Nat) : Int) = p := ⟨_, rfl⟩
 rw [hp] at hs ⊢
 obtain ⟨k, hk⟩ : ∃ k : Int, (h : Int) = k := ⟨_, rfl⟩
 rw [hk] at hs ⊢
 clear hk hp hh
 by_cases h1 : 0 ≤ n
 ·
  by_cases h2 : n < p
  ·
   rw [decide_eq_true ⟨h1, h2⟩]
   go_enter Tryz.func69, Tryz.ntmps69
   go_wp2_with fail
   go_ret
   exact ⟨rfl, hz⟩
  ·
   rw [decide_eq_false (fun hh => h2 hh.2)]
   go_enter Tryz.func69, Tryz.ntmps69
   go_wp2_with fail
   go_ret
   exact ⟨rfl, hz⟩
 ·
  rw [decide_eq_false (fun hh => h1 hh.1)]
  go_enter Tryz.func69, Tryz.ntmps69
  go_wp2_with fail
  go_ret
  exact ⟨rfl, hz⟩
set_option maxRecDepth 100000 in
set_option maxHeartbeats 1000000 in
theorem seedOf_any (l : List UInt8) (hl : l.length = 16) (i : Nat) (hi : i < 256) (w : World) (env : DEnv w) :
  Calls Tryz.prog 67 #[.agg (bcells l), .int .i64 (i : Int)] w fun e w' => e = .returned (.agg (bcells (msd l i))) ∧ Below w.heap.size w w' := by
 have hsho : ∀ (V : World) (v : Value), Below w.heap.size w V → V.ownsRow w.heap.size 5 1 v (l ++ [UInt8.ofNat i, 254, 0]).length (bvals (l ++ [UInt8.ofNat i, 254, 0])) → Calls Tryz.prog 108 #[v] V fun e w' => e = .returned (.agg (bcells (msd l i))) ∧ Below V.heap.size V w' := fun V v hb ho => by
  obtain ⟨A, c, rfl, h1, h2, h3, h4⟩ := own_rd7 ho
  exact short_any _ A c (by rw [List.length_append, hl]; show 16 + 3 ≤ 100000; decide) h1 h2 V h4 (env.on hb)
 obtain ⟨F, hF⟩ : ∃ F, msd l i = F := ⟨_, rfl⟩
 have hF16 : F.length = 16 := by rw [← hF]; exact msd_len _ _
 rw [hF] at hsho ⊢
 have hwi := u8_wrap i hi
 obtain ⟨a, ha⟩ : ∃ a, UInt8.ofNat i = a := ⟨_, rfl⟩
 rw [ha] at hwi hsho
 have SH := Lib.hid hsho
 have hsz := sz16 F hF16
 have hso : (16 : Nat) = (bcells F).size := by rw [bcells_size, hF16]
 have HSZ := Lib.hid hsz
 have HSO := Lib.hid hso
 have s1 := slice_short
 have HL := Lib.hid hl
 clear hsho hF hF16 hi ha hsz hso env hl
 go_enter Tryz.func67, Tryz.ntmps67
 go_wp2_with (at_builtin; go_loud (refine append_full rfl (.tmp 5) (.tmp 8) rfl w.heap.size 16 16 l 41 (0, 0) rfl HL.out (heap3_first _ _ _ _) (w.heap.size + 1 + 1) 3 3 [a, 254, 0] 5 (0, 0) rfl rfl (heap3_last _ _ _ _) (by decide) (by decide) ?_); intro v1 w1 ho1 hb1; go_loud (have HO1 := Lib.hid (own_base ho1 (show w.heap.size ≤ _ by simp <;> omega))); go_loud (have HB1 := Lib.hid ((below3 w _ _ _).trans (hb1.mono (by simp <;> omega)))); go_loud (have HR1 := Lib.hid ((hb1.block (w.heap.size + 1) (by simp <;> omega)).trans (heap3_mid _ _ _ _))); clear ho1 hb1)
 refine (SH.out w1 v1 HB1.out HO1.out).mono ?_
 rintro e w2 ⟨rfl, hb2⟩
 have hlt : w.heap.size + 1 < w1.heap.size := (Array.getElem?_eq_some_iff.1 HR1.out).1
 have HR2 := Lib.hid ((hb2.block (w.heap.size + 1) hlt).trans HR1.out)
 have HB2 := Lib.hid (HB1.out.trans (hb2.mono (by omega)))
 clear hb2 hlt HR1 HB1 HO1
 go_wp2_with (refine wpList_store_row rfl 41 (.tmp 4) (.tmp 10) rfl (w.heap.size + 1) (bcells F) rfl rfl 41 _ HR2.out HSZ.out HSO.out (bcells_one _) ?_)
 refine bodyPost_ret (v := .agg (bcells F)) (results_cell_row rfl _ _ (w.heap.size + 1) 41 _ (0, 0) _ rfl (setRow_heap _ _ _ _ _ _ HR2.out) Tryz.underlying41 rfl HSZ.out) rfl ⟨rfl, ?_⟩
 exact below_row HB2.out (by omega) _
theorem own_new1 (w : World) (x : UInt8) (cs : Array Value) (h : cs = bcells [x]) : (w.alloc (.cells cs 5)).ownsRow w.heap.size 5 1 (.slice (some ⟨w.heap.size, 0, none⟩) 1 1) 1 (bvals [x]) := by
 subst h
 exact ⟨rfl, .inr ⟨w.heap.size, 1, bcells [x], rfl, Nat.le_refl _, heap_alloc_new _ _, Nat.le_refl _, by decide, rfl, rfl⟩⟩
set_option maxRecDepth 100000 in
set_option maxHeartbeats 1000000 in
theorem node_any (l r : List UInt8) (hl : l.length = 16) (hr : r.length = 16) (w : World) (env : DEnv w) :
  Calls Tryz.prog 68 #[.agg (bcells l), .agg (bcells r)] w fun e w' => e = .returned (.agg (bcells (jn l r))) ∧ Below w.heap.size w w' := by
 have hsho : ∀ (V : World) (v : Value), Below w.heap.size w V → V.ownsRow (w.heap.size + 3) 5 1 v 33 (bvals (([1] ++ l) ++ r)) → Calls Tryz.prog 108 #[v] V fun e w' => e = .returned (.agg (bcells (jn l r))) ∧ Below V.heap.size V w' := fun V v hb ho => by
  have e33 : (([1] ++ l) ++ r).length = 33 := by rw [List.length_append, List.length_append, hl, hr]; rfl
  rw [← e33] at ho
  obtain ⟨A, c, rfl, h1, h2, h3, h4⟩ := own_rd7 ho
  exact short_any _ A c (by rw [e33]; decide) h1 h2 V h4 (env.on hb)
 obtain ⟨F, hF⟩ : ∃ F, jn l r = F := ⟨_, rfl⟩
 have hF16 : F.length = 16 := by rw [← hF]; exact jn_len _ _
 rw [hF] at hsho ⊢
 have SH := Lib.hid hsho
 have HSZ := Lib.hid (sz16 F hF16)
 have hso : (16 : Nat) = (bcells F).size := by rw [bcells_size, hF16]
 have HSO := Lib.hid hso
 have s1 := slice_short
 have HL := Lib.hid hl
 have HR := Lib.hid hr
 clear hsho hF hF16 hso env hl hr
 go_enter Tryz.func68, Tryz.ntmps68
 go_upto_region 1 with (fail)
 generalize hV : World.alloc (World.alloc (World.alloc w _) _) _ = V
 have hb0 : Below w.heap.size w V := by rw [← hV]; exact below3 _ _ _ _
 have hr0 : V.heap[w.heap.size]? = some (.cells (bcells l) 41 (0, 0)) := by rw [← hV]; exact heap3_first _ _ _ _
 have hr1 : V.heap[w.heap.size + 1]? = some (.cells (bcells r) 41 (0, 0)) := by rw [← hV]; exact heap3_mid _ _ _ _
 have hr2 : V.heap[w.heap.size + 2]? = some (.cells (bcells (List.replicate 16 0)) 41 (0, 0)) := by rw [← hV]; exact (heap3_last _ _ _ _).trans rfl
 have hz : V.heap.size = w.heap.size + 3 := by rw [← hV]; simp
 have HB0 := Lib.hid hb0
 have HR0 := Lib.hid hr0
 have HR1 := Lib.hid hr1
 have HR2 := Lib.hid hr2
 have HZ := Lib.hid hz
 clear hV hb0 hr0 hr1 hr2 hz
 go_upto_region 2 with (at_builtin; go_loud (refine append_src7 rfl (.tmp 6) (.tmp 7) rfl V.heap.size _ 1 (bvals [1]) rfl (own_new1 V 1 _ rfl) (some ⟨w.heap.size, 0, none⟩) l 16 16 HL.out rfl (fun e => by cases e) (srcAt_row ((Below.heap_alloc _ _ _ (by have := HZ.out; omega)).trans HR0.out)) (by decide) (by rw [World.size_alloc]; omega) ?_); intro v1 w1 ho1 hg1; go_loud (have HO1 := Lib.hid ho1); go_loud (have HG1 := Lib.hid hg1); clear ho1 hg1)
 have hne : ∀ j, Value.ownBlock (.slice (some ⟨V.heap.size, 0, none⟩) 1 1) = some j → w.heap.size + 3 ≤ j := fun j hj => by
  obtain rfl : V.heap.size = j := by simpa [Value.ownBlock] using hj
  have := HZ.out
  omega
 have hbw1 : Below w.heap.size w w1 := (HB0.out.alloc HB0.out.size _).grown HG1.out (by rw [World.size_alloc]; have := HZ.out; omega) (fun j hj => (by have := hne j hj; omega))
 have hr11 : w1.heap[w.heap.size + 1]? = some (.cells (bcells r) 41 (0, 0)) := by
  rw [HG1.out.block (w.heap.size + 1) (by rw [World.size_alloc]; have := HZ.out; omega) (fun e => by have := hne _ e.symm; omega), Below.heap_alloc _ _ _ (by have := HZ.out; omega)]
  exact HR1.out
 have hr21 : w1.heap[w.heap.size + 2]? = some (.cells (bcells (List.replicate 16 0)) 41 (0, 0)) := by
  rw [HG1.out.block (w.heap.size + 2) (by rw [World.size_alloc]; have := HZ.out; omega) (fun e => by have := hne _ e.symm; omega), Below.heap_alloc _ _ _ (by have := HZ.out; omega)]
  exact HR2.out
 have ho11 : w1.ownsRow V.heap.size 5 1 v1 17 (bvals ([1] ++ l)) := by
  rw [bvals_app]
  exact HO1.out
 have HB1 := Lib.hid hbw1
 have HR11 := Lib.hid hr11
 have HR21 := Lib.hid hr21
 have HO11 := Lib.hid ho11
 have HSZ1 : RowKit.Hid (V.heap.size ≤ w1.heap.size) := Lib.hid (by have h := HG1.out.size; rw [World.size_alloc] at h; omega)
 clear hne hbw1 hr11 hr21 ho11 HO1 HG1 HB0 HR0 HR1 HR2
 go_wp2_with (at_builtin; go_loud (refine append_src7 rfl (.tmp 9) (.tmp 10) rfl V.heap.size _ 17 (bvals ([1] ++ l)) rfl HO11.out (some ⟨w.heap.size + 1, 0, none⟩) r 16 16 HR.out rfl (fun e => by cases e) (srcAt_row HR11.out) (by decide) HSZ1.out ?_); intro v2 w2 ho2 hg2; go_loud (have HO2 := Lib.hid ho2); go_loud (have HG2 := Lib.hid hg2); clear ho2 hg2)
 have hne : ∀ j, Value.ownBlock v1 = some j → w.heap.size + 3 ≤ j := fun j hj => by
  have h1 := (own_ge7 HO11.out hj).1
  have h2 := HZ.out
  omega
 have hle := HSZ1.out
 have hzz := HZ.out
 have hbw2 : Below w.heap.size w w2 := HB1.out.grown HG2.out (by omega) (fun j hj => (by have := hne j hj; omega))
 have hr22 : w2.heap[w.heap.size + 2]? = some (.cells (bcells (List.replicate 16 0)) 41 (0, 0)) := by
  rw [HG2.out.block (w.heap.size + 2) (by omega) (fun e => by have := hne _ e.symm; omega)]
  exact HR21.out
 have ho22 : w2.ownsRow (w.heap.size + 3) 5 1 v2 33 (bvals (([1] ++ l) ++ r)) := by
  rw [bvals_app, ← hzz]
  exact HO2.out
 have HB2 := Lib.hid hbw2
 have HR22 := Lib.hid hr22
 have HO22 := Lib.hid ho22
 clear hne hbw2 hr22 ho22 HO2 HG2 HB1 HR11 HR21 HO11 hle hzz HSZ1 HZ
 refine (SH.out w2 v2 HB2.out HO22.out).mono ?_
 rintro e w3 ⟨rfl, hb3⟩
 have HR3 := Lib.hid ((hb3.block _ (Array.getElem?_eq_some_iff.1 HR22.out).1).trans HR22.out)
 have HB3 := Lib.hid (chain HB2.out hb3)
 clear hb3 HO22 HB2 HR22
 go_wp2_with (refine wpList_store_row rfl 41 (.tmp 4) (.tmp 12) rfl (w.heap.size + 2) (bcells F) rfl rfl 41 _ HR3.out HSZ.out HSO.out (bcells_one _) ?_)
 refine bodyPost_ret (v := .agg (bcells F)) (results_cell_row rfl _ _ (w.heap.size + 2) 41 _ (0, 0) _ rfl (setRow_heap _ _ _ _ _ _ HR3.out) Tryz.underlying41 rfl HSZ.out) rfl ⟨rfl, ?_⟩
 exact below_row HB3.out (by omega) _
end Go.Proofs.YtcgffkkfeimifaaGreatDoor
namespace Go.Proofs.YtcgffkkfeimifaaGreatDoor
open Go.RowKit Sha Ots
set_option linter.unusedVariables false
set_option linter.unusedSimpArgs false
structure LA (w : World) (X n : Nat) (G : Nat → List UInt8) (k : Nat) (V : World) : Prop where
 bl : Below w.heap.size w V
 th : V.there X 0 (n * 16)
 rg : ∀ i, i < k → V.rangeAt X (16 * i) (bvals (G i))
theorem LA.on {w V V' : World} {X n k : Nat} {G : Nat → List UInt8} (h : LA w X n G k V) (hb : Below V.heap.size V V') (hn : 0 < n) : LA w X n G k V' := by
 have hlt := there_lt h.th (by omega)
 exact ⟨chain h.bl hb, there_below h.th hb hlt, fun i hi => rangeAt_below (h.rg i hi) hb hlt⟩
theorem LA.put {w V : World} {X n k : Nat} {G : Nat → List UInt8} (h : LA w X n G k V) (hX : w.heap.size ≤ X) (hG : ∀ i, (G i).length = 16) (hk : k < n) : V.there X (k * 16) (bcells (G k)).size ∧ LA w X n G (k + 1) (V.setCells X (k * 16) (bcells (G k)).toList) := by
 have htp := there_part h.th (16 * k) 16 (by omega)
 rw [Nat.zero_add, Nat.mul_comm] at htp
 have hsz : (bcells (G k)).size = 16 := by rw [bcells_size]; exact hG k
 have htp2 : V.there X (k * 16) (bcells (G k)).size := by rw [hsz]; exact htp
 have hbl : (bcells (G k)).toList.length = 16 := by rw [Array.length_toList]; exact hsz
 refine ⟨htp2, ⟨below_setCells _ _ _ h.bl hX, World.there_setCells h.th _ _ _, fun i hi => ?_⟩⟩
 by_cases e : i = k
 ·
  subst e
  rw [Nat.mul_comm 16 i]
  exact World.rangeAt_setCells_same _ _ _ _ htp2
 ·
  refine World.rangeAt_setCells_apart (h.rg i (by omega)) _ _ _ (.inr (.inl ?_))
  rw [bvals_len, hG i]
  omega
theorem LA.shorts {w V : World} {X n : Nat} {G : Nat → List UInt8} (h : LA w X n G n V) (hG : ∀ i, (G i).length = 16) : Shorts (some ⟨X, 0, none⟩) ((List.range n).map G) V := by
 refine ⟨fun i l hil => ?_, fun l hl => ?_⟩
 ·
  rw [List.getElem?_map] at hil
  obtain ⟨j, hj, rfl⟩ := Option.map_eq_some_iff.1 hil
  obtain ⟨h1, h2⟩ := List.getElem?_eq_some_iff.1 hj
  simp at h1 h2
  subst h2
  refine ⟨X, 0, rfl, ?_⟩
  rw [Nat.zero_add]
  exact h.rg i h1
 ·
  obtain ⟨j, _, rfl⟩ := List.mem_map.1 hl
  exact hG j
theorem heap_setCells_other {g b : Nat} : ∀ (vs : List Value) (o : Nat) (w : World), b ≠ g → (w.setCells g o vs).heap[b]? = w.heap[b]?
 | [], _, _, _ => rfl
 | v :: r, o, w, h => by
  rw [World.setCells, heap_setCells_other r (o + 1) _ h]
  exact Below.heap_setCell _ _ _ _ h
set_option maxRecDepth 100000 in
set_option maxHeartbeats 1000000 in
theorem keys_any (seed : List UInt8) (hs : seed.length = 16) (h : Nat) (hh : h ≤ 4) (w : World) (env : DEnv w) :
  Calls Tryz.prog 38 #[.agg (bcells seed), .int .i64 (h : Int)] w fun e w' => e = .returned (.slice (some ⟨w.heap.size + 1, 0, none⟩) (2 ^ h) (2 ^ h)) ∧ Shorts (some ⟨w.heap.size + 1, 0, none⟩) (lvl seed 0 (2 ^ h)) w' ∧ Below w.heap.size w w' := by
 obtain ⟨i0, hi, hz0, hz1, hz2⟩ := info_parts Tryz.info_short
 have hshl := shl_any h hh
 have hp1 : 0 < 2 ^ h := Nat.two_pow_pos h
 have hp2 : 2 ^ h ≤ 16 := by
  have := Nat.pow_le_pow_right (show 0 < 2 by decide) hh
  simpa using this
 have hlv : lvl seed 0 (2 ^ h) = (List.range (2 ^ h)).map fun k => leaf seed k := rfl
 rw [hlv]
 obtain ⟨n, hn⟩ : ∃ n, 2 ^ h = n := ⟨_, rfl⟩
 rw [hn] at hshl hp1 hp2 ⊢
 obtain ⟨hI, hHI⟩ : ∃ hI : Int, (h : Int) = hI := ⟨_, rfl⟩
 rw [hHI] at hshl ⊢
 have hso := fun (k : Nat) (hk : k < n) (V : World) (hb : Below w.heap.size w V) => seedOf_any seed hs k (by omega) V (env.on hb)
 have hpu : ∀ (k : Nat), k < n → ∀ (V : World), Below w.heap.size w V → Calls Tryz.prog 66 #[.agg (bcells (msd seed k))] V fun e w' => e = .returned (.agg (bcells (leaf seed k))) ∧ Below V.heap.size V w' := fun k hk V hb => public_any (msd seed k) (msd_len seed k) V (env.on hb)
 have hM16 := fun k => msd_len seed k
 have hG16 := fun k => leaf_len seed k
 obtain ⟨M, hM⟩ : ∃ M : Nat → List UInt8, ∀ k, msd seed k = M k := ⟨_, fun _ => rfl⟩
 obtain ⟨G, hG⟩ : ∃ G : Nat → List UInt8, ∀ k, leaf seed k = G k := ⟨_, fun _ => rfl⟩
 simp only [hM] at hso hpu hM16
 simp only [hG] at hpu hG16 ⊢
 have SO := Lib.hid hso
 have PU := Lib.hid hpu
 have HM := Lib.hid hM16
 have HG := Lib.hid hG16
 have HI := Lib.hid hi
 have HSZ := Lib.hid (sz16 seed hs)
 have HS16 := Lib.hid hs
 clear hso hpu hM16 hG16 hM hG hi hn hHI hlv env hh hs
 go_enter Tryz.func38, Tryz.ntmps38
 go_wp2_with (at_make; go_loud (refine wpList_make_full _ rfl (.tmp 8) (.tmp 8) 28 rfl (w.heap.size + 1) 41 i0 (.agg (bcells (List.replicate 16 0))) 16 Tryz.underlying28 HI.out hz0 hz1 .i64 .i64 (n : Int) (n : Int) n rfl rfl rfl rfl (by rw [hz2]; omega) (by unfold maxLen; omega) (by simp) ?_); intro w1 ho1 hb1; go_loud (have HO1 := Lib.hid ho1); go_loud (have HG1 := Lib.hid hb1); clear ho1 hb1)
 have hb1 : Below (w.heap.size + 1) (w.alloc (.cells (bcells seed) 41)) w1 := ⟨HG1.out.os, HG1.out.tape, HG1.out.output, by have := HG1.out.size; simpa using this, fun k hk => HG1.out.block k (by simpa using hk) (by simp)⟩
 have hr1 : w1.heap[w.heap.size]? = some (.cells (bcells seed) 41 (0, 0)) := (hb1.block _ (by omega)).trans (heap_alloc_new _ _)
 have hc0 : LA w (w.heap.size + 1) n G 0 w1 := ⟨(below_new w _).trans (hb1.mono (by omega)), own_there (by have h := HO1.out; rw [World.size_alloc] at h; exact h), fun i h => by omega⟩
 have HC0 := Lib.hid hc0
 have HR1 := Lib.hid hr1
 clear hc0 hb1 hr1 HO1 HG1
 go_loopw [6, 12] (fun _ x wr => ∃ m : Nat, m ≤ n ∧ x = .int .i64 (m : Int) ∧ RowKit.Hid (LA w (w.heap.size + 1) n G m wr) ∧ RowKit.Hid (wr.heap[w.heap.size]? = some (.cells (bcells seed) 41 (0, 0)))) (fun _ x _ => n - (intOf x).toNat)
 case atStart => exact ⟨0, by omega, rfl, HC0, HR1⟩
 case round =>
  clear HC0 HR1
  obtain ⟨m, hm, rfl, HLA, HR1⟩ := hrel
  by_cases hlt : m < n
  ·
   have hmi : (m : Int) < (n : Int) := by omega
   have hso := SO.out m hlt
   have hpu := PU.out m hlt
   have hm16 := HM.out m
   obtain ⟨S1, hS1⟩ : ∃ S1, M m = S1 := ⟨_, rfl⟩
   rw [hS1] at hso hpu hm16
   obtain ⟨F, hF⟩ : ∃ F, G m = F := ⟨_, rfl⟩
   have hF16 : F.length = 16 := by rw [← hF]; exact HG.out _
   rw [hF] at hpu
   have SO1 := Lib.hid hso
   have PU1 := Lib.hid hpu
   have HF := Lib.hid hF
   have HSZF := Lib.hid (sz16 F hF16)
   have HLT := Lib.hid hlt
   clear hso hpu hm16 hS1 hF hF16 hlt
   go_wp2_with (refine wpList_load_row rfl 41 (.tmp 2) rfl w.heap.size rfl 41 (bcells seed) (0, 0) _ HR1.out Tryz.underlying41 rfl HSZ.out ?_)
   refine (SO1.out _ HLA.out.bl).mono ?_
   rintro e w2 ⟨rfl, hb2⟩
   have HLA2 := Lib.hid (HLA.out.on hb2 (by have := HLT.out; omega))
   have HR2 := Lib.hid ((hb2.block _ (Array.getElem?_eq_some_iff.1 HR1.out).1).trans HR1.out)
   clear hb2 HLA HR1
   go_wp2_with fail
   refine (PU1.out _ HLA2.out.bl).mono ?_
   rintro e w3 ⟨rfl, hb3⟩
   have HLA3 := Lib.hid (HLA2.out.on hb3 (by have := HLT.out; omega))
   have HR3 := Lib.hid ((hb3.block _ (Array.getElem?_eq_some_iff.1 HR2.out).1).trans HR2.out)
   clear hb3 HLA2 HR2
   have hput := HLA3.out.put (by omega) HG.out HLT.out
   rw [HF.out] at hput
   have HTP := Lib.hid hput.1
   have HLA4 := Lib.hid hput.2
   clear hput
   go_wp2_with (refine wpList_store_mid rfl 41 (.tmp 21) (.tmp 20) rfl (w.heap.size + 1) (m * 16) (bcells F) rfl rfl HTP.out HSZF.out (bcells_one _) ?_)
   refine ⟨⟨m + 1, by have := HLT.out; omega, by go_num, HLA4, Lib.hid ?_⟩, by have := HLT.out; simp [intOf]; omega⟩
   rw [heap_setCells_other _ _ _ (by omega)]
   exact HR3.out
  ·
   have hmm : m = n := by omega
   subst hmm
   have hge : ¬ (m : Int) < (m : Int) := by omega
   go_wp2_with fail
   go_ret
   exact ⟨rfl, HLA.out.shorts HG.out, HLA.out.bl⟩
end Go.Proofs.YtcgffkkfeimifaaGreatDoor
namespace Go.Proofs.YtcgffkkfeimifaaGreatDoor
open Go.RowKit Sha Ots
set_option linter.unusedVariables false
set_option linter.unusedSimpArgs false
theorem wrap_i64 (x : Int) (h0 : 0 ≤ x) (h1 : x ≤ 1000000000) : IntKind.i64.wrap x = x := by
 simp [IntKind.wrap, IntKind.bits, IntKind.signed]
 omega
theorem keepL {w z z' : World} {g p q X n k : Nat} {A B : List Value} {G : Nat → List UInt8} (hn : 0 < n) (h : z.rangeAt g p A ∧ z.rangeAt g q B ∧ LA w X n G k z) (hb : Below z.heap.size z z') :
  z'.rangeAt g p A ∧ z'.rangeAt g q B ∧ LA w X n G k z' :=
 ⟨rangeAt_on h.1 hb, rangeAt_on h.2.1 hb, h.2.2.on hb hn⟩
theorem LA.less {w z : World} {X n k : Nat} {G : Nat → List UInt8} (h : LA w X n G (k + 1) z) : LA w X n G k z := ⟨h.bl, h.th, fun i hi => h.rg i (by omega)⟩
theorem Shorts.atS {A : Option Addr} {ls : List (List UInt8)} {w : World} (h : Shorts A ls w) (i : Nat) (hi : i < ls.length) : ∃ g o, A = some ⟨g, o, none⟩ ∧ w.rangeAt g (o + i * 16) (bvals (ls.getD i [])) := by
 obtain ⟨g, o, e, hr⟩ := h.row i _ (List.getElem?_eq_getElem hi)
 refine ⟨g, o, e, ?_⟩
 rw [Nat.mul_comm] at hr
 rw [List.getD_eq_getElem?_getD, List.getElem?_eq_getElem hi]
 exact hr
theorem getD_len16 {ls : List (List UInt8)} (h : ∀ l ∈ ls, l.length = 16) (i : Nat) (hi : i < ls.length) : (ls.getD i []).length = 16 := by
 rw [List.getD_eq_getElem?_getD, List.getElem?_eq_getElem hi]
 exact h _ (List.getElem_mem hi)
def prs7 (ls : List (List UInt8)) (n : Nat) : List (List UInt8) := (List.range n).map fun k => jn (ls.getD (2 * k) []) (ls.getD (2 * k + 1) [])
set_option maxRecDepth 100000 in
set_option maxHeartbeats 2000000 in
theorem above_any (ls : List (List UInt8)) (A : Option Addr) (c : Nat) (n : Nat) (hl : ls.length = 2 * n) (hn0 : 0 < n) (hn : n ≤ 100) (w : World) (hsh : Shorts A ls w) (env : DEnv w) :
  Calls Tryz.prog 39 #[.slice A (2 * n) c] w fun e w' => e = .returned (.slice (some ⟨w.heap.size, 0, none⟩) n n) ∧ Shorts (some ⟨w.heap.size, 0, none⟩) (prs7 ls n) w' ∧ Below w.heap.size w w' := by
 obtain ⟨i0, hi, hz0, hz1, hz2⟩ := info_parts Tryz.info_short
 obtain ⟨g, o, rfl, _⟩ := hsh.atS 0 (by omega)
 have hrg : ∀ i, i < 2 * n → w.rangeAt g (o + i * 16) (bvals (ls.getD i [])) := fun i hi => by
  obtain ⟨g', o', e, h⟩ := hsh.atS i (by omega)
  injection e with e1
  injection e1 with e2 e3
  subst e2
  subst e3
  exact h
 have hl16 : ∀ i, i < 2 * n → (ls.getD i []).length = 16 := fun i hi => getD_len16 hsh.len i (by omega)
 have hnd := fun (k : Nat) (hk : k < n) (V : World) (hb : Below w.heap.size w V) => (node_any (ls.getD (2 * k) []) (ls.getD (2 * k + 1) []) (hl16 _ (by omega)) (hl16 _ (by omega)) V (env.on hb))
 unfold prs7
 have hG16 : ∀ k, (jn (ls.getD (2 * k) []) (ls.getD (2 * k + 1) [])).length = 16 := fun k => jn_len _ _
 obtain ⟨G, hG⟩ : ∃ G : Nat → List UInt8, ∀ k, jn (ls.getD (2 * k) []) (ls.getD (2 * k + 1) []) = G k := ⟨_, fun _ => rfl⟩
 obtain ⟨L0, hL0⟩ : ∃ L0 : Nat → List UInt8, ∀ k, ls.getD k [] = L0 k := ⟨_, fun _ => rfl⟩
 simp only [hG] at hnd hG16 ⊢
 simp only [hL0] at hnd hrg hl16
 have hquo : wrap64 (((2 * n : Nat) : Int) / 2) = (n : Int) := by
  unfold wrap64
  omega
 obtain ⟨m, hm⟩ : ∃ m, 2 * n = m := ⟨_, rfl⟩
 rw [hm] at hquo hrg hl16 ⊢
 have hglt : g < w.heap.size := rangeAt_lt (hrg 0 (by omega)) (fun e => by have h1 := congrArg List.length e; rw [bvals_len, hl16 0 (by omega)] at h1; cases h1)
 have HGLT := Lib.hid hglt
 have HM := Lib.hid hm
 have HQ := Lib.hid hquo
 have ND0 := Lib.hid hnd
 have HG := Lib.hid hG16
 have HRG := Lib.hid hrg
 have HL16 := Lib.hid hl16
 have HI := Lib.hid hi
 have HN0 := Lib.hid hn0
 have HN := Lib.hid hn
 clear hnd hG16 hrg hl16 hi hG hL0 hm hquo hglt env hsh hl hn0 hn
 go_enter Tryz.func39, Tryz.ntmps39
 go_wp2_with (at_make; go_loud (refine wpList_make_full _ rfl (.tmp 7) (.tmp 7) 28 rfl w.heap.size 41 i0 (.agg (bcells (List.replicate 16 0))) 16 Tryz.underlying28 HI.out hz0 hz1 .i64 .i64 (wrap64 ((m : Int) / 2)) (wrap64 ((m : Int) / 2)) n rfl rfl HQ.out HQ.out (by rw [hz2]; have := HN.out; omega) (by have := HN.out; unfold maxLen; omega) (by simp) ?_); intro w1 ho1 hb1; go_loud (have HO1 := Lib.hid ho1); go_loud (have HG1 := Lib.hid hb1); clear ho1 hb1)
 have hb1 : Below w.heap.size w w1 := ⟨HG1.out.os, HG1.out.tape, HG1.out.output, HG1.out.size, fun k hk => HG1.out.block k hk (by simp)⟩
 have hc0 : LA w w.heap.size n G 0 w1 := ⟨hb1, own_there HO1.out, fun i h => by omega⟩
 have HC0 := Lib.hid hc0
 clear hc0 hb1 HO1 HG1
 go_loopw [4, 11] (fun _ x wr => ∃ k : Nat, k ≤ n ∧ x = .int .i64 (k : Int) ∧ RowKit.Hid (LA w w.heap.size n G k wr)) (fun _ x _ => n - (intOf x).toNat)
 case atStart => exact ⟨0, by omega, rfl, HC0⟩
 case round =>
  clear HC0
  obtain ⟨k, hk, rfl, HLA⟩ := hrel
  by_cases hlt : k < n
  ·
   have hmi : (k : Int) < (n : Int) := by omega
   have hmm := HM.out
   have hrL := rangeAt_on (HRG.out (2 * k) (by omega)) HLA.out.bl
   have hrR := rangeAt_on (HRG.out (2 * k + 1) (by omega)) HLA.out.bl
   have hl1 := HL16.out (2 * k) (by omega)
   have hl2 := HL16.out (2 * k + 1) (by omega)
   have hnd := ND0.out k hlt
   obtain ⟨L, hL⟩ : ∃ L, L0 (2 * k) = L := ⟨_, rfl⟩
   obtain ⟨R, hR⟩ : ∃ R, L0 (2 * k + 1) = R := ⟨_, rfl⟩
   obtain ⟨F, hF⟩ : ∃ F, G k = F := ⟨_, rfl⟩
   have hF16 : F.length = 16 := by rw [← hF]; exact HG.out _
   rw [hL] at hrL hl1 hnd
   rw [hR] at hrR hl2 hnd
   rw [hF] at hnd
   have hn100 := HN.out
   have ha1 : IntKind.i64.wrap (2 * (k : Int)) = ((2 * k : Nat) : Int) := by rw [wrap_i64 _ (by omega) (by omega)]; omega
   have ha2 : IntKind.i64.wrap (((2 * k : Nat) : Int) + 1) = ((2 * k + 1 : Nat) : Int) := by rw [wrap_i64 _ (by omega) (by omega)]; omega
   have hb1 : ((2 * k : Nat) : Int) < (m : Int) := by omega
   have hb2 : ((2 * k + 1 : Nat) : Int) < (m : Int) := by omega
   obtain ⟨a, ha⟩ : ∃ a, 2 * k = a := ⟨_, rfl⟩
   rw [ha] at hrL ha1 ha2 hb1
   obtain ⟨b, hb⟩ : ∃ b, 2 * k + 1 = b := ⟨_, rfl⟩
   rw [ha] at hb
   rw [ha, hb] at hrR
   rw [ha] at hb2
   rw [hb] at ha2 hb2
   have hiL : (Tryz.prog.info? 41).map (·.size) = some (bvals L).length := by rw [bvals_len, hl1]; kernel_rfl
   have hiR : (Tryz.prog.info? 41).map (·.size) = some (bvals R).length := by rw [bvals_len, hl2]; kernel_rfl
   have ND : RowKit.Hid (∀ V, Below w.heap.size w V → Calls Tryz.prog 68 #[.agg (bvals L).toArray, .agg (bvals R).toArray] V fun e w' => e = .returned (.agg (bcells F)) ∧ Below V.heap.size V w') := Lib.hid hnd
   have HF := Lib.hid hF
   have HSZF := Lib.hid (sz16 F hF16)
   have HKN := Lib.hid hlt
   have hu := Tryz.underlying41
   have HS0 : RowKit.Hid (wr.drew.rangeAt g (o + a * 16) (bvals L) ∧ wr.drew.rangeAt g (o + b * 16) (bvals R) ∧ LA w w.heap.size n G k wr.drew) := Lib.hid ⟨hrL, hrR, ⟨HLA.out.bl.drew, HLA.out.th, HLA.out.rg⟩⟩
   clear hrL hrR hl1 hl2 hnd hL hR hF hF16 hn100 ha hb hlt hmm
   go_upto_region 5 with (fail)
   refine wp_region_held_drew (S := fun z => z.rangeAt g (o + a * 16) (bvals L) ∧ z.rangeAt g (o + b * 16) (bvals R) ∧ LA w w.heap.size n G k z) (by kernel_rfl) HS0.out (fun hHeld => ?_)
   refine wpAnyH_take (i := 0) (oi := { dst := some 14, op := .move (.tmp 3), type := 28, pos := "nodes.go:43", after := #[], guard := none }) (v := ?_) rfl (by kernel_rfl) (by kernel_rfl) (by kernel_rfl) (fun _ _ _ h => h) (Or.inl ⟨by rfl, ?_⟩) hHeld ?_
   rotate_left
   ·
    intro w hSw
    clear hSw
    go_simp
    try with_reducible rfl
   try simp only [Act.put, List.setIfInBounds_toArray, List.set_cons_zero, List.set_cons_succ]
   refine wpAnyH_take (i := 1) (oi := { dst := some 15, op := .move (.tmp 4), type := 3, pos := "nodes.go:43", after := #[], guard := none }) (v := ?_) rfl (by kernel_rfl) (by kernel_rfl) (by kernel_rfl) (fun _ _ _ h => h) (Or.inl ⟨by rfl, ?_⟩) hHeld ?_
   rotate_left
   ·
    intro w hSw
    clear hSw
    go_simp
    try with_reducible rfl
   try simp only [Act.put, List.setIfInBounds_toArray, List.set_cons_zero, List.set_cons_succ]
   refine wpAnyH_take (i := 2) (oi := { dst := some 16, op := .move (.tmp 0), type := 28, pos := "nodes.go:43", after := #[], guard := none }) (v := ?_) rfl (by kernel_rfl) (by kernel_rfl) (by kernel_rfl) (fun _ _ _ h => h) (Or.inl ⟨by rfl, ?_⟩) hHeld ?_
   rotate_left
   ·
    intro w hSw
    clear hSw
    go_simp
    try with_reducible rfl
   try simp only [Act.put, List.setIfInBounds_toArray, List.set_cons_zero, List.set_cons_succ]
   refine wpAnyH_take (i := 3) (oi := { dst := some 17, op := .move (.tmp 4), type := 3, pos := "nodes.go:43", after := #[], guard := none }) (v := ?_) rfl (by kernel_rfl) (by kernel_rfl) (by kernel_rfl) (fun _ _ _ h => h) (Or.inl ⟨by rfl, ?_⟩) hHeld ?_
   rotate_left
   ·
    intro w hSw
    clear hSw
    go_simp
    try with_reducible rfl
   try simp only [Act.put, List.setIfInBounds_toArray, List.set_cons_zero, List.set_cons_succ]
   refine wpAnyH_take (i := 4) (oi := { dst := some 18, op := .binOp .mul 3 (.const (.int .i64 2)) (.tmp 17) 3, type := 3, pos := "nodes.go:43", after := #[{ on := 3, ground := .data }], guard := none }) (v := .int .i64 (a : Int)) rfl (by kernel_rfl) (by kernel_rfl) (by kernel_rfl) (fun _ _ _ h => h) (Or.inl ⟨by rfl, ?_⟩) hHeld ?_
   ·
    intro w hSw
    clear hSw
    go_simp
    try rw [ha1]
   try simp only [Act.put, List.setIfInBounds_toArray, List.set_cons_zero, List.set_cons_succ]
   refine wpAnyH_take (i := 5) (oi := { dst := some 19, op := .indexAddr 28 (.tmp 16) (.tmp 18), type := 0, pos := "nodes.go:43", after := #[{ on := 2, ground := .data }, { on := 4, ground := .data }], guard := none }) (v := ?_) rfl (by kernel_rfl) (by kernel_rfl) (by kernel_rfl) (fun _ _ _ h => h) (Or.inl ⟨by rfl, ?_⟩) hHeld ?_
   rotate_left
   ·
    intro w hSw
    clear hSw
    go_simp
    try with_reducible rfl
   try simp only [Act.put, List.setIfInBounds_toArray, List.set_cons_zero, List.set_cons_succ]
   refine wpAnyH_take (i := 6) (oi := { dst := some 20, op := .load 41 (.tmp 19), type := 41, pos := "nodes.go:43", after := #[{ on := 5, ground := .data }], guard := none }) (v := .agg (bvals L).toArray) rfl (by kernel_rfl) (by kernel_rfl) (by kernel_rfl) (fun _ _ _ h => h) (yieldsIf_load_mid (by rfl) _ _ rfl _ _ rfl (bvals L) _ (fun w hSw => hSw.1) hu rfl hiL) hHeld ?_
   try simp only [Act.put, List.setIfInBounds_toArray, List.set_cons_zero, List.set_cons_succ]
   refine wpAnyH_take (i := 7) (oi := { dst := some 21, op := .move (.tmp 0), type := 28, pos := "nodes.go:43", after := #[], guard := none }) (v := ?_) rfl (by kernel_rfl) (by kernel_rfl) (by kernel_rfl) (fun _ _ _ h => h) (Or.inl ⟨by rfl, ?_⟩) hHeld ?_
   rotate_left
   ·
    intro w hSw
    clear hSw
    go_simp
    try with_reducible rfl
   try simp only [Act.put, List.setIfInBounds_toArray, List.set_cons_zero, List.set_cons_succ]
   refine wpAnyH_take (i := 8) (oi := { dst := some 22, op := .move (.tmp 4), type := 3, pos := "nodes.go:43", after := #[], guard := none }) (v := ?_) rfl (by kernel_rfl) (by kernel_rfl) (by kernel_rfl) (fun _ _ _ h => h) (Or.inl ⟨by rfl, ?_⟩) hHeld ?_
   rotate_left
   ·
    intro w hSw
    clear hSw
    go_simp
    try with_reducible rfl
   try simp only [Act.put, List.setIfInBounds_toArray, List.set_cons_zero, List.set_cons_succ]
   refine wpAnyH_take (i := 9) (oi := { dst := some 23, op := .binOp .mul 3 (.const (.int .i64 2)) (.tmp 22) 3, type := 3, pos := "nodes.go:43", after := #[{ on := 8, ground := .data }], guard := none }) (v := .int .i64 (a : Int)) rfl (by kernel_rfl) (by kernel_rfl) (by kernel_rfl) (fun _ _ _ h => h) (Or.inl ⟨by rfl, ?_⟩) hHeld ?_
   ·
    intro w hSw
    clear hSw
    go_simp
    try rw [ha1]
   try simp only [Act.put, List.setIfInBounds_toArray, List.set_cons_zero, List.set_cons_succ]
   refine wpAnyH_take (i := 10) (oi := { dst := some 24, op := .binOp .add 3 (.tmp 23) (.const (.int .i64 1)) 3, type := 3, pos := "nodes.go:43", after := #[{ on := 9, ground := .data }], guard := none }) (v := .int .i64 (b : Int)) rfl (by kernel_rfl) (by kernel_rfl) (by kernel_rfl) (fun _ _ _ h => h) (Or.inl ⟨by rfl, ?_⟩) hHeld ?_
   ·
    intro w hSw
    clear hSw
    go_simp
    try rw [ha2]
   try simp only [Act.put, List.setIfInBounds_toArray, List.set_cons_zero, List.set_cons_succ]
   refine wpAnyH_take (i := 11) (oi := { dst := some 25, op := .indexAddr 28 (.tmp 21) (.tmp 24), type := 0, pos := "nodes.go:43", after := #[{ on := 7, ground := .data }, { on := 10, ground := .data }], guard := none }) (v := ?_) rfl (by kernel_rfl) (by kernel_rfl) (by kernel_rfl) (fun _ _ _ h => h) (Or.inl ⟨by rfl, ?_⟩) hHeld ?_
   rotate_left
   ·
    intro w hSw
    clear hSw
    go_simp
    try with_reducible rfl
   try simp only [Act.put, List.setIfInBounds_toArray, List.set_cons_zero, List.set_cons_succ]
   refine wpAnyH_take (i := 12) (oi := { dst := some 26, op := .load 41 (.tmp 25), type := 41, pos := "nodes.go:43", after := #[{ on := 11, ground := .data }], guard := none }) (v := .agg (bvals R).toArray) rfl (by kernel_rfl) (by kernel_rfl) (by kernel_rfl) (fun _ _ _ h => h) (yieldsIf_load_mid (by rfl) _ _ rfl _ _ rfl (bvals R) _ (fun w hSw => hSw.2.1) hu rfl hiR) hHeld ?_
   try simp only [Act.put, List.setIfInBounds_toArray, List.set_cons_zero, List.set_cons_succ]
   refine wpAnyH_ready (rs := [13]) (by kernel_rfl) (by simp) (AllReadyH.cons (o := { dst := some 27, op := .call { callee := .value (.func 68), args := #[.tmp 20, .tmp 26], argTypes := #[41, 41] }, type := 41, pos := "nodes.go:43", after := #[{ on := 6, ground := .data }, { on := 12, ground := .data }], guard := none }) rfl (fun K hK => ?_) AllReadyH.nil)
   go_simp
   refine (ND.out _ hHeld.2.2.bl).mono ?_
   rintro e w8 ⟨rfl, hb8⟩
   go_simp
   refine hK.out _ _ (keepL HN0.out hHeld hb8) (fun hHeld2 => ?_)
   clear hK K hHeld hb8
   have hHeld := hHeld2
   clear hHeld2
   try simp only [Act.put, List.setIfInBounds_toArray, List.set_cons_zero, List.set_cons_succ]
   refine wpAnyH_take (i := 14) (oi := { dst := some 28, op := .indexAddr 28 (.tmp 14) (.tmp 15), type := 0, pos := "nodes.go:43", after := #[{ on := 0, ground := .data }, { on := 1, ground := .data }, { on := 0, ground := .phase }, { on := 1, ground := .phase }, { on := 2, ground := .phase }, { on := 3, ground := .phase }, { on := 4, ground := .phase }, { on := 5, ground := .phase }, { on := 6, ground := .phase }, { on := 7, ground := .phase }, { on := 8, ground := .phase }, { on := 9, ground := .phase }, { on := 10, ground := .phase }, { on := 11, ground := .phase }, { on := 12, ground := .phase }, { on := 13, ground := .phase }], guard := none }) (v := ?_) rfl (by kernel_rfl) (by kernel_rfl) (by kernel_rfl) (fun _ _ _ h => h) (Or.inl ⟨by rfl, ?_⟩) hHeld ?_
   rotate_left
   ·
    intro w hSw
    clear hSw
    go_simp
    try with_reducible rfl
   try simp only [Act.put, List.setIfInBounds_toArray, List.set_cons_zero, List.set_cons_succ]
   refine wpAnyH_ready (rs := [15]) (by kernel_rfl) (by simp) (AllReadyH.cons (o := { dst := none, op := .store 41 (.tmp 28) (.tmp 27), type := 0, pos := "nodes.go:43", after := #[{ on := 14, ground := .data }, { on := 13, ground := .data }, { on := 13, ground := .chain }, { on := 0, ground := .phase }, { on := 1, ground := .phase }, { on := 2, ground := .phase }, { on := 3, ground := .phase }, { on := 4, ground := .phase }, { on := 5, ground := .phase }, { on := 6, ground := .phase }, { on := 7, ground := .phase }, { on := 8, ground := .phase }, { on := 9, ground := .phase }, { on := 10, ground := .phase }, { on := 11, ground := .phase }, { on := 12, ground := .phase }, { on := 13, ground := .phase }], guard := none }) rfl (fun K hK => ?_) AllReadyH.nil)
   have hput := hHeld.2.2.put (Nat.le_refl _) HG.out HKN.out
   rw [HF.out] at hput
   refine wp_store_mid 41 (.tmp 28) (.tmp 27) rfl w.heap.size (k * 16) (bcells F) rfl rfl hput.1 HSZF.out (bcells_one _) ?_
   refine hK.out _ _ ⟨World.rangeAt_setCells_apart hHeld.1 _ _ _ (.inl (Nat.ne_of_lt HGLT.out)), World.rangeAt_setCells_apart hHeld.2.1 _ _ _ (.inl (Nat.ne_of_lt HGLT.out)), hput.2.less⟩ (fun hHeld2 => ?_)
   have HLA2 := Lib.hid hput.2
   clear hK K hHeld hput HS0 HLA hHeld2
   try simp only [Act.put, List.setIfInBounds_toArray, List.set_cons_zero, List.set_cons_succ]
   refine wpAnyH_done (by kernel_rfl) ?_ _
   generalize World.setCells _ _ _ _ = z at HLA2 ⊢
   have hkn := HKN.out
   have hn100 := HN.out
   go_wp2_with fail
   exact ⟨⟨k + 1, by omega, by go_num, HLA2⟩, by simp [intOf]; omega⟩
  ·
   have hmm : k = n := by omega
   subst hmm
   have hge : ¬ (k : Int) < (k : Int) := by omega
   go_wp2_with fail
   go_ret
   exact ⟨rfl, HLA.out.shorts HG.out, HLA.out.bl⟩
end Go.Proofs.YtcgffkkfeimifaaGreatDoor
