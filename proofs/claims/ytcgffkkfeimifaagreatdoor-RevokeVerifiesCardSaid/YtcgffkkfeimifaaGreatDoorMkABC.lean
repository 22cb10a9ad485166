import Derived.Test.YtcgffkkfeimifaaGreatDoorOneAll
import Derived.Test.YtcgffkkfeimifaaGreatDoorMkMath
namespace Go.Proofs.YtcgffkkfeimifaaGreatDoor
open Go.RowKit Sha Ots
set_option linter.unusedVariables false
set_option linter.unusedSimpArgs false
set_option maxRecDepth 100000 in
set_option maxHeartbeats 1000000 in
theorem isHeight_any (h : Int) (w : World) :
  Calls Tryz.prog 37 #[.int .i64 h] w fun e w' => e = .returned (.bool (decide (0 ≤ h ∧ h ≤ 4))) ∧ Below w.heap.size w w' := by
 have hz : Below w.heap.size w w := Below.refl _ _
 by_cases h1 : 0 ≤ h
 ·
  by_cases h2 : h ≤ 4
  ·
   rw [decide_eq_true ⟨h1, h2⟩]
   go_enter Tryz.func37, Tryz.ntmps37
   go_wp2_with fail
   go_ret
   exact ⟨rfl, hz⟩
  ·
   rw [decide_eq_false (fun hh => h2 hh.2)]
   go_enter Tryz.func37, Tryz.ntmps37
   go_wp2_with fail
   go_ret
   exact ⟨rfl, hz⟩
 ·
  rw [decide_eq_false (fun hh => h1 hh.1)]
  go_enter Tryz.func37, Tryz.ntmps37
  go_wp2_with fail
  go_ret
  exact ⟨rfl, hz⟩
theorem shl_any (h : Nat) (hh : h ≤ 4) : ∀ w : World, (Op.shift .shl .i64 1 .i64 (h : Int)).run Tryz.prog w = .ok (.int .i64 ((2 ^ h : Nat) : Int)) w := by
 intro w
 obtain rfl | rfl | rfl | rfl | rfl : h = 0 ∨ h = 1 ∨ h = 2 ∨ h = 3 ∨ h = 4 := by omega
 all_goals rfl
set_option maxRecDepth 100000 in
set_option maxHeartbeats 1000000 in
theorem isIndex_any (n : Int) (h : Nat) (hh : h ≤ 4) (w : World) :
  Calls Tryz.prog 69 #[.int .i64 n, .int .i64 (h : Int)] w fun e w' => e = .returned (.bool (decide (0 ≤ n ∧ n < ((2 ^ h : Nat) : Int)))) ∧ Below w.heap.size w w' := by
 have hz : Below w.heap.size w w := Below.refl _ _
 have hs := shl_any h hh
 obtain ⟨p, hp⟩ : ∃ p : Int, ((2 ^ h : Nat) : Int) = p := ⟨_, rfl⟩
 rw [hp] at hs ⊢
 obtain ⟨k, hk⟩ : ∃ k : Int, (h : Int) = k := ⟨_, rfl⟩
 rw [hk] at hs ⊢
 clear hk hp hh
 by_cases h1 : 0 ≤ n
 ·
  by_cases h2 : n < p
  ·
   rw [decide_eq_true ⟨h1, h2⟩]
   go_enter Tryz.func69, Tryz.ntmps69
   go_wp2_with fail
   go_ret
   exact ⟨rfl, hz⟩
  ·
   rw [decide_eq_false (fun hh => h2 hh.2)]
   go_enter Tryz.func69, Tryz.ntmps69
   go_wp2_with fail
   go_ret
   exact ⟨rfl, hz⟩
 ·
  rw [decide_eq_false (fun hh => h1 hh.1)]
  go_enter Tryz.func69, Tryz.ntmps69
  go_wp2_with fail
  go_ret
  exact ⟨rfl, hz⟩
theorem own_new1 (w : World) (x : UInt8) (cs : Array Value) (h : cs = bcells [x]) : (w.alloc (.cells cs 5)).ownsRow w.heap.size 5 1 (.slice (some ⟨w.heap.size, 0, none⟩) 1 1) 1 (bvals [x]) := by
 subst h
 exact ⟨rfl, .inr ⟨w.heap.size, 1, bcells [x], rfl, Nat.le_refl _, heap_alloc_new _ _, Nat.le_refl _, by decide, rfl, rfl⟩⟩
set_option maxRecDepth 100000 in
set_option maxHeartbeats 1000000 in
theorem node_any (l r : List UInt8) (hl : l.length = 16) (hr : r.length = 16) (w : World) (env : DEnv w) :
  Calls Tryz.prog 68 #[.agg (bcells l), .agg (bcells r)] w fun e w' => e = .returned (.agg (bcells (jn l r))) ∧ Below w.heap.size w w' := by
 have hsho : ∀ (V : World) (v : Value), Below w.heap.size w V → V.ownsRow (w.heap.size + 3) 5 1 v 33 (bvals (([1] ++ l) ++ r)) → Calls Tryz.prog 108 #[v] V fun e w' => e = .returned (.agg (bcells (jn l r))) ∧ Below V.heap.size V w' := fun V v hb ho => by
  have e33 : (([1] ++ l) ++ r).length = 33 := by rw [List.length_append, List.length_append, hl, hr]; rfl
  rw [← e33] at ho
  obtain ⟨A, c, rfl, h1, h2, h3, h4⟩ := own_rd7 ho
  exact short_any _ A c (by rw [e33]; decide) h1 h2 V h4 (env.on hb)
 obtain ⟨F, hF⟩ : ∃ F, jn l r = F := ⟨_, rfl⟩
 have hF16 : F.length = 16 := by rw [← hF]; exact jn_len _ _
 rw [hF] at hsho ⊢
 have SH := Lib.hid hsho
 have HSZ := Lib.hid (sz16 F hF16)
 have hso : (16 : Nat) = (bcells F).size := by rw [bcells_size, hF16]
 have HSO := Lib.hid hso
 have s1 := slice_short
 have HL := Lib.hid hl
 have HR := Lib.hid hr
 clear hsho hF hF16 hso env hl hr
 go_enter Tryz.func68, Tryz.ntmps68
 go_upto_region 1 with (fail)
 generalize hV : World.alloc (World.alloc (World.alloc w _) _) _ = V
 have hb0 : Below w.heap.size w V := by rw [← hV]; exact below3 _ _ _ _
 have hr0 : V.heap[w.heap.size]? = some (.cells (bcells l) 41 (0, 0)) := by rw [← hV]; exact heap3_first _ _ _ _
 have hr1 : V.heap[w.heap.size + 1]? = some (.cells (bcells r) 41 (0, 0)) := by rw [← hV]; exact heap3_mid _ _ _ _
 have hr2 : V.heap[w.heap.size + 2]? = some (.cells (bcells (List.replicate 16 0)) 41 (0, 0)) := by rw [← hV]; exact (heap3_last _ _ _ _).trans rfl
 have hz : V.heap.size = w.heap.size + 3 := by rw [← hV]; simp
 have HB0 := Lib.hid hb0
 have HR0 := Lib.hid hr0
 have HR1 := Lib.hid hr1
 have HR2 := Lib.hid hr2
 have HZ := Lib.hid hz
 clear hV hb0 hr0 hr1 hr2 hz
 go_upto_region 2 with (at_builtin; go_loud (refine append_src7 rfl (.tmp 6) (.tmp 7) rfl V.heap.size _ 1 (bvals [1]) rfl (own_new1 V 1 _ rfl) (some ⟨w.heap.size, 0, none⟩) l 16 16 HL.out rfl (fun e => by cases e) (srcAt_row ((Below.heap_alloc _ _ _ (by have := HZ.out; omega)).trans HR0.out)) (by decide) (by rw [World.size_alloc]; omega) ?_); intro v1 w1 ho1 hg1; go_loud (have HO1 := Lib.hid ho1); go_loud (have HG1 := Lib.hid hg1); clear ho1 hg1)
 have hne : ∀ j, Value.ownBlock (.slice (some ⟨V.heap.size, 0, none⟩) 1 1) = some j → w.heap.size + 3 ≤ j := fun j hj => by
  obtain rfl : V.heap.size = j := by simpa [Value.ownBlock] using hj
  have := HZ.out
  omega
 have hbw1 : Below w.heap.size w w1 := (HB0.out.alloc HB0.out.size _).grown HG1.out (by rw [World.size_alloc]; have := HZ.out; omega) (fun j hj => (by have := hne j hj; omega))
 have hr11 : w1.heap[w.heap.size + 1]? = some (.cells (bcells r) 41 (0, 0)) := by
  rw [HG1.out.block (w.heap.size + 1) (by rw [World.size_alloc]; have := HZ.out; omega) (fun e => by have := hne _ e.symm; omega), Below.heap_alloc _ _ _ (by have := HZ.out; omega)]
  exact HR1.out
 have hr21 : w1.heap[w.heap.size + 2]? = some (.cells (bcells (List.replicate 16 0)) 41 (0, 0)) := by
  rw [HG1.out.block (w.heap.size + 2) (by rw [World.size_alloc]; have := HZ.out; omega) (fun e => by have := hne _ e.symm; omega), Below.heap_alloc _ _ _ (by have := HZ.out; omega)]
  exact HR2.out
 have ho11 : w1.ownsRow V.heap.size 5 1 v1 17 (bvals ([1] ++ l)) := by
  rw [bvals_app]
  exact HO1.out
 have HB1 := Lib.hid hbw1
 have HR11 := Lib.hid hr11
 have HR21 := Lib.hid hr21
 have HO11 := Lib.hid ho11
 have HSZ1 : RowKit.Hid (V.heap.size ≤ w1.heap.size) := Lib.hid (by have h := HG1.out.size; rw [World.size_alloc] at h; omega)
 clear hne hbw1 hr11 hr21 ho11 HO1 HG1 HB0 HR0 HR1 HR2
 go_wp2_with (at_builtin; go_loud (refine append_src7 rfl (.tmp 9) (.tmp 10) rfl V.heap.size _ 17 (bvals ([1] ++ l)) rfl HO11.out (some ⟨w.heap.size + 1, 0, none⟩) r 16 16 HR.out rfl (fun e => by cases e) (srcAt_row HR11.out) (by decide) HSZ1.out ?_); intro v2 w2 ho2 hg2; go_loud (have HO2 := Lib.hid ho2); go_loud (have HG2 := Lib.hid hg2); clear ho2 hg2)
 have hne : ∀ j, Value.ownBlock v1 = some j → w.heap.size + 3 ≤ j := fun j hj => by
  have h1 := (own_ge7 HO11.out hj).1
  have h2 := HZ.out
  omega
 have hle := HSZ1.out
 have hzz := HZ.out
 have hbw2 : Below w.heap.size w w2 := HB1.out.grown HG2.out (by omega) (fun j hj => (by have := hne j hj; omega))
 have hr22 : w2.heap[w.heap.size + 2]? = some (.cells (bcells (List.replicate 16 0)) 41 (0, 0)) := by
  rw [HG2.out.block (w.heap.size + 2) (by omega) (fun e => by have := hne _ e.symm; omega)]
  exact HR21.out
 have ho22 : w2.ownsRow (w.heap.size + 3) 5 1 v2 33 (bvals (([1] ++ l) ++ r)) := by
  rw [bvals_app, ← hzz]
  exact HO2.out
 have HB2 := Lib.hid hbw2
 have HR22 := Lib.hid hr22
 have HO22 := Lib.hid ho22
 clear hne hbw2 hr22 ho22 HO2 HG2 HB1 HR11 HR21 HO11 hle hzz HSZ1 HZ
 refine (SH.out w2 v2 HB2.out HO22.out).mono ?_
 rintro e w3 ⟨rfl, hb3⟩
 have HR3 := Lib.hid ((hb3.block _ (Array.getElem?_eq_some_iff.1 HR22.out).1).trans HR22.out)
 have HB3 := Lib.hid (chain HB2.out hb3)
 clear hb3 HO22 HB2 HR22
 go_wp2_with (refine wpList_store_row rfl 41 (.tmp 4) (.tmp 12) rfl (w.heap.size + 2) (bcells F) rfl rfl 41 _ HR3.out HSZ.out HSO.out (bcells_one _) ?_)
 refine bodyPost_ret (v := .agg (bcells F)) (results_cell_row rfl _ _ (w.heap.size + 2) 41 _ (0, 0) _ rfl (setRow_heap _ _ _ _ _ _ HR3.out) Tryz.underlying41 rfl HSZ.out) rfl ⟨rfl, ?_⟩
 exact below_row HB3.out (by omega) _
end Go.Proofs.YtcgffkkfeimifaaGreatDoor
namespace Go.Proofs.YtcgffkkfeimifaaGreatDoor
open Go.RowKit Sha Ots
set_option linter.unusedVariables false
set_option linter.unusedSimpArgs false
structure LA (w : World) (X n : Nat) (G : Nat → List UInt8) (k : Nat) (V : World) : Prop where
 bl : Below w.heap.size w V
 th : V.there X 0 (n * 16)
 rg : ∀ i, i < k → V.rangeAt X (16 * i) (bvals (G i))
theorem LA.on {w V V' : World} {X n k : Nat} {G : Nat → List UInt8} (h : LA w X n G k V) (hb : Below V.heap.size V V') (hn : 0 < n) : LA w X n G k V' := by
 have hlt := there_lt h.th (by omega)
 exact ⟨chain h.bl hb, there_below h.th hb hlt, fun i hi => rangeAt_below (h.rg i hi) hb hlt⟩
theorem LA.put {w V : World} {X n k : Nat} {G : Nat → List UInt8} (h : LA w X n G k V) (hX : w.heap.size ≤ X) (hG : ∀ i, (G i).length = 16) (hk : k < n) : V.there X (k * 16) (bcells (G k)).size ∧ LA w X n G (k + 1) (V.setCells X (k * 16) (bcells (G k)).toList) := by
 have htp := there_part h.th (16 * k) 16 (by omega)
 rw [Nat.zero_add, Nat.mul_comm] at htp
 have hsz : (bcells (G k)).size = 16 := by rw [bcells_size]; exact hG k
 have htp2 : V.there X (k * 16) (bcells (G k)).size := by rw [hsz]; exact htp
 have hbl : (bcells (G k)).toList.length = 16 := by rw [Array.length_toList]; exact hsz
 refine ⟨htp2, ⟨below_setCells _ _ _ h.bl hX, World.there_setCells h.th _ _ _, fun i hi => ?_⟩⟩
 by_cases e : i = k
 ·
  subst e
  rw [Nat.mul_comm 16 i]
  exact World.rangeAt_setCells_same _ _ _ _ htp2
 ·
  refine World.rangeAt_setCells_apart (h.rg i (by omega)) _ _ _ (.inr (.inl ?_))
  rw [bvals_len, hG i]
  omega
theorem LA.shorts {w V : World} {X n : Nat} {G : Nat → List UInt8} (h : LA w X n G n V) (hG : ∀ i, (G i).length = 16) : Shorts (some ⟨X, 0, none⟩) ((List.range n).map G) V := by
 refine ⟨fun i l hil => ?_, fun l hl => ?_⟩
 ·
  rw [List.getElem?_map] at hil
  obtain ⟨j, hj, rfl⟩ := Option.map_eq_some_iff.1 hil
  obtain ⟨h1, h2⟩ := List.getElem?_eq_some_iff.1 hj
  simp at h1 h2
  subst h2
  refine ⟨X, 0, rfl, ?_⟩
  rw [Nat.zero_add]
  exact h.rg i h1
 ·
  obtain ⟨j, _, rfl⟩ := List.mem_map.1 hl
  exact hG j
theorem heap_setCells_other {g b : Nat} : ∀ (vs : List Value) (o : Nat) (w : World), b ≠ g → (w.setCells g o vs).heap[b]? = w.heap[b]?
 | [], _, _, _ => rfl
 | v :: r, o, w, h => by
  rw [World.setCells, heap_setCells_other r (o + 1) _ h]
  exact Below.heap_setCell _ _ _ _ h
end Go.Proofs.YtcgffkkfeimifaaGreatDoor
namespace Go.Proofs.YtcgffkkfeimifaaGreatDoor
open Go.RowKit Sha Ots
set_option linter.unusedVariables false
set_option linter.unusedSimpArgs false
theorem LA.less {w z : World} {X n k : Nat} {G : Nat → List UInt8} (h : LA w X n G (k + 1) z) : LA w X n G k z := ⟨h.bl, h.th, fun i hi => h.rg i (by omega)⟩
theorem Shorts.atS {A : Option Addr} {ls : List (List UInt8)} {w : World} (h : Shorts A ls w) (i : Nat) (hi : i < ls.length) : ∃ g o, A = some ⟨g, o, none⟩ ∧ w.rangeAt g (o + i * 16) (bvals (ls.getD i [])) := by
 obtain ⟨g, o, e, hr⟩ := h.row i _ (List.getElem?_eq_getElem hi)
 refine ⟨g, o, e, ?_⟩
 rw [Nat.mul_comm] at hr
 rw [List.getD_eq_getElem?_getD, List.getElem?_eq_getElem hi]
 exact hr
theorem getD_len16 {ls : List (List UInt8)} (h : ∀ l ∈ ls, l.length = 16) (i : Nat) (hi : i < ls.length) : (ls.getD i []).length = 16 := by
 rw [List.getD_eq_getElem?_getD, List.getElem?_eq_getElem hi]
 exact h _ (List.getElem_mem hi)
end Go.Proofs.YtcgffkkfeimifaaGreatDoor
