/-
  THE WALKS over the program's closures, and over Public, Sign and Recover.
-/
import Derived.Test.YtgnemclpopjhoaaDoorOneD
namespace Go.Proofs.YtgnemclpopjhoaaDoor
open Go.RowKit Sha Ots
set_option linter.unusedVariables false
set_option linter.unusedSimpArgs false
theorem keepB {v z w : World} (h : Below v.heap.size v z ∧ ∀ b o, b < v.heap.size → z.cell? ⟨b, o, none⟩ = v.cell? ⟨b, o, none⟩) (hb : Below z.heap.size z w) : Below v.heap.size v w ∧ ∀ b o, b < v.heap.size → w.cell? ⟨b, o, none⟩ = v.cell? ⟨b, o, none⟩ :=
  ⟨chain h.1 hb, fun b o hh => (chain h.1 hb).cell (p := ⟨b, o, none⟩) hh⟩
theorem keepI (v : World) : Below v.heap.size v v.drew ∧ ∀ b o, b < v.heap.size → v.drew.cell? ⟨b, o, none⟩ = v.cell? ⟨b, o, none⟩ := ⟨(Below.refl _ _).drew, fun _ _ _ => rfl⟩
/-- a digest, a list's head and two cells that are read, and a block that is written -/
def RowOf (B n : Nat) (z : World) : Prop := ∃ cur : Array Value, z.heap[B]? = some (.cells cur 23 (0, 0)) ∧ cur.size = n
theorem keepS {v z w : World} {S o n : Nat} {A : List Value} {a b c : Addr} {x y u : Value} (h : Below v.heap.size v z ∧ z.rangeAt S o A ∧ z.cell? a = some x ∧ z.cell? b = some y ∧ z.cell? c = some u ∧ z.there v.heap.size 0 n ∧ RowOf v.heap.size n z) (hb : Below z.heap.size z w) :
    Below v.heap.size v w ∧ w.rangeAt S o A ∧ w.cell? a = some x ∧ w.cell? b = some y ∧ w.cell? c = some u ∧ w.there v.heap.size 0 n ∧ RowOf v.heap.size n w := by
  obtain ⟨h1, h2, h3, h4, h5, h6, cur, h7, h8⟩ := h
  have hlt : v.heap.size < z.heap.size := (Array.getElem?_eq_some_iff.1 h7).1
  refine ⟨chain h1 hb, rangeAt_on h2 hb, ?_, ?_, ?_, there_below h6 hb hlt, cur, (hb.block _ hlt).trans h7, h8⟩
  · rw [hb.cell (World.block_lt_of_cell? _ _ h3)]; exact h3
  · rw [hb.cell (World.block_lt_of_cell? _ _ h4)]; exact h4
  · rw [hb.cell (World.block_lt_of_cell? _ _ h5)]; exact h5
theorem heap_setCells {g : Nat} {T : TypeId} : ∀ (vs : List Value) (o : Nat) (w : World) (cur : Array Value), w.heap[g]? = some (.cells cur T (0, 0)) → ∃ cur', (w.setCells g o vs).heap[g]? = some (.cells cur' T (0, 0)) ∧ cur'.size = cur.size
  | [], _, _, cur, h => ⟨cur, h, rfl⟩
  | v :: r, o, w, cur, h => by
    rw [World.setCells]
    obtain ⟨c2, h2, h3⟩ := heap_setCells r (o + 1) _ _ (heap_setCell_same w g o cur T v h)
    exact ⟨c2, h2, by rw [h3]; simp⟩
theorem there_row {w : World} {g : Nat} {cur : Array Value} {T : TypeId} (h : w.heap[g]? = some (.cells cur T (0, 0))) (n : Nat) (hn : n ≤ cur.size) : w.there g 0 n := fun j hj => by
  rw [Nat.zero_add]
  refine ⟨?_, frozen_of_row _ _ _ _ _ h⟩
  rw [cell_of_row _ _ _ _ _ _ h, Array.getElem?_eq_getElem (by omega)]
  rfl
/-- a whole block, stored cell by cell -/
theorem row_setCells {w : World} {g : Nat} {cur cs : Array Value} {T : TypeId} (h : w.heap[g]? = some (.cells cur T (0, 0))) (hn : cur.size = cs.size) : (w.setCells g 0 cs.toList).heap[g]? = some (.cells cs T (0, 0)) := by
  obtain ⟨c2, h2, h3⟩ := heap_setCells cs.toList 0 w cur h
  have hr := World.rangeAt_setCells_same w g 0 cs.toList (there_row h _ (by rw [Array.length_toList, hn]; exact Nat.le_refl _))
  have he : c2 = cs := by
    apply Array.ext
    · rw [h3, hn]
    · intro j h4 h5
      have h6 := hr j cs[j] (by simp [h5])
      rw [Nat.zero_add, cell_of_row _ _ _ _ _ _ h2, Array.getElem?_eq_getElem h4] at h6
      exact Option.some.inj h6
  rw [h2, he]
theorem keepW {v z : World} {S o n : Nat} {A : List Value} {a b c : Addr} {x y u : Value} (cs : List Value) (hS : S < v.heap.size) (ha : a.block < v.heap.size) (hb : b.block < v.heap.size) (hc : c.block < v.heap.size)
    (h : Below v.heap.size v z ∧ z.rangeAt S o A ∧ z.cell? a = some x ∧ z.cell? b = some y ∧ z.cell? c = some u ∧ z.there v.heap.size 0 n ∧ RowOf v.heap.size n z) :
    Below v.heap.size v (z.setCells v.heap.size 0 cs) ∧ (z.setCells v.heap.size 0 cs).rangeAt S o A ∧ (z.setCells v.heap.size 0 cs).cell? a = some x ∧ (z.setCells v.heap.size 0 cs).cell? b = some y ∧ (z.setCells v.heap.size 0 cs).cell? c = some u ∧ (z.setCells v.heap.size 0 cs).there v.heap.size 0 n ∧ RowOf v.heap.size n (z.setCells v.heap.size 0 cs) := by
  obtain ⟨h1, h2, h3, h4, h5, h6, cur, h7, h8⟩ := h
  obtain ⟨c2, h9, h10⟩ := heap_setCells cs 0 z cur h7
  have far : ∀ d : Addr, d.block < v.heap.size → (z.setCells v.heap.size 0 cs).cell? d = z.cell? d := fun d hd => World.cell?_setCells_out v.heap.size cs 0 z d (fun e _ => absurd e (by omega))
  refine ⟨below_setCells _ _ _ h1 (Nat.le_refl _), World.rangeAt_setCells_apart h2 _ _ _ (.inl (by omega)), ?_, ?_, ?_, World.there_setCells h6 _ _ _, c2, h9, by rw [h10, h8]⟩
  · rw [far a ha]; exact h3
  · rw [far b hb]; exact h4
  · rw [far c hc]; exact h5
/-- the whole digest in a block of its own, read in any world further on -/
theorem load_held {v : World} {S : Nat} {l : List UInt8} {fr : Nat × Nat} (hl : l.length = 16) (hS : v.heap[S]? = some (.cells (bcells l) 23 fr)) (z : World) (h : Below v.heap.size v z ∧ ∀ b o, b < v.heap.size → z.cell? ⟨b, o, none⟩ = v.cell? ⟨b, o, none⟩) :
    (Instr.loadAt 23 (.pointer (some ⟨S, 0, none⟩))).run Tryd.prog z = .ok (.agg (bcells l)) z := by
  have hlt : S < v.heap.size := (Array.getElem?_eq_some_iff.1 hS).1
  refine run_loadAt_mid z S 0 23 (bvals l) _ (fun j u hj => ?_) Tryd.underlying23 rfl (by rw [bvals_len, hl]; kernel_rfl)
  rw [h.2 S (0 + j) hlt, Nat.zero_add, cell_of_row v S j _ _ _ hS]
  unfold bcells
  unfold bvals at hj
  simpa using hj
theorem climb_from (l : List UInt8) (hl : l.length = 16) (i a b : Nat) (hi : i < 256) (hb : b ≤ 256) (w V : World) (env : DEnv w) (hbV : Below w.heap.size w V) :
    Calls Tryd.prog 49 #[.agg (bcells l), .int .i64 (i : Int), .int .i64 (a : Int), .int .i64 (b : Int)] V fun e w' => e = .returned (.agg (bcells (clm l i a (b - a)))) ∧ Below V.heap.size V w' := climb_any l hl i a b hi hb V (env.on hbV)
set_option maxRecDepth 100000 in
set_option maxHeartbeats 1000000 in
theorem pubcl_any (seed : List UInt8) (hs : seed.length = 16) (S : Nat) (fr : Nat × Nat) (i : Nat) (hi : i < 35) (w : World) (hS : w.heap[S]? = some (.cells (bcells seed) 23 fr)) (env : DEnv w) :
    Calls Tryd.prog 54 #[.int .i64 (i : Int), .pointer (some ⟨S, 0, none⟩)] w fun e w' => e = .returned (.agg (bcells (chn seed i 15))) ∧ Below w.heap.size w w' := by
  have hbg := fun (V : World) (hb : Below w.heap.size w V) => begin_any seed hs i (by omega) V (env.on hb)
  have hl1 : (stp seed i 255).length = 16 := stp_len _ _ _
  have hcl := fun (V : World) (hb : Below w.heap.size w V) => climb_from (stp seed i 255) hl1 i 0 15 (by omega) (by decide) w V env hb
  have hlR : (clm (stp seed i 255) i 0 (15 - 0)).length = 16 := clm_len _ _ _ hl1 _
  have hR0 : chn seed i 15 = clm (stp seed i 255) i 0 (15 - 0) := rfl
  rw [hR0]
  obtain ⟨R, hR⟩ : ∃ R, clm (stp seed i 255) i 0 (15 - 0) = R := ⟨_, rfl⟩
  rw [hR] at hcl hlR ⊢
  obtain ⟨F, hF⟩ : ∃ F, stp seed i 255 = F := ⟨_, rfl⟩
  rw [hF] at hbg hcl hl1
  have BG := Lib.hid hbg
  have CL := Lib.hid hcl
  have HSZ0 := Lib.hid (sz16 seed hs)
  have HSZ := Lib.hid (sz16 R hlR)
  have hso : (16 : Nat) = (bcells R).size := by rw [bcells_size, hlR]
  have HSO := Lib.hid hso
  have hlt : S < w.heap.size := (Array.getElem?_eq_some_iff.1 hS).1
  have HS0 := Lib.hid hS
  clear hbg hcl hR0 hR hF hlR hso hs env hS hl1
  go_enter Tryd.func54, Tryd.ntmps54
  go_wp2_with (refine wpList_load_row rfl 23 (.tmp 1) rfl S rfl 23 (bcells seed) fr _ ((Below.heap_alloc _ _ _ hlt).trans HS0.out) Tryd.underlying23 rfl HSZ0.out ?_)
  refine (BG.out _ (below_new w _)).mono ?_
  rintro e w2 ⟨rfl, hb2⟩
  have HR2 := Lib.hid ((hb2.block w.heap.size (by simp)).trans (heap_alloc_new _ _))
  have HB2 := Lib.hid ((below_new w _).trans (hb2.mono (by simp)))
  have HL2 : RowKit.Hid (w.heap.size < w2.heap.size) := Lib.hid (by have := hb2.size; simp at this; omega)
  clear hb2
  go_wp2_with fail
  refine (CL.out _ HB2.out).mono ?_
  rintro e w3 ⟨rfl, hb3⟩
  have HR3 := Lib.hid ((hb3.block w.heap.size HL2.out).trans HR2.out)
  have HB3 := Lib.hid (HB2.out.trans (hb3.mono HB2.out.size))
  clear hb3
  go_wp2_with (refine wpList_store_row rfl 23 (.tmp 3) (.tmp 8) rfl w.heap.size (bcells R) rfl rfl 23 _ HR3.out HSZ.out HSO.out (bcells_one _) ?_)
  refine bodyPost_ret (v := .agg (bcells R)) (results_cell_row rfl _ _ w.heap.size 23 _ (0, 0) _ rfl (setRow_heap _ _ _ _ _ _ HR3.out) Tryd.underlying23 rfl HSZ.out) rfl ⟨rfl, ?_⟩
  exact below_row HB3.out (Nat.le_refl _) _
set_option maxRecDepth 100000 in
set_option maxHeartbeats 1000000 in
theorem public_any (seed : List UInt8) (hs : seed.length = 16) (w : World) (env : DEnv w) :
    Calls Tryd.prog 36 #[.agg (bcells seed)] w fun e w' => e = .returned (.agg (bcells (pub seed))) ∧ Below w.heap.size w w' := by
  have hca := fun (V : World) (hb : Below w.heap.size w V) (hS : V.heap[w.heap.size]? = some (.cells (bcells seed) 23 (0, 0))) (Z : List (List UInt8)) (hZ : (List.range 35).map (fun i => chn seed i 15) = Z) =>
    climbAll_any 54 #[.pointer (some ⟨w.heap.size, 0, none⟩)] (fun i => chn seed i 15) (fun i => chn_len _ _ _) V (enters_of Tryd.func54 (by kernel_rfl) rfl) Z hZ
      (fun i hi U hU => pubcl_any seed hs w.heap.size (0, 0) i hi U ((hU.block _ (Array.getElem?_eq_some_iff.1 hS).1).trans hS) ((env.on hb).on hU))
  obtain ⟨Z, hZ⟩ : ∃ Z, (List.range 35).map (fun i => chn seed i 15) = Z := ⟨_, rfl⟩
  have hp : pub seed = sh Z.flatten := by unfold pub; rw [hZ]
  have hZl : Z.length = 35 := by rw [← hZ, List.length_map, List.length_range]
  rw [hp]
  have hca2 := fun V hb hS => hca V hb hS Z hZ
  have hke := fun (V : World) (hb : Below w.heap.size w V) (A : Option Addr) (hsA : Shorts A Z V) => key_any Z A 35 (by omega) V hsA (env.on hb)
  obtain ⟨R, hR⟩ : ∃ R, sh Z.flatten = R := ⟨_, rfl⟩
  have hlR : R.length = 16 := by rw [← hR]; exact sh_len _
  rw [hR, hZl] at hke
  rw [hR]
  have CA := Lib.hid hca2
  have KE := Lib.hid hke
  have HSZ := Lib.hid (sz16 R hlR)
  have hso : (16 : Nat) = (bcells R).size := by rw [bcells_size, hlR]
  have HSO := Lib.hid hso
  clear hca hca2 hke hR hlR hso hp hZ hZl hs env
  go_enter Tryd.func36, Tryd.ntmps36
  go_upto_region 1 with (fail)
  generalize hV : World.alloc (World.alloc w _) _ = V
  have hb0 : Below w.heap.size w V := by rw [← hV]; exact (below_new _ _).alloc (by simp) _
  have hr0 : V.heap[w.heap.size]? = some (.cells (bcells seed) 23 (0, 0)) := by rw [← hV]; exact heap_alloc2_old _ _ _
  have hr1 : V.heap[w.heap.size + 1]? = some (.cells (bcells (List.replicate 16 0)) 23 (0, 0)) := by rw [← hV]; exact (heap_alloc2_new _ _ _).trans rfl
  have HB0 := Lib.hid hb0
  have HR0 := Lib.hid hr0
  have HR1 := Lib.hid hr1
  clear hV hb0 hr0 hr1
  go_wp2_with fail
  refine (CA.out _ HB0.out HR0.out).mono ?_
  rintro e w2 ⟨rfl, hsh, hb2⟩
  have hlt := (Array.getElem?_eq_some_iff.1 HR1.out).1
  have HSH := Lib.hid hsh
  have HR2 := Lib.hid ((hb2.block (w.heap.size + 1) hlt).trans HR1.out)
  have HB2 := Lib.hid (HB0.out.trans (hb2.mono (by omega)))
  have HL2 : RowKit.Hid (w.heap.size + 1 < w2.heap.size) := Lib.hid (by have := hb2.size; omega)
  clear hb2 hsh hlt
  go_wp2_with fail
  refine (KE.out _ HB2.out _ HSH.out).mono ?_
  rintro e w3 ⟨rfl, hb3⟩
  have HR3 := Lib.hid ((hb3.block (w.heap.size + 1) HL2.out).trans HR2.out)
  have HB3 := Lib.hid (HB2.out.trans (hb3.mono HB2.out.size))
  clear hb3
  go_wp2_with (refine wpList_store_row rfl 23 (.tmp 2) (.tmp 5) rfl (w.heap.size + 1) (bcells R) rfl rfl 23 _ HR3.out HSZ.out HSO.out (bcells_one _) ?_)
  refine bodyPost_ret (v := .agg (bcells R)) (results_cell_row rfl _ _ (w.heap.size + 1) 23 _ (0, 0) _ rfl (setRow_heap _ _ _ _ _ _ HR3.out) Tryd.underlying23 rfl HSZ.out) rfl ⟨rfl, ?_⟩
  exact below_row HB3.out (by omega) _
set_option maxRecDepth 100000 in
set_option maxHeartbeats 1000000 in
theorem signcl_any (seed : List UInt8) (hs : seed.length = 16) (S D X : Nat) (fr : Nat × Nat) (i d : Nat) (hi : i < 35) (hd : d ≤ 15) (w : World) (hS : w.heap[S]? = some (.cells (bcells seed) 23 fr)) (hD : w.cell? ⟨D, 0, none⟩ = some (.slice (some ⟨X, 0, none⟩) 35 35)) (hX : w.cell? ⟨X, i, none⟩ = some (.int .i64 (d : Int))) (env : DEnv w) :
    Calls Tryd.prog 52 #[.int .i64 (i : Int), .pointer (some ⟨S, 0, none⟩), .pointer (some ⟨D, 0, none⟩)] w fun e w' => e = .returned (.agg (bcells (chn seed i d))) ∧ Below w.heap.size w w' := by
  have hbg := fun (V : World) (hb : Below w.heap.size w V) => begin_any seed hs i (by omega) V (env.on hb)
  have hl1 : (stp seed i 255).length = 16 := stp_len _ _ _
  have hcl := fun (V : World) (hb : Below w.heap.size w V) => climb_from (stp seed i 255) hl1 i 0 d (by omega) (by omega) w V env hb
  have hlR : (clm (stp seed i 255) i 0 (d - 0)).length = 16 := clm_len _ _ _ hl1 _
  have hR0 : chn seed i d = clm (stp seed i 255) i 0 (d - 0) := rfl
  rw [hR0]
  obtain ⟨R, hR⟩ : ∃ R, clm (stp seed i 255) i 0 (d - 0) = R := ⟨_, rfl⟩
  rw [hR] at hcl hlR ⊢
  obtain ⟨F, hF⟩ : ∃ F, stp seed i 255 = F := ⟨_, rfl⟩
  rw [hF] at hbg hcl hl1
  have BG := Lib.hid hbg
  have CL := Lib.hid hcl
  have HSZ := Lib.hid (sz16 R hlR)
  have hso : (16 : Nat) = (bcells R).size := by rw [bcells_size, hlR]
  have HSO := Lib.hid hso
  have hltS : S < w.heap.size := (Array.getElem?_eq_some_iff.1 hS).1
  have hltD : D < w.heap.size := World.block_lt_of_cell? _ _ hD
  have hltX : X < w.heap.size := World.block_lt_of_cell? _ _ hX
  have hi35 : (i : Int) < 35 := by omega
  have HS0 := Lib.hid hS
  have HS16 := Lib.hid hs
  clear hbg hcl hR0 hR hF hlR hso hs env hS hl1
  go_enter Tryd.func52, Tryd.ntmps52
  go_upto_region 1 with (fail)
  generalize hV : World.alloc w _ = v
  have hb0 : Below w.heap.size w v := by rw [← hV]; exact below_new _ _
  have hr0 : v.heap[w.heap.size]? = some (.cells (bcells (List.replicate 16 0)) 23 (0, 0)) := by rw [← hV]; exact (heap_alloc_new _ _).trans rfl
  have hsz0 : v.heap.size = w.heap.size + 1 := by rw [← hV]; simp
  have hs0 : v.rangeAt S 0 (bvals seed) := fun j u hj => by
    rw [Nat.zero_add, cell_of_row v S j _ _ _ ((hb0.block _ hltS).trans HS0.out)]
    unfold bcells
    unfold bvals at hj
    simpa using hj
  have a0 : v.cell? ⟨D, 0, none⟩ = some (.slice (some ⟨X, 0, none⟩) 35 35) := by rw [hb0.cell (p := ⟨D, 0, none⟩) hltD]; exact hD
  have a1 : v.cell? ⟨X, i, none⟩ = some (.int .i64 (d : Int)) := by rw [hb0.cell (p := ⟨X, i, none⟩) hltX]; exact hX
  have hRR := bcells_size R
  obtain ⟨RR, hR2⟩ : ∃ RR, bcells R = RR := ⟨_, rfl⟩
  have hone : RR.all (·.oneCell') = true := by rw [← hR2]; exact bcells_one _
  have hone2 : ∀ u ∈ RR.toList, u.oneCell' = true := fun u hu => (Array.all_eq_true_iff_forall_mem.1 hone) u (by simpa using hu)
  have HSZ2 := HSZ.out
  have hso2 := HSO.out
  rw [hR2] at CL HSZ2 hso2
  have ht0 : v.there w.heap.size 0 RR.size := there_row hr0 _ (by rw [bcells_size, ← hso2]; exact Nat.le_refl _)
  have hrow0 : RowOf w.heap.size RR.size v := ⟨_, hr0, by rw [bcells_size, ← hso2]; rfl⟩
  have hS0 : Below w.heap.size w v.drew ∧ v.drew.rangeAt S 0 (bvals seed) ∧ v.drew.cell? ⟨D, 0, none⟩ = some (.slice (some ⟨X, 0, none⟩) 35 35) ∧ v.drew.cell? ⟨X, i, none⟩ = some (.int .i64 (d : Int)) ∧ v.drew.cell? ⟨X, i, none⟩ = some (.int .i64 (d : Int)) ∧ v.drew.there w.heap.size 0 RR.size ∧ RowOf w.heap.size RR.size v.drew := ⟨hb0.drew, hs0, a0, a1, a1, ht0, hrow0⟩
  have hu25 := Tryd.underlying23
  have hi25 : (Tryd.prog.info? 23).map (·.size) = some (bvals seed).length := by rw [bvals_len, HS16.out]; kernel_rfl
  have HS00 := Lib.hid hS0
  have HR2 := Lib.hid hR2
  have HR0 := Lib.hid hr0
  have HLT := Lib.hid (And.intro hltS (And.intro hltD hltX))
  clear hV hb0 hr0 hltD hltX hltS hD hX hs0 a0 a1 ht0 hS0 hrow0 hR2 hRR HSZ
  go_region_held3 (fun z => Below w.heap.size w z ∧ z.rangeAt S 0 (bvals seed) ∧ z.cell? ⟨D, 0, none⟩ = some (.slice (some ⟨X, 0, none⟩) 35 35) ∧ z.cell? ⟨X, i, none⟩ = some (.int .i64 (d : Int)) ∧ z.cell? ⟨X, i, none⟩ = some (.int .i64 (d : Int)) ∧ z.there w.heap.size 0 RR.size ∧ RowOf w.heap.size RR.size z)
    (first | assumption | exact HS00.out | exact keepS HS00.out hb7 | exact keepS (by assumption) hb7 | exact keepW _ HLT.out.1 HLT.out.2.1 HLT.out.2.2 HLT.out.2.2 (by assumption))
    (first | (go_at_call 53; refine (BG.out _ (by first | assumption | exact And.left (by assumption))).mono ?_; rintro e w7 ⟨rfl, hb7⟩) | (go_at_call 49; refine (CL.out _ (by first | assumption | exact And.left (by assumption))).mono ?_; rintro e w7 ⟨rfl, hb7⟩))
  rename_i w6 hb6 hhd
  have r6 := (hb6.block w.heap.size (by show w.heap.size < v.heap.size; omega)).trans HR0.out
  have r7 := (hb7.block w.heap.size (Array.getElem?_eq_some_iff.1 r6).1).trans r6
  have r8 := row_setCells (cs := RR) r7 (by rw [bcells_size, ← hso2]; rfl)
  have HB8 := Lib.hid hhd.1
  have HR8 := Lib.hid r8
  clear r6 r7 r8 hhd hb6 hb7
  generalize World.setCells _ _ _ _ = z at HB8 HR8 ⊢
  go_wp2_with fail
  rw [HR2.out]
  refine bodyPost_ret (v := .agg RR) (results_cell_row rfl _ _ w.heap.size 23 _ (0, 0) _ rfl HR8.out Tryd.underlying23 rfl HSZ2) rfl ⟨rfl, HB8.out⟩
end Go.Proofs.YtgnemclpopjhoaaDoor
