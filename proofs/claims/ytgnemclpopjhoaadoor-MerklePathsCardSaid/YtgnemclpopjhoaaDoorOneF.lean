/-
  THE WALKS over Sign and Recover.
-/
import Derived.Test.YtgnemclpopjhoaaDoorOneE
namespace Go.Proofs.YtgnemclpopjhoaaDoor
open Go.RowKit Sha Ots
set_option linter.unusedVariables false
set_option linter.unusedSimpArgs false
theorem Ints.at {X : Nat} {D : List Nat} {w : World} (h : Ints (some ⟨X, 0, none⟩) D w) (i : Nat) (hi : i < D.length) : w.cell? ⟨X, i, none⟩ = some (.int .i64 ((D.getD i 0 : Nat) : Int)) := by
  obtain ⟨g, o, e, hc⟩ := h i _ (List.getElem?_eq_getElem hi)
  injection e with e1
  injection e1 with e2 e3
  subst e2
  subst e3
  rw [Nat.zero_add] at hc
  rw [hc, List.getD_eq_getElem?_getD, List.getElem?_eq_getElem hi]
  rfl
set_option maxRecDepth 100000 in
set_option maxHeartbeats 1000000 in
theorem sign_any (seed : List UInt8) (hs : seed.length = 16) (l : List UInt8) (A : Option Addr) (c : Nat) (hl : l.length ≤ 100000) (hc : l.length ≤ c) (hcm : c ≤ maxLen) (w : World) (hsrc : SrcAt A l w) (env : DEnv w) :
    Calls Tryd.prog 33 #[.agg (bcells seed), .slice A l.length c] w fun e w' => ∃ X, e = .returned (.slice (some ⟨X, 0, none⟩) 35 35) ∧ w.heap.size ≤ X ∧ Shorts (some ⟨X, 0, none⟩) (sgn seed l) w' ∧ Below w.heap.size w w' := by
  have hdi := fun (V : World) (hb : Below w.heap.size w V) => digits_any l A c hl hc hcm V (hsrc.on hb) (env.on hb)
  have hlen := dig_len l
  have hle : ∀ i, (dig l).getD i 0 ≤ 15 := getD_le15 _ (dig_le l)
  have hsg : sgn seed l = (List.range 35).map fun i => chn seed i ((dig l).getD i 0) := rfl
  rw [hsg]
  obtain ⟨DG, hDG⟩ : ∃ DG, dig l = DG := ⟨_, rfl⟩
  rw [hDG] at hdi hlen hle ⊢
  obtain ⟨G, hG⟩ : ∃ G : Nat → List UInt8, ∀ i, chn seed i (DG.getD i 0) = G i := ⟨_, fun _ => rfl⟩
  have hG16 : ∀ i, (G i).length = 16 := fun i => by rw [← hG i]; exact chn_len _ _ _
  simp only [hG]
  have hcl := fun (S D X : Nat) (fr : Nat × Nat) (i : Nat) (hi : i < 35) (V : World) (hb : Below w.heap.size w V) (hS : V.heap[S]? = some (.cells (bcells seed) 23 fr)) (hD : V.cell? ⟨D, 0, none⟩ = some (.slice (some ⟨X, 0, none⟩) 35 35)) (hX : V.cell? ⟨X, i, none⟩ = some (.int .i64 ((DG.getD i 0 : Nat) : Int))) =>
    signcl_any seed hs S D X fr i (DG.getD i 0) hi (hle i) V hS hD hX (env.on hb)
  simp only [hG] at hcl
  obtain ⟨Z, hZ⟩ : ∃ Z, (List.range 35).map (fun i => G i) = Z := ⟨_, rfl⟩
  rw [hZ]
  have DI := Lib.hid hdi
  have CL := Lib.hid hcl
  have HG := Lib.hid hG16
  have HZ := Lib.hid hZ
  have HLEN := Lib.hid hlen
  obtain ⟨n, hn⟩ : ∃ n, l.length = n := ⟨_, rfl⟩
  rw [hn] at DI ⊢
  clear hdi hlen hle hsg hG hcl hZ hn hDG hG16 hsrc env hs
  go_enter Tryd.func33, Tryd.ntmps33
  go_wp2_with fail
  refine (DI.out _ (below_new _ _)).mono ?_
  rintro e w1 ⟨X, rfl, hX, hin, hb1⟩
  have HX := Lib.hid (Nat.le_trans (by simp) hX : w.heap.size ≤ X)
  have HIN := Lib.hid hin
  have HS1 := Lib.hid ((hb1.block w.heap.size (by simp)).trans (heap_alloc_new _ _))
  have HB1 := Lib.hid ((below_new w _).trans (hb1.mono (by simp)))
  clear hX hin hb1
  go_wp2_with fail
  obtain ⟨V, hV⟩ : ∃ V, w1.alloc (.cells #[.slice (some ⟨X, 0, none⟩) 35 35] 74) = V := ⟨_, rfl⟩
  rw [hV]
  have hb1 : Below w1.heap.size w1 V := by rw [← hV]; exact below_new _ _
  have hbV : Below w.heap.size w V := chain HB1.out hb1
  have hVS : V.heap[w.heap.size]? = some (.cells (bcells seed) 23 (0, 0)) := (hb1.block _ (Array.getElem?_eq_some_iff.1 HS1.out).1).trans HS1.out
  have hVD : V.cell? ⟨w1.heap.size, 0, none⟩ = some (.slice (some ⟨X, 0, none⟩) 35 35) := by
    rw [← hV, cell_of_row _ _ _ _ _ _ (heap_alloc_new _ _)]
    rfl
  have hVX : ∀ i, i < 35 → V.cell? ⟨X, i, none⟩ = some (.int .i64 ((DG.getD i 0 : Nat) : Int)) := fun i hi => (HIN.out.on hb1).at i (by rw [HLEN.out]; exact hi)
  have hca := climbAll_any 52 #[.pointer (some ⟨w.heap.size, 0, none⟩), .pointer (some ⟨w1.heap.size, 0, none⟩)] G HG.out V (enters_of Tryd.func52 (by kernel_rfl) rfl) Z HZ.out
    (fun i hi U hU => CL.out w.heap.size w1.heap.size X (0, 0) i hi U (chain hbV hU) ((hU.block _ (Array.getElem?_eq_some_iff.1 hVS).1).trans hVS) (by rw [hU.cell (World.block_lt_of_cell? _ _ hVD)]; exact hVD) (by rw [hU.cell (World.block_lt_of_cell? _ _ (hVX i hi))]; exact hVX i hi))
  have HCA := Lib.hid hca
  have HBV := Lib.hid hbV
  clear hV hb1 hbV hVS hVD hVX hca
  refine HCA.out.mono ?_
  rintro e w2 ⟨rfl, hsh, hb2⟩
  have HSH := Lib.hid hsh
  have HB2 := Lib.hid (chain HBV.out hb2)
  clear hsh hb2
  go_wp2_with fail
  go_ret
  exact ⟨V.heap.size, rfl, HBV.out.size, HSH.out, HB2.out⟩
set_option maxRecDepth 100000 in
set_option maxHeartbeats 1000000 in
theorem recovcl_any (x : List UInt8) (hx : x.length = 16) (C D X g o cc : Nat) (i d : Nat) (hi : i < 35) (hd : d ≤ 15) (w : World) (hC : w.cell? ⟨C, 0, none⟩ = some (.slice (some ⟨g, o, none⟩) 35 cc)) (hr : w.rangeAt g (o + i * 16) (bvals x)) (hD : w.cell? ⟨D, 0, none⟩ = some (.slice (some ⟨X, 0, none⟩) 35 35)) (hX : w.cell? ⟨X, i, none⟩ = some (.int .i64 (d : Int))) (env : DEnv w) :
    Calls Tryd.prog 48 #[.int .i64 (i : Int), .pointer (some ⟨C, 0, none⟩), .pointer (some ⟨D, 0, none⟩)] w fun e w' => e = .returned (.agg (bcells (clm x i d (15 - d)))) ∧ Below w.heap.size w w' := by
  have hcl := fun (V : World) (hb : Below w.heap.size w V) => climb_from x hx i d 15 (by omega) (by omega) w V env hb
  have hlR : (clm x i d (15 - d)).length = 16 := clm_len _ _ _ hx _
  obtain ⟨R, hR⟩ : ∃ R, clm x i d (15 - d) = R := ⟨_, rfl⟩
  rw [hR] at hcl hlR ⊢
  have CL := Lib.hid hcl
  have HSZ := Lib.hid (sz16 R hlR)
  have hso : (16 : Nat) = (bcells R).size := by rw [bcells_size, hlR]
  have HSO := Lib.hid hso
  have hltS : g < w.heap.size := rangeAt_lt hr (by intro e; have := congrArg List.length e; rw [bvals_len, hx] at this; cases this)
  have hltC : C < w.heap.size := World.block_lt_of_cell? _ _ hC
  have hltD : D < w.heap.size := World.block_lt_of_cell? _ _ hD
  have hltX : X < w.heap.size := World.block_lt_of_cell? _ _ hX
  have hi35 : (i : Int) < 35 := by omega
  have HX16 := Lib.hid hx
  have HR00 := Lib.hid hr
  clear hcl hR hlR hso hx env hr
  go_enter Tryd.func48, Tryd.ntmps48
  go_upto_region 1 with (fail)
  generalize hV : World.alloc w _ = v
  have hb0 : Below w.heap.size w v := by rw [← hV]; exact below_new _ _
  have hr0 : v.heap[w.heap.size]? = some (.cells (bcells (List.replicate 16 0)) 23 (0, 0)) := by rw [← hV]; exact (heap_alloc_new _ _).trans rfl
  have hsz0 : v.heap.size = w.heap.size + 1 := by rw [← hV]; simp
  have hs0 : v.rangeAt g (o + i * 16) (bvals x) := rangeAt_on HR00.out hb0
  have ac : v.cell? ⟨C, 0, none⟩ = some (.slice (some ⟨g, o, none⟩) 35 cc) := by rw [hb0.cell (p := ⟨C, 0, none⟩) hltC]; exact hC
  have a0 : v.cell? ⟨D, 0, none⟩ = some (.slice (some ⟨X, 0, none⟩) 35 35) := by rw [hb0.cell (p := ⟨D, 0, none⟩) hltD]; exact hD
  have a1 : v.cell? ⟨X, i, none⟩ = some (.int .i64 (d : Int)) := by rw [hb0.cell (p := ⟨X, i, none⟩) hltX]; exact hX
  have hRR := bcells_size R
  obtain ⟨RR, hR2⟩ : ∃ RR, bcells R = RR := ⟨_, rfl⟩
  have hone : RR.all (·.oneCell') = true := by rw [← hR2]; exact bcells_one _
  have hone2 : ∀ u ∈ RR.toList, u.oneCell' = true := fun u hu => (Array.all_eq_true_iff_forall_mem.1 hone) u (by simpa using hu)
  have HSZ2 := HSZ.out
  have hso2 := HSO.out
  rw [hR2] at CL HSZ2 hso2
  have ht0 : v.there w.heap.size 0 RR.size := there_row hr0 _ (by rw [bcells_size, ← hso2]; exact Nat.le_refl _)
  have hrow0 : RowOf w.heap.size RR.size v := ⟨_, hr0, by rw [bcells_size, ← hso2]; rfl⟩
  have hS0 : Below w.heap.size w v.drew ∧ v.drew.rangeAt g (o + i * 16) (bvals x) ∧ v.drew.cell? ⟨C, 0, none⟩ = some (.slice (some ⟨g, o, none⟩) 35 cc) ∧ v.drew.cell? ⟨D, 0, none⟩ = some (.slice (some ⟨X, 0, none⟩) 35 35) ∧ v.drew.cell? ⟨X, i, none⟩ = some (.int .i64 (d : Int)) ∧ v.drew.there w.heap.size 0 RR.size ∧ RowOf w.heap.size RR.size v.drew := ⟨hb0.drew, hs0, ac, a0, a1, ht0, hrow0⟩
  have hu25 := Tryd.underlying23
  have hi25 : (Tryd.prog.info? 23).map (·.size) = some (bvals x).length := by rw [bvals_len, HX16.out]; kernel_rfl
  have HS00 := Lib.hid hS0
  have HR2 := Lib.hid hR2
  have HR0 := Lib.hid hr0
  have HLT := Lib.hid (And.intro hltS (And.intro hltC (And.intro hltD hltX)))
  have HSO2 := Lib.hid hso2
  clear hso2 hV hb0 hr0 hltD hltX hltS hltC hD hX hC hs0 a0 a1 ac ht0 hS0 hrow0 hR2 hRR HSZ
  go_region_held3 (fun z => Below w.heap.size w z ∧ z.rangeAt g (o + i * 16) (bvals x) ∧ z.cell? ⟨C, 0, none⟩ = some (.slice (some ⟨g, o, none⟩) 35 cc) ∧ z.cell? ⟨D, 0, none⟩ = some (.slice (some ⟨X, 0, none⟩) 35 35) ∧ z.cell? ⟨X, i, none⟩ = some (.int .i64 (d : Int)) ∧ z.there w.heap.size 0 RR.size ∧ RowOf w.heap.size RR.size z)
    (first | assumption | exact HS00.out | exact keepS HS00.out hb7 | exact keepS (by assumption) hb7 | exact keepW _ HLT.out.1 HLT.out.2.1 HLT.out.2.2.1 HLT.out.2.2.2 (by assumption))
    (first | (go_at_call 49; refine (CL.out _ (by first | assumption | exact And.left (by assumption))).mono ?_; rintro e w7 ⟨rfl, hb7⟩))
  rename_i hhd
  have r7 := (hb7.block w.heap.size (by show w.heap.size < v.heap.size; omega)).trans HR0.out
  have r8 := row_setCells (cs := RR) r7 (by rw [bcells_size, ← HSO2.out]; rfl)
  have HB8 := Lib.hid hhd.1
  have HR8 := Lib.hid r8
  clear r7 r8 hhd hb7
  generalize World.setCells _ _ _ _ = z at HB8 HR8 ⊢
  go_wp2_with fail
  rw [HR2.out]
  refine bodyPost_ret (v := .agg RR) (results_cell_row rfl _ _ w.heap.size 23 _ (0, 0) _ rfl HR8.out Tryd.underlying23 rfl HSZ2) rfl ⟨rfl, HB8.out⟩
end Go.Proofs.YtgnemclpopjhoaaDoor
