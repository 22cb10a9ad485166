/-
  THE WALK over Recover.
-/
import Derived.Test.YtgnemclpopjhoaaDoorOneF
namespace Go.Proofs.YtgnemclpopjhoaaDoor
open Go.RowKit Sha Ots
set_option linter.unusedVariables false
set_option linter.unusedSimpArgs false
theorem results_two {fn : Func} {p q : Tmp} {ty : TypeId} (h : fn.results = #[.cell p ty, .tmp q]) (tmps : Array Value) (w : World) (g : Nat) (t : TypeId) (cs : Array Value) (fr : Nat × Nat) (n : Nat) (el : TypeId) (u : Value)
    (hp : tmps.getD p undef = .pointer (some ⟨g, 0, none⟩)) (hq : tmps.getD q undef = u) (hg : w.heap[g]? = some (.cells cs t fr))
    (hu : Tryd.prog.underlying ty = some (.array n el)) (hi : (Tryd.prog.info? ty).map (·.size) = some cs.size) :
    (results fn tmps).run Tryd.prog w = .ok (.tuple #[.agg cs, u]) w := by
  have hp' : tmps[p]?.getD undef = .pointer (some ⟨g, 0, none⟩) := by simpa using hp
  have hq' : tmps[q]?.getD undef = u := by simpa using hq
  simp [results, h, hp', hq', asAddr, run_loadVar_row w g t ty cs fr _ hg hu rfl hi]
theorem key_len (m : List UInt8) (l : List (List UInt8)) : (key m l).length = 16 := sh_len _
set_option maxRecDepth 100000 in
set_option maxHeartbeats 1000000 in
theorem recover_bad (V1 : Value) (ls : List (List UInt8)) (CA : Option Addr) (cc : Nat) (h35 : ls.length ≠ 35) (w : World) :
    Calls Tryd.prog 27 #[V1, .slice CA ls.length cc] w fun e w' => e = .returned (.tuple #[.agg (bcells (List.replicate 16 0)), .int .i64 12]) ∧ Below w.heap.size w w' := by
  have hne : (((ls.length : Nat) : Int) != 35) = true := by
    simp
    omega
  obtain ⟨n, hn⟩ : ∃ n, ls.length = n := ⟨_, rfl⟩
  rw [hn] at hne ⊢
  have hz16 : (List.replicate 16 (0 : UInt8)).length = 16 := rfl
  obtain ⟨R, hR⟩ : ∃ R, List.replicate 16 (0 : UInt8) = R := ⟨_, rfl⟩
  rw [hR] at hz16 ⊢
  have HSZ := Lib.hid (sz16 R hz16)
  have hso : (16 : Nat) = (bcells R).size := by rw [bcells_size, hz16]
  have HSO := Lib.hid hso
  have HR := Lib.hid hR
  clear h35 hn hz16 hR hso
  go_enter Tryd.func27, Tryd.ntmps27
  go_wp2_with (refine wpList_store_row rfl 23 (.tmp 4) (.tmp 11) rfl (w.heap.size + 1) (bcells R) rfl (by rw [← HR.out]; rfl) 23 _ (heap_alloc2_new _ _ _) HSZ.out HSO.out (bcells_one _) ?_)
  refine bodyPost_ret (v := .tuple #[.agg (bcells R), .int .i64 12]) (results_two rfl _ _ (w.heap.size + 1) 23 _ (0, 0) _ _ _ rfl rfl (setRow_heap _ _ _ _ _ _ (heap_alloc2_new _ _ _)) Tryd.underlying23 HSZ.out) rfl ⟨rfl, ?_⟩
  exact below_row ((below_new _ _).alloc (by simp) _) (by omega) _
set_option maxRecDepth 100000 in
set_option maxHeartbeats 1000000 in
theorem recover_any (l : List UInt8) (A : Option Addr) (c : Nat) (hl : l.length ≤ 100000) (hc : l.length ≤ c) (hcm : c ≤ maxLen) (ls : List (List UInt8)) (CA : Option Addr) (cc : Nat) (h35 : ls.length = 35) (w : World) (hsrc : SrcAt A l w) (hsh : Shorts CA ls w) (env : DEnv w) :
    Calls Tryd.prog 27 #[.slice A l.length c, .slice CA ls.length cc] w fun e w' => e = .returned (.tuple #[.agg (bcells (key l ls)), .int .i64 0]) ∧ Below w.heap.size w w' := by
  have hdi := fun (V : World) (hb : Below w.heap.size w V) => digits_any l A c hl hc hcm V (hsrc.on hb) (env.on hb)
  have hlen := dig_len l
  have hle : ∀ i, (dig l).getD i 0 ≤ 15 := getD_le15 _ (dig_le l)
  have hkey : key l ls = sh (enD (dig l) ls).flatten := rfl
  have hK16 := key_len l ls
  obtain ⟨DG, hDG⟩ : ∃ DG, dig l = DG := ⟨_, rfl⟩
  rw [hDG] at hdi hlen hle hkey
  have hat : ∀ i, i < 35 → ∃ x, ls[i]? = some x ∧ ls.getD i [] = x ∧ x.length = 16 := fun i hi => by
    have h := List.getElem?_eq_getElem (show i < ls.length by omega)
    refine ⟨_, h, by rw [List.getD_eq_getElem?_getD, h]; rfl, hsh.len _ (List.mem_of_getElem? h)⟩
  obtain ⟨G, hG⟩ : ∃ G : Nat → List UInt8, ∀ i, G i = if i < 35 then clm (ls.getD i []) i (DG.getD i 0) (15 - DG.getD i 0) else List.replicate 16 0 := ⟨_, fun _ => rfl⟩
  have hG16 : ∀ i, (G i).length = 16 := fun i => by
    rw [hG i]
    by_cases hi : i < 35
    · rw [if_pos hi]
      obtain ⟨x, _, e, h16⟩ := hat i hi
      rw [e]
      exact clm_len _ _ _ h16 _
    · rw [if_neg hi]
      rfl
  have hend : enD DG ls = (List.range 35).map G := by
    unfold enD
    refine List.map_congr_left fun i hi => ?_
    rw [hG i, if_pos (List.mem_range.1 hi)]
  obtain ⟨g, o, hCA, hrg0⟩ := hsh.row 0 _ (List.getElem?_eq_getElem (show 0 < ls.length by omega))
  subst hCA
  clear hrg0
  have hcl := fun (C D X : Nat) (i : Nat) (hi : i < 35) (V : World) (hb : Below w.heap.size w V) (hC : V.cell? ⟨C, 0, none⟩ = some (.slice (some ⟨g, o, none⟩) 35 cc)) (hD : V.cell? ⟨D, 0, none⟩ = some (.slice (some ⟨X, 0, none⟩) 35 35)) (hX : V.cell? ⟨X, i, none⟩ = some (.int .i64 ((DG.getD i 0 : Nat) : Int))) => (by
    obtain ⟨x, hx, e, h16⟩ := hat i hi
    obtain ⟨g2, o2, e2, hrg⟩ := hsh.row i x hx
    injection e2 with e3
    injection e3 with e4 e5
    subst e4
    subst e5
    rw [Nat.mul_comm] at hrg
    have h := recovcl_any x h16 C D X g o cc i (DG.getD i 0) hi (hle i) V hC (rangeAt_on hrg hb) hD hX (env.on hb)
    rw [← e] at h
    rw [hG i, if_pos hi]
    exact h : Calls Tryd.prog 48 #[.int .i64 (i : Int), .pointer (some ⟨C, 0, none⟩), .pointer (some ⟨D, 0, none⟩)] V fun e w' => e = .returned (.agg (bcells (G i))) ∧ Below V.heap.size V w')
  obtain ⟨Z, hZ⟩ : ∃ Z, (List.range 35).map G = Z := ⟨_, rfl⟩
  have hZl : Z.length = 35 := by rw [← hZ, List.length_map, List.length_range]
  have hke := fun (V : World) (hb : Below w.heap.size w V) (A : Option Addr) (hsA : Shorts A Z V) => key_any Z A 35 (by omega) V hsA (env.on hb)
  rw [hend, hZ] at hkey
  rw [hkey] at hK16 ⊢
  obtain ⟨R, hR⟩ : ∃ R, sh Z.flatten = R := ⟨_, rfl⟩
  rw [hR, hZl] at hke
  rw [hR] at hK16 ⊢
  have DI := Lib.hid hdi
  have CL := Lib.hid hcl
  have KE := Lib.hid hke
  have HG := Lib.hid hG16
  have HZ := Lib.hid hZ
  have HLEN := Lib.hid hlen
  have HSZ := Lib.hid (sz16 R hK16)
  have hso : (16 : Nat) = (bcells R).size := by rw [bcells_size, hK16]
  have HSO := Lib.hid hso
  rw [h35]
  obtain ⟨n, hn⟩ : ∃ n, l.length = n := ⟨_, rfl⟩
  rw [hn] at DI ⊢
  clear hdi hlen hle hkey hK16 hDG hat hG hG16 hend hcl hZ hZl hke hR hso hn hsrc hsh env h35
  go_enter Tryd.func27, Tryd.ntmps27
  go_upto_region 1 with (fail)
  generalize hV : World.alloc (World.alloc w _) _ = V
  have hb0 : Below w.heap.size w V := by rw [← hV]; exact (below_new _ _).alloc (by simp) _
  have hr0 : V.cell? ⟨w.heap.size, 0, none⟩ = some (.slice (some ⟨g, o, none⟩) 35 cc) := by
    rw [← hV, cell_of_row _ _ _ _ _ _ (heap_alloc2_old _ _ _)]
    rfl
  have hr1 : V.heap[w.heap.size + 1]? = some (.cells (bcells (List.replicate 16 0)) 23 (0, 0)) := by rw [← hV]; exact (heap_alloc2_new _ _ _).trans rfl
  have HB0 := Lib.hid hb0
  have HR1 := Lib.hid hr1
  have HR0 := Lib.hid hr0
  clear hV hb0 hr1
  go_wp2_with fail
  refine (DI.out _ HB0.out).mono ?_
  rintro e w1 ⟨X, rfl, hX, hin, hb1⟩
  have HIN := Lib.hid hin
  have hlt1 := (Array.getElem?_eq_some_iff.1 HR1.out).1
  have HR2 := Lib.hid ((hb1.block _ hlt1).trans HR1.out)
  have HC2 : RowKit.Hid (w1.cell? ⟨w.heap.size, 0, none⟩ = some (.slice (some ⟨g, o, none⟩) 35 cc)) := Lib.hid (by rw [hb1.cell (World.block_lt_of_cell? _ _ HR0.out)]; exact HR0.out)
  have HB1 := Lib.hid (chain HB0.out (hb1.mono (Nat.le_refl _)))
  clear hX hin hb1 hlt1 hr0
  go_wp2_with fail
  obtain ⟨V3, hV⟩ : ∃ V3, w1.alloc (.cells #[.slice (some ⟨X, 0, none⟩) 35 35] 74) = V3 := ⟨_, rfl⟩
  rw [hV]
  have hb1 : Below w1.heap.size w1 V3 := by rw [← hV]; exact below_new _ _
  have hbV : Below w.heap.size w V3 := chain HB1.out hb1
  have hVR : V3.heap[w.heap.size + 1]? = some (.cells (bcells (List.replicate 16 0)) 23 (0, 0)) := (hb1.block _ (Array.getElem?_eq_some_iff.1 HR2.out).1).trans HR2.out
  have hVC : V3.cell? ⟨w.heap.size, 0, none⟩ = some (.slice (some ⟨g, o, none⟩) 35 cc) := by rw [hb1.cell (World.block_lt_of_cell? _ _ HC2.out)]; exact HC2.out
  have hVD : V3.cell? ⟨w1.heap.size, 0, none⟩ = some (.slice (some ⟨X, 0, none⟩) 35 35) := by
    rw [← hV, cell_of_row _ _ _ _ _ _ (heap_alloc_new _ _)]
    rfl
  have hVX : ∀ i, i < 35 → V3.cell? ⟨X, i, none⟩ = some (.int .i64 ((DG.getD i 0 : Nat) : Int)) := fun i hi => (HIN.out.on hb1).at i (by rw [HLEN.out]; exact hi)
  have hca := climbAll_any 48 #[.pointer (some ⟨w.heap.size, 0, none⟩), .pointer (some ⟨w1.heap.size, 0, none⟩)] G HG.out V3 (enters_of Tryd.func48 (by kernel_rfl) rfl) Z HZ.out
    (fun i hi U hU => CL.out w.heap.size w1.heap.size X i hi U (chain hbV hU) (by rw [hU.cell (World.block_lt_of_cell? _ _ hVC)]; exact hVC) (by rw [hU.cell (World.block_lt_of_cell? _ _ hVD)]; exact hVD) (by rw [hU.cell (World.block_lt_of_cell? _ _ (hVX i hi))]; exact hVX i hi))
  have HCA := Lib.hid hca
  have HBV := Lib.hid hbV
  have HVR := Lib.hid hVR
  clear hV hb1 hbV hVR hVC hVD hVX hca
  refine HCA.out.mono ?_
  rintro e w2 ⟨rfl, hsh, hb2⟩
  have HSH := Lib.hid hsh
  have HR3 := Lib.hid ((hb2.block _ (Array.getElem?_eq_some_iff.1 HVR.out).1).trans HVR.out)
  have HB2 := Lib.hid (chain HBV.out hb2)
  clear hsh hb2
  go_wp2_with fail
  refine (KE.out _ HB2.out _ HSH.out).mono ?_
  rintro e w3 ⟨rfl, hb3⟩
  have HR4 := Lib.hid ((hb3.block _ (Array.getElem?_eq_some_iff.1 HR3.out).1).trans HR3.out)
  have HB3 := Lib.hid (chain HB2.out hb3)
  clear hb3
  go_wp2_with (refine wpList_store_row rfl 23 (.tmp 4) (.tmp 17) rfl (w.heap.size + 1) (bcells R) rfl rfl 23 _ HR4.out HSZ.out HSO.out (bcells_one _) ?_)
  refine bodyPost_ret (v := .tuple #[.agg (bcells R), .int .i64 0]) (results_two rfl _ _ (w.heap.size + 1) 23 _ (0, 0) _ _ _ rfl rfl (setRow_heap _ _ _ _ _ _ HR4.out) Tryd.underlying23 HSZ.out) rfl ⟨rfl, ?_⟩
  exact below_row HB3.out (by omega) _
end Go.Proofs.YtgnemclpopjhoaaDoor
