/- MerkleKeys, for every input: the program's Key and Sign return what the reference's return, and the message stays as it was. Condition: what the row lists of the program's tables (tied by the card). -/
import Derived.Test.YtafolokkjpbieaaDoorMkRfg
import Derived.Test.YtafolokkjpbieaaDoorMkReh
import Derived.Test.YtafolokkjpbieaaDoorLawKit
import Derived.Test.YtafolokkjpbieaaDoorCards
namespace Go.Proofs.YtafolokkjpbieaaDoor
open Go.ChangeShapes Go.WideShapes Go.ChangeAt Go.RowKit Sha Ots
open Go.WideMaps Go.WideElems
set_option linter.unusedVariables false
set_option linter.unusedSimpArgs false
theorem keys_some (seed : List UInt8) (hs : seed.length = 16) (h : Int) : ∃ (R : List UInt8) (k e7 : Int), R.length = 16 ∧ (∀ (w : World), DEnv w → Calls Tryd.prog 6 #[.agg (bcells seed), .int .i64 h] w fun e w' => e = .returned (.tuple #[.agg (pkc R k), .int .i64 e7]) ∧ Below w.heap.size w w') ∧
    ∀ (w : World), Calls Tryd.prog 15 #[.agg (bcells seed), .int .i64 h] w fun e w' => e = .returned (.tuple #[.agg (pkc R k), .int .i64 e7]) ∧ Below w.heap.size w w' := by
  by_cases hh : 0 ≤ h ∧ h ≤ 4
  · obtain ⟨k, rfl⟩ : ∃ k : Nat, h = (k : Int) := ⟨h.toNat, by omega⟩
    exact ⟨node seed k 0, (k : Int), 0, node_len _ _ _, fun w env => key7_any seed hs k (by omega) w env, fun w => key_ref_yes seed hs k (by omega) w⟩
  · exact ⟨List.replicate 16 0, 0, 2, rfl, fun w env => key_bad seed h hh w, fun w => key_ref_bad seed h hh w⟩
def SigPost (n er : Int) (SG PT : List (List UInt8)) (w : World) (e : Ending) (w' : World) : Prop := ∃ B cb PA pc, e = .returned (.tuple #[.agg #[.int .i64 n, .slice B SG.length cb, .slice PA PT.length pc], .int .i64 er]) ∧ Shorts B SG w' ∧ Shorts PA PT w' ∧ Below w.heap.size w w'
theorem shorts_nil (w : World) : Shorts none [] w := ⟨fun i l hi => by simp at hi, fun l hl => by simp at hl⟩
theorem sigs_some (seed : List UInt8) (hs : seed.length = 16) (h n : Int) (l : List UInt8) (hl : l.length ≤ 100000) : ∃ (n' er : Int) (SG PT : List (List UInt8)), SG.length ≤ 100000 ∧ PT.length ≤ 100000 ∧
    (∀ (A : Option Addr) (c : Nat) (w : World), l.length ≤ c → c ≤ maxLen → SrcAt A l w → DEnv w → Calls Tryd.prog 7 #[.agg (bcells seed), .int .i64 h, .int .i64 n, .slice A l.length c] w (SigPost n' er SG PT w)) ∧
    ∀ (A : Option Addr) (c : Nat) (w : World), l.length ≤ c → (A = none → c = 0) → SrcAt A l w → Calls Tryd.prog 16 #[.agg (bcells seed), .int .i64 h, .int .i64 n, .slice A l.length c] w (SigPost n' er SG PT w) := by
  by_cases hh : 0 ≤ h ∧ h ≤ 4 ∧ 0 ≤ n ∧ n < ((2 ^ h.toNat : Nat) : Int)
  · obtain ⟨k, rfl⟩ : ∃ k : Nat, h = (k : Int) := ⟨h.toNat, by omega⟩
    obtain ⟨j, rfl⟩ : ∃ j : Nat, n = (j : Int) := ⟨n.toNat, by omega⟩
    have hj : j < 2 ^ k := by have := hh.2.2.2; rw [Int.toNat_natCast] at this; exact_mod_cast this
    have e1 : (sgn (msd seed j) l).length = 35 := by unfold sgn sgD; rw [List.length_map, List.length_range]
    have e2 : (pth seed 0 j k).length = k := pth_length seed k 0 j
    refine ⟨(j : Int), 0, sgn (msd seed j) l, pth seed 0 j k, by omega, by omega, fun A c w hc hcm hsrc env => ?_, fun A c w hc hA hsrc => ?_⟩
    · unfold SigPost
      rw [e1, e2]
      exact (sign7_any seed hs k j (by omega) hj l A c hl hc hcm w hsrc env).mono fun e w' ⟨X, PA, pc, he, _, h1, h2, h3⟩ => ⟨some ⟨X, 0, none⟩, 35, PA, pc, he, h1, h2, h3⟩
    · unfold SigPost
      rw [e1, e2]
      exact sign_ref_yes seed hs k j (by omega) hj l A c hl hc hA w hsrc
  · refine ⟨0, 2, [], [], by decide, by decide, fun A c w hc hcm hsrc env => ?_, fun A c w hc hA hsrc => ?_⟩
    · exact (sign7_bad seed h n _ hh w).mono fun e w' ⟨he, hb⟩ => ⟨none, 0, none, 0, he, shorts_nil _, shorts_nil _, hb⟩
    · exact (sign_ref_bad seed h n _ hh w).mono fun e w' ⟨he, hb⟩ => ⟨none, 0, none, 0, he, shorts_nil _, shorts_nil _, hb⟩
set_option maxRecDepth 100000 in
set_option maxHeartbeats 4000000 in
theorem keys7_true (seed : List UInt8) (hs : seed.length = 16) (h n : Int) (l : List UInt8) (A : Option Addr) (c : Nat) (hc : l.length ≤ c) (hcm : c ≤ maxLen) (hA : A = none → c = 0) (w : World) (hsrc : SrcAt A l w) (env : DEnv w) :
    Calls Tryd.prog 4 #[.agg (bcells seed), .int .i64 h, .int .i64 n, .slice A l.length c] w fun e w' => e = .returned (.bool true) ∧ Below w.heap.size w w' := by
  have hlm : l.length ≤ 9223372036854775807 := by unfold maxLen at hcm; omega
  by_cases h2 : l.length ≤ 2000
  · have h2i : ¬ (2000 : Int) < (l.length : Int) := by omega
    obtain ⟨R, k7, e7, hR16, hkp, hkr⟩ := keys_some seed hs h
    obtain ⟨n', er, SG, PT, hsg, hpt, hsp, hsr⟩ := sigs_some seed hs h n l (by omega)
    have hkp2 := fun (V : World) (hb : Below w.heap.size w V) => hkp V (env.on hb)
    have hsp2 : ∀ (A : Option Addr) (c : Nat) (V : World), Below w.heap.size w V → l.length ≤ c → c ≤ maxLen → SrcAt A l V → Calls Tryd.prog 7 #[.agg (bcells seed), .int .i64 h, .int .i64 n, .slice A l.length c] V (SigPost n' er SG PT V) := fun A c V hb h1 h2 h3 => hsp A c V h1 h2 h3 (env.on hb)
    have hsr2 := fun (V : World) (hb : Below w.heap.size w V) => hsr A c V hc hA (hsrc.on hb)
    have hsm := fun (B PA B' PA' : Option Addr) (cb pc cb' pc' : Nat) (V : World) (s1 : Shorts B SG V) (s2 : Shorts PA PT V) (s3 : Shorts B' SG V) (s4 : Shorts PA' PT V) => same7_ref n' B PA B' PA' SG PT cb pc cb' pc' ⟨hsg, hpt⟩ V s1 s2 s3 s4
    have hse : ∀ (A' : Option Addr) (c' : Nat) (V : World), Below w.heap.size w V → l.length ≤ c' → SrcAt A' l V → Calls Tryd.prog 18 #[.slice A' l.length c', .slice A l.length c] V fun e w' => e = .returned (.bool true) ∧ ∃ m, w' = V.drewN m := fun A' c' V hb h1 h3 => same_eq l A' A c' c (by omega) h1 hc V h3 (hsrc.on hb)
    unfold SigPost at hsp2 hsr2
    have hq : ∀ w : World, (binOp .eql 25 (.agg (pkc R k7)) (.agg (pkc R k7))).run Tryd.prog w = .ok (.bool true) w := fun w => by
      have h := eql_pk R R hR16 hR16 k7 k7 w
      rw [show ((R == R) && (k7 == k7)) = true by simp] at h
      exact h
    have HSZ0 := Lib.hid (sz16 seed hs)
    have hr17 : (Tryd.prog.info? 25).map (·.size) = some (pkc R k7).size := sz17 R _ hR16
    have hp17 := pkc_size R k7 hR16
    have hone := pkc_one R k7
    have HSRC := Lib.hid hsrc
    have HCA := Lib.hid hA
    obtain ⟨PK, hPK⟩ : ∃ PK, pkc R k7 = PK := ⟨_, rfl⟩
    rw [hPK] at hq hr17 hp17 hone
    simp only [hPK] at hkp2 hkr
    have HS17 := Lib.hid hr17
    have HSO : RowKit.Hid ((17 : Nat) = PK.size) := Lib.hid hp17.symm
    have HO := Lib.hid hone
    have KP := Lib.hid hkp2
    have KR := Lib.hid hkr
    have SP := Lib.hid hsp2
    have SR := Lib.hid hsr2
    have SM := Lib.hid hsm
    have SE := Lib.hid hse
    obtain ⟨m, hm⟩ : ∃ m, l.length = m := ⟨_, rfl⟩
    rw [hm] at h2i hlm SP SR SE ⊢
    have HM := Lib.hid hm
    have hm2 : m ≤ 2000 := by omega
    have HM2 := Lib.hid hm2
    obtain ⟨sl, hsl⟩ : ∃ sl, SG.length = sl := ⟨_, rfl⟩
    obtain ⟨pl, hpl⟩ : ∃ pl, PT.length = pl := ⟨_, rfl⟩
    rw [hsl] at SP SR SM
    rw [hpl] at SP SR SM
    clear h2 hkp hkr hsp hsr hkp2 hsp2 hsr2 hsm hse hr17 hp17 hone hPK hm hm2 hsl hpl hsg hpt hR16 hs hc hcm hA hsrc env
    have hrS := heap_alloc_new w (.cells (bcells seed) 23)
    have HB0 := Lib.hid (below_new w (.cells (bcells seed) 23))
    have HS0 := Lib.hid hrS
    clear hrS
    go_enter Tryd.func4, Tryd.ntmps4
    go_upto_region 3 with (fail)
    generalize hV : World.alloc w _ = V at HB0 HS0 ⊢
    clear hV
    go_upto_region 4 with (at_builtin; go_loud (refine append_src rfl (.tmp 21) (.tmp 22) rfl V.heap.size _ 0 [] rfl (own_empty8 (heap_alloc_new V _) (Nat.le_refl _)) A l c m HM.out rfl HCA.out (HSRC.out.on (HB0.out.alloc HB0.out.size _)) (by have := HM2.out; omega) (by rw [World.size_alloc]; omega) ?_); intro v1 w1 ho1 hg1; have HO1 := Lib.hid ho1; have HG1 := Lib.hid hg1; clear ho1 hg1)
    have hb1 : Below V.heap.size V w1 := ((Below.refl _ _).alloc (Nat.le_refl _) _).grown HG1.out (by rw [World.size_alloc]; omega) (fun j hj => by have hj2 := Option.some.inj (show some V.heap.size = some j from hj); omega)
    have ho1 := HO1.out
    rw [Nat.zero_add, List.nil_append, ← HM.out] at ho1
    obtain ⟨A', c', rfl, hk1, hk2, hk3, hk4⟩ := own_rd2 ho1
    rw [HM.out] at hk1
    try rw [HM.out]
    have HK1 := Lib.hid hk1
    have HK2 := Lib.hid hk2
    have HK4 := Lib.hid hk4
    have HB1 := Lib.hid (chain HB0.out hb1)
    have HS1 := Lib.hid (row_on HS0.out hb1)
    clear hb1 ho1 hk1 hk2 hk3 hk4 HO1 HG1 HB0 HS0
    go_wp2_with (refine wpList_load_row rfl 23 (.tmp 4) rfl w.heap.size rfl 23 (bcells seed) (0, 0) _ HS1.out Tryd.underlying23 rfl HSZ0.out ?_)
    refine (KP.out _ HB1.out).mono ?_
    rintro e w2 ⟨rfl, hb2⟩
    have HB2 := Lib.hid (chain HB1.out hb2)
    have HS2 := Lib.hid (row_on HS1.out hb2)
    have HK42 := Lib.hid (HK4.out.on hb2)
    clear hb2 HB1 HS1 HK4
    go_upto_region 5 with (refine wpList_store_row rfl 25 (.tmp 10) (.tmp 28) rfl w2.heap.size PK rfl rfl 25 _ (heap_alloc_new _ _) HS17.out HSO.out HO.out ?_)
    rw [World.setRow_alloc_new]
    generalize hV : World.alloc w2 _ = V2
    have hbV : Below w2.heap.size w2 V2 := by rw [← hV]; exact below_new _ _
    have HX3 : RowKit.Hid (V2.heap[w2.heap.size]? = some (.cells PK 25 (0, 0))) := Lib.hid (by rw [← hV]; exact heap_alloc_new _ _)
    have HB3 := Lib.hid (chain HB2.out hbV)
    have HS3 := Lib.hid (row_on HS2.out hbV)
    have HK43 := Lib.hid (HK42.out.on hbV)
    obtain ⟨XB, hXB⟩ : ∃ XB, w2.heap.size = XB := ⟨_, rfl⟩
    rw [hXB] at HX3
    try simp only [hXB]
    clear hV hbV hXB HB2 HS2 HK42
    go_wp2_with (refine wpList_load_row rfl 23 (.tmp 4) rfl w.heap.size rfl 23 (bcells seed) (0, 0) _ HS3.out Tryd.underlying23 rfl HSZ0.out ?_)
    refine (KR.out _).mono ?_
    rintro e w4 ⟨rfl, hb4⟩
    have HB4 := Lib.hid (chain HB3.out hb4)
    have HS4 := Lib.hid (row_on HS3.out hb4)
    have HX4 := Lib.hid (row_on HX3.out hb4)
    have HK44 := Lib.hid (HK43.out.on hb4)
    clear hb4 HB3 HS3 HX3 HK43
    go_upto_region 6 with (refine wpList_store_row rfl 25 (.tmp 12) (.tmp 34) rfl w4.heap.size PK rfl rfl 25 _ (heap_alloc_new _ _) HS17.out HSO.out HO.out ?_)
    rw [World.setRow_alloc_new]
    generalize hV : World.alloc w4 _ = V4
    have hbV : Below w4.heap.size w4 V4 := by rw [← hV]; exact below_new _ _
    have HY5 : RowKit.Hid (V4.heap[w4.heap.size]? = some (.cells PK 25 (0, 0))) := Lib.hid (by rw [← hV]; exact heap_alloc_new _ _)
    have HB5 := Lib.hid (chain HB4.out hbV)
    have HS5 := Lib.hid (row_on HS4.out hbV)
    have HX5 := Lib.hid (row_on HX4.out hbV)
    have HK45 := Lib.hid (HK44.out.on hbV)
    obtain ⟨YB, hYB⟩ : ∃ YB, w4.heap.size = YB := ⟨_, rfl⟩
    rw [hYB] at HY5
    try simp only [hYB]
    clear hV hbV hYB HB4 HS4 HX4 HK44
    go_wp2_with (refine wpList_load_row rfl 23 (.tmp 4) rfl w.heap.size rfl 23 (bcells seed) (0, 0) _ HS5.out Tryd.underlying23 rfl HSZ0.out ?_)
    refine (SP.out A' c' _ HB5.out HK1.out HK2.out HK45.out).mono ?_
    rintro e w6 ⟨B1, cb1, P1, pc1, rfl, hs1, hs2, hb6⟩
    have HB6 := Lib.hid (chain HB5.out hb6)
    have HS6 := Lib.hid (row_on HS5.out hb6)
    have HX6 := Lib.hid (row_on HX5.out hb6)
    have HY6 := Lib.hid (row_on HY5.out hb6)
    have HK46 := Lib.hid (HK45.out.on hb6)
    clear hb6 HB5 HS5 HX5 HY5 HK45
    go_upto_region 7 with (fail)
    generalize hV : World.alloc w6 _ = V6
    have hbV : Below w6.heap.size w6 V6 := by rw [← hV]; exact below_new _ _
    have HG7 : RowKit.Hid (V6.heap[w6.heap.size]? = some (.cells #[.int .i64 n', .slice B1 sl cb1, .slice P1 pl pc1] 31 (0, 0))) := Lib.hid (by rw [← hV]; exact heap_alloc_new _ _)
    have HB7 := Lib.hid (chain HB6.out hbV)
    have HS7 := Lib.hid (row_on HS6.out hbV)
    have HX7 := Lib.hid (row_on HX6.out hbV)
    have HY7 := Lib.hid (row_on HY6.out hbV)
    have HK47 := Lib.hid (HK46.out.on hbV)
    have HT1 := Lib.hid (hs1.on hbV)
    have HT2 := Lib.hid (hs2.on hbV)
    obtain ⟨GB, hGB⟩ : ∃ GB, w6.heap.size = GB := ⟨_, rfl⟩
    rw [hGB] at HG7
    try simp only [hGB]
    clear hV hbV hGB hs1 hs2 HB6 HS6 HX6 HY6 HK46
    go_wp2_with (refine wpList_load_row rfl 23 (.tmp 4) rfl w.heap.size rfl 23 (bcells seed) (0, 0) _ HS7.out Tryd.underlying23 rfl HSZ0.out ?_)
    refine (SR.out _ HB7.out).mono ?_
    rintro e w8 ⟨B2, cb2, P2, pc2, rfl, hs3, hs4, hb8⟩
    have HB8 := Lib.hid (chain HB7.out hb8)
    have HX8 := Lib.hid (row_on HX7.out hb8)
    have HY8 := Lib.hid (row_on HY7.out hb8)
    have HG8 := Lib.hid (row_on HG7.out hb8)
    have HK48 := Lib.hid (HK47.out.on hb8)
    have HU1 := Lib.hid (HT1.out.on hb8)
    have HU2 := Lib.hid (HT2.out.on hb8)
    clear hb8 HB7 HX7 HY7 HG7 HK47 HT1 HT2 HS7
    go_upto_region 8 with (fail)
    generalize hV : World.alloc w8 _ = V8
    have hbV : Below w8.heap.size w8 V8 := by rw [← hV]; exact below_new _ _
    have HH9 : RowKit.Hid (V8.heap[w8.heap.size]? = some (.cells #[.int .i64 n', .slice B2 sl cb2, .slice P2 pl pc2] 31 (0, 0))) := Lib.hid (by rw [← hV]; exact heap_alloc_new _ _)
    have HB9 := Lib.hid (chain HB8.out hbV)
    have HX9 := Lib.hid (row_on HX8.out hbV)
    have HY9 := Lib.hid (row_on HY8.out hbV)
    have HG9 := Lib.hid (row_on HG8.out hbV)
    have HK49 := Lib.hid (HK48.out.on hbV)
    have HV1 := Lib.hid (HU1.out.on hbV)
    have HV2 := Lib.hid (HU2.out.on hbV)
    have HV3 := Lib.hid (hs3.on hbV)
    have HV4 := Lib.hid (hs4.on hbV)
    obtain ⟨FB, hFB⟩ : ∃ FB, w8.heap.size = FB := ⟨_, rfl⟩
    rw [hFB] at HH9
    try simp only [hFB]
    clear hV hbV hFB hs3 hs4 HB8 HX8 HY8 HG8 HK48 HU1 HU2
    have hlt1 := (Array.getElem?_eq_some_iff.1 HG9.out).1
    obtain ⟨_, hc0, hc1, hc2⟩ := facts3 HG9.out
    have hlt2 := (Array.getElem?_eq_some_iff.1 HH9.out).1
    obtain ⟨_, hd0, hd1, hd2⟩ := facts3 HH9.out
    go_wp2_with (first | (refine wpList_load_row rfl 25 (.tmp 10) rfl XB rfl 25 PK (0, 0) _ HX9.out Tryd.underlying25 rfl HS17.out ?_) | (refine wpList_load_row rfl 25 (.tmp 12) rfl YB rfl 25 PK (0, 0) _ HY9.out Tryd.underlying25 rfl HS17.out ?_))
    refine (SM.out B1 P1 B2 P2 cb1 pc1 cb2 pc2 _ HV1.out HV2.out HV3.out HV4.out).mono ?_
    rintro e w10 ⟨rfl, hb10⟩
    have HBA := Lib.hid (chain HB9.out hb10)
    have HK4A := Lib.hid (HK49.out.on hb10)
    clear hb10 hc0 hc1 hc2 hd0 hd1 hd2 hlt1 hlt2
    go_wp2_with fail
    refine (SE.out A' c' _ HBA.out HK1.out HK4A.out).mono ?_
    rintro e w11 ⟨rfl, q, hq11⟩
    have HQ11 := Lib.hid hq11
    clear hq11
    go_wp2_with fail
    go_ret
    refine ⟨rfl, ?_⟩
    rw [HQ11.out]
    exact below_drewN HBA.out q
  · have h6 : (2000 : Int) < (l.length : Int) := by omega
    obtain ⟨m, hm⟩ : ∃ m, l.length = m := ⟨_, rfl⟩
    rw [hm] at h6 hlm ⊢
    clear h2 hm hsrc env hc hcm hA hs
    go_enter Tryd.func4, Tryd.ntmps4
    go_wp2_with fail
    go_ret
    exact ⟨rfl, below_new _ _⟩
set_option maxRecDepth 100000 in
theorem keys7_lifted (os : Os) (started : os.Started) (H : Type) (enc : TypeId × Value → H) :
    ReturnsInHanded {} Tryd.checked os 4 .any (fun w args => (Rows.merkleKeysSpec.pre enc Tryd.prog Tryd.f4 Rows.merkleKeysRow.domain false w args ∧ laidMet Tryd.prog laidDig w) ∧ sizedMet enc Tryd.prog Tryd.f4 (OpenSpec.ofChange Rows.merkleKeysSpec) false w args)
      (Rows.merkleKeysSpec.post enc Tryd.prog Tryd.f4 false true false false) := by
  refine returns_laid (C := Tryd.checked) (X := fun w => laidMet Tryd.prog laidDig w) (fun _ _ hh h => h.of_heap hh) Tryd.own started (by kernel_rfl) Tryd.func4
    (ChangeSpec.witness_at (enc := enc) (C := Tryd.checked) (os := os) (X := fun w _ => laidMet Tryd.prog laidDig w) false (laidWorldD os) #[.agg #[.int .u8 0, .int .u8 0, .int .u8 0, .int .u8 0, .int .u8 0, .int .u8 0, .int .u8 0, .int .u8 0, .int .u8 0, .int .u8 0, .int .u8 0, .int .u8 0, .int .u8 0, .int .u8 0, .int .u8 0, .int .u8 0], .int .i64 0, .int .i64 0, .slice none 0 0] 8 rfl (by kernel_rfl) (by kernel_rfl) (by kernel_rfl) (by kernel_rfl) (by kernel_rfl) (laidWorldD_met os _)) ?_
  intro W base args ds gs before hval0 hW hL hsh
  have hval : ∀ (j : Nat) t v, Tryd.f4.params[j]? = some t → args[j]? = some v → Value.okWide Tryd.prog W .any base t v := hval0
  have env := denv_of_laid hL
  have hW' := hW
  obtain ⟨p, q, hA0, hV, rfl, hfz, hnd⟩ := hW
  have hA : DataW.TrodAll enc Tryd.prog W 0 (fun _ => true) true Tryd.f4.params.toList args.toList ds p := hA0
  rw [Tryd.params4] at hA hval
  obtain ⟨v0, vs0, d0, ds0, p0, q0, hargs, rfl, rfl, h0, r0⟩ := trodAll_cons hA
  obtain ⟨v1, vs1, d1, ds1, p1, q1, rfl, rfl, rfl, h1, r1⟩ := trodAll_cons r0
  obtain ⟨v2, vs2, d2, ds2, p2, q2, rfl, rfl, rfl, h2, r2⟩ := trodAll_cons r1
  obtain ⟨v3, vs3, d3, ds3, p3, q3, rfl, rfl, rfl, h3, r3⟩ := trodAll_cons r2
  obtain ⟨rfl, rfl, rfl⟩ := trodAll_nil r3
  obtain rfl : args = #[v0, v1, v2, v3] := by cases args; simp_all
  obtain ⟨rfl, rfl⟩ := trodVars_none hV
  obtain ⟨l0, g0, rfl⟩ := open_short (hval 0 23 v0 rfl rfl) h0
  obtain ⟨a1, rfl, e1, f1, w1⟩ := open_int Tryd.underlying3 (hval 1 3 v1 rfl rfl) h1
  obtain ⟨a2, rfl, e2, f2, w2⟩ := open_int Tryd.underlying3 (hval 2 3 v2 rfl rfl) h2
  obtain ⟨A3, l3, c3, rfl, hc3, hm3, hn3, hs3⟩ := open_bytesN (hval 3 42 v3 rfl rfl) h3
  refine (keys7_true l0 g0 a1 a2 l3 A3 c3 hc3 hm3 hn3 W hs3 env).mono fun e W' ⟨he, hg⟩ => ?_
  subst he
  exact ⟨_, rfl, law_post Tryd.laidOut (by kernel_rfl) (by kernel_rfl) hW' hg (trodAll_cons_mk (shut_bool Tryd.underlying4 _) trodAll_mk0) rfl rfl⟩
/-- the row -/
theorem keys7_row : Rows.MerkleKeysSaid :=
  OpenClaim.holds_of_wide 4 Tryd.f4 rfl rfl rfl rfl rfl rfl rfl ⟨rfl, rfl, rfl, rfl, rfl⟩ rfl rfl rfl rfl rfl (by kernel_rfl) Tryd.func4 (by kernel_rfl)
    (of_decide_eq_true (by kernel_rfl)) (by unfold Func.isWrapper; rw [if_neg (of_decide_eq_false (by kernel_rfl))]; exact ⟨rfl, rfl⟩)
    (fun os started H enc _ => keys7_lifted os started H enc)
/-- the statement -/
theorem keys7_holds : Rows.MerkleKeysCardSaid :=
  Claim7.holds_tied_plain_at .later [] [.data, .data] true (true, "fb202a25e270729ce40d41b3d1d76f656f6dbac6218054d8004a01c5a2c829c8") false
    keys7_row (fun _ h => by cases h) (by kernel_rfl) (fun _ h => by cases h) merkleKeys_row_tie rfl ⟨rfl, rfl⟩ (by kernel_rfl) rfl
    (fun f fn hf hfn => by
      obtain rfl : f = 4 := Option.some.inj ((show Tryd.prog.funcNamed "gatepath/gatepathlaw07.MerkleKeys" = some 4 by kernel_rfl).symm.trans hf) |>.symm
      obtain rfl : fn = Tryd.f4 := (Option.some.inj (Tryd.func4.symm.trans hfn)).symm
      exact ⟨by kernel_rfl, fun j t ht => by
        rw [Tryd.params4] at ht
        have hp : t = 23 ∨ t = 3 ∨ t = 42 := by
          rcases j with _ | _ | _ | _ | j
          · left; simpa using ht.symm
          · right; left; simpa using ht.symm
          · right; left; simpa using ht.symm
          · right; right; simpa using ht.symm
          · simp at ht
        rcases hp with rfl | rfl | rfl
        · exact (show Tryd.prog.wantsStandIn 23 = false by kernel_rfl)
        · exact (show Tryd.prog.wantsStandIn 3 = false by kernel_rfl)
        · exact (show Tryd.prog.wantsStandIn 42 = false by kernel_rfl)⟩)
    (by kernel_rfl)
#print axioms keys7_holds
end Go.Proofs.YtafolokkjpbieaaDoor
