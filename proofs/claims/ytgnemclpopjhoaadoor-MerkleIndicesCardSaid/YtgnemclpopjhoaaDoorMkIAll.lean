import Derived.Test.YtgnemclpopjhoaaDoorMkOPI
import Derived.Test.YtgnemclpopjhoaaDoorLawKit
import Derived.Test.YtgnemclpopjhoaaDoorCards
namespace Go.Proofs.YtgnemclpopjhoaaDoor
open Go.ChangeShapes Go.WideShapes Go.ChangeAt Go.RowKit Sha Ots
open Go.WideMaps Go.WideElems
set_option linter.unusedVariables false
set_option linter.unusedSimpArgs false
set_option maxRecDepth 100000 in
set_option maxHeartbeats 8000000 in
theorem ind7_same (seed : List UInt8) (hs : seed.length = 16) (q a b : Nat) (l : List UInt8) (A : Option Addr) (c : Nat) (hc : l.length ≤ c) (hcm : c ≤ maxLen) (l2 : List UInt8) (A2 : Option Addr) (c2 : Nat) (hc2 : l2.length ≤ c2) (hcm2 : c2 ≤ maxLen) (ha : l.length ≤ 2000) (hbb : l2.length ≤ 2000) (hq4 : q ≤ 4) (haq : a < 2 ^ q) (hbq : b < 2 ^ q) (hh2 : a = b) (w : World) (hsrc : SrcAt A l w) (hsrc2 : SrcAt A2 l2 w) (env : DEnv w) :
    Calls Tryd.prog 7 #[.agg (bcells seed), .int .i64 (q : Int), .int .i64 (a : Int), .int .i64 (b : Int), .slice A l.length c, .slice A2 l2.length c2] w fun e w' => e = .returned (.bool true) ∧ Below w.heap.size w w' := by

  have hal : ∀ V : World, Below w.heap.size w V → Calls Tryd.prog 18 #[] V fun e w' => e = .returned (.bool true) ∧ Below V.heap.size V w' := fun V hb => alive7_any V (env.on hb)
  have hlm : l.length ≤ 9223372036854775807 := by unfold maxLen at hcm; omega
  have hlm2 : l2.length ≤ 9223372036854775807 := by unfold maxLen at hcm2; omega
  have AL := Lib.hid hal
  have HSS := Lib.hid (sz16 seed hs)
  clear hal
  have h2i : ¬ (2000 : Int) < (l.length : Int) := by omega
  have h3i : ¬ (2000 : Int) < (l2.length : Int) := by omega
  have hh0 : ¬ (q : Int) < 0 := by omega
  have hh4 : ¬ (4 : Int) < (q : Int) := by omega
  have hi0 : ¬ (a : Int) < 0 := by omega
  have hj0 : ¬ (b : Int) < 0 := by omega
  have hip : ¬ ((2 ^ q : Nat) : Int) ≤ (a : Int) := by omega
  have hjp : ¬ ((2 ^ q : Nat) : Int) ≤ (b : Int) := by omega
  have h16 : 2 ^ q ≤ 16 := by
    have := Nat.pow_le_pow_right (show 0 < 2 by decide) hq4
    simpa using this
  have hsa := fun (V : World) (hb : Below w.heap.size w V) => sign7_any seed hs q a hq4 haq l A c (by omega) hc hcm V (hsrc.on hb) (env.on hb)
  have hsb := fun (V : World) (hb : Below w.heap.size w V) => sign7_any seed hs q b hq4 hbq l2 A2 c2 (by omega) hc2 hcm2 V (hsrc2.on hb) (env.on hb)
  have hro : ∀ (x : Nat) (hx : x < 2 ^ q) (L : List UInt8) (B : Option Addr) (d : Nat) (hL : L.length ≤ 100000) (hd : L.length ≤ d) (hdm : d ≤ maxLen) (hsL : SrcAt B L w) (V : World) (X : Nat) (PA : Option Addr) (pc : Nat), Below w.heap.size w V → Shorts (some ⟨X, 0, none⟩) (sgn (msd seed x) L) V → Shorts PA (pth seed 0 x q) V → Calls Tryd.prog 16 #[.int .i64 (q : Int), .slice B L.length d, .agg #[.int .i64 (x : Int), .slice (some ⟨X, 0, none⟩) 35 35, .slice PA q pc]] V fun e w' => e = .returned (.tuple #[.agg (bcells (node seed q 0)), .int .i64 0]) ∧ Below V.heap.size V w' := fun x hx L B d hL hd hdm hsL V X PA pc hb h1 h2 => by
    have hsl : (sgn (msd seed x) L).length = 35 := by unfold sgn sgD; rw [List.length_map, List.length_range]
    have h3 := root_any q x hq4 hx L B d hL hd hdm (sgn (msd seed x) L) (pth seed 0 x q) (some ⟨X, 0, none⟩) PA 35 pc hsl (pth_length _ _ _ _) V (hsL.on hb) h1 h2 (env.on hb)
    rw [root_follows seed L q x hx] at h3
    exact h3
  have hra := hro a haq l A c (by omega) hc hcm hsrc
  have hrb := hro b hbq l2 A2 c2 (by omega) hc2 hcm2 hsrc2
  have hsl2 : (sgn (msd seed b) l2).length = 35 := by unfold sgn sgD; rw [List.length_map, List.length_range]
  have hrec : ∀ (V : World) (X : Nat), Below w.heap.size w V → Shorts (some ⟨X, 0, none⟩) (sgn (msd seed b) l2) V → Calls Tryd.prog 27 #[.slice A2 l2.length c2, .slice (some ⟨X, 0, none⟩) 35 35] V fun e w' => e = .returned (.tuple #[.agg (bcells (leaf seed b)), .int .i64 0]) ∧ Below V.heap.size V w' := fun V X hb h1 => by
    have h3 := recover_any l2 A2 c2 (by omega) hc2 hcm2 (sgn (msd seed b) l2) (some ⟨X, 0, none⟩) 35 hsl2 V (hsrc2.on hb) h1 (env.on hb)
    rw [key_sgn, hsl2] at h3
    exact h3
  have hR16 : (node seed q 0).length = 16 := node_len _ _ _
  have hJ16 : (leaf seed b).length = 16 := leaf_len _ _
  have hfst : a / 2 = b / 2 → a ≠ b → ∀ (PA : Option Addr) (V : World), Shorts PA (pth seed 0 a q) V → ∃ g o, PA = some ⟨g, o, none⟩ ∧ V.rangeAt g (o + 0 * 16) (bvals (leaf seed b)) ∧ 0 < q := fun e1 e2 PA V hsh => by
    have hq0 : 0 < q := by
      rcases Nat.eq_zero_or_pos q with h0 | h0
      · subst h0
        simp at haq hbq
        omega
      · exact h0
    obtain ⟨g, o, e, hr⟩ := hsh.atS 0 (by rw [pth_length]; exact hq0)
    have h4 := pth_first seed a b (q - 1) e1 e2
    rw [Nat.sub_add_cancel hq0] at h4
    rw [h4] at hr
    exact ⟨g, o, e, hr, hq0⟩
  have ha16 : a < 16 := by omega
  have hb16 : b < 16 := by omega
  obtain ⟨R, hR⟩ : ∃ R, node seed q 0 = R := ⟨_, rfl⟩
  obtain ⟨LJ, hLJ⟩ : ∃ LJ, leaf seed b = LJ := ⟨_, rfl⟩
  obtain ⟨SA, hSA⟩ : ∃ SA, sgn (msd seed a) l = SA := ⟨_, rfl⟩
  obtain ⟨SB, hSB⟩ : ∃ SB, sgn (msd seed b) l2 = SB := ⟨_, rfl⟩
  obtain ⟨TA, hTA⟩ : ∃ TA, pth seed 0 a q = TA := ⟨_, rfl⟩
  obtain ⟨TB, hTB⟩ : ∃ TB, pth seed 0 b q = TB := ⟨_, rfl⟩
  rw [hR] at hra hrb hR16
  rw [hLJ] at hrec hJ16 hfst
  rw [hSA, hTA] at hsa hra
  rw [hSB, hTB] at hsb hrb
  rw [hSB] at hrec
  rw [hTA] at hfst
  have hqn : ∀ w, (binOp .neq 23 (.agg (bcells R)) (.agg (bcells R))).run Tryd.prog w = .ok (.bool false) w := fun w => by
    have h := neq_short R R hR16 hR16 w
    rw [show (!(R == R)) = false by simp] at h
    exact h
  have hqe : ∀ w, (binOp .eql 23 (.agg (bvals LJ).toArray) (.agg (bvals LJ).toArray)).run Tryd.prog w = .ok (.bool true) w := fun w => by
    have h := eql_short LJ LJ hJ16 hJ16 w
    rw [show (LJ == LJ) = true by simp] at h
    exact h
  have HSZR := Lib.hid (sz16 R hR16)
  have hso : (16 : Nat) = (bcells R).size := by rw [bcells_size, hR16]
  have HSO := Lib.hid hso
  have HSZJ := Lib.hid (sz16 LJ hJ16)
  have hsoj : (16 : Nat) = (bcells LJ).size := by rw [bcells_size, hJ16]
  have HSOJ := Lib.hid hsoj
  have HJ16 := Lib.hid hJ16
  have FST := Lib.hid hfst
  have HWA := Lib.hid (wrap_half a ha16)
  have HWB := Lib.hid (wrap_half b hb16)
  have HAB0 := Lib.hid (show (a : Int) = (b : Int) ↔ a = b by omega)
  have ha0 : ¬ (a : Int) < 0 := hi0
  have hb0 : ¬ (b : Int) < 0 := hj0
  have hwp0 := wrap_pow7 q hq4
  have hwu := wrap_u647 q hq4
  obtain ⟨p, hp⟩ : ∃ p : Int, ((2 ^ q : Nat) : Int) = p := ⟨_, rfl⟩
  obtain ⟨qI, hqI⟩ : ∃ qI : Int, (q : Int) = qI := ⟨_, rfl⟩
  rw [hp, hqI] at hwp0
  obtain ⟨aI, haI⟩ : ∃ aI : Int, (a : Int) = aI := ⟨_, rfl⟩
  obtain ⟨bI, hbI⟩ : ∃ bI : Int, (b : Int) = bI := ⟨_, rfl⟩
  rw [hp] at hip hjp
  rw [hqI] at hwu hh0 hh4 hsa hsb hra hrb ⊢
  rw [haI] at hip hsa hra ha0 HWA HAB0 ⊢
  rw [hbI] at hjp hsb hrb hb0 HWB HAB0 ⊢
  obtain ⟨m, hm⟩ : ∃ m, l.length = m := ⟨_, rfl⟩
  obtain ⟨m2, hm2⟩ : ∃ m2, l2.length = m2 := ⟨_, rfl⟩
  rw [hm] at h2i hlm hsa hra ⊢
  rw [hm2] at h3i hlm2 hsb hrb hrec ⊢
  have SAA := Lib.hid hsa
  have SBB := Lib.hid hsb
  have RA := Lib.hid hra
  have RB := Lib.hid hrb
  have REC := Lib.hid hrec
  have HQI := Lib.hid hqI
  have HIP := Lib.hid (Int.not_le.1 hip)
  have HJP := Lib.hid (Int.not_le.1 hjp)
  have HWP := Lib.hid hwp0
  clear hwp0
  clear ha16 hb16 hsa hsb hro hra hrb hsl2 hrec hR16 hJ16 hfst hR hLJ hSA hSB hTA hTB hso hsoj hp hqI haI hbI haq hbq h16 hq4 hi0 hj0 ha hbb
  clear hm hm2 hsrc hsrc2 env hc hcm hc2 hcm2 hs
  have hab := HAB0.out.2 hh2
  subst hab
  clear hh2
  go_enter Tryd.func7, Tryd.ntmps7
  go_wp2_with fail
  refine (AL.out _ (below_new _ _)).mono ?_
  rintro e w1 ⟨rfl, hb1⟩
  have HS1 := Lib.hid (row_on (heap_alloc_new w _) hb1)
  have HB1 := Lib.hid (chain (below_new w _) hb1)
  clear hb1
  go_wp2_with (refine wpList_load_row rfl 23 (.tmp 6) rfl w.heap.size rfl 23 (bcells seed) (0, 0) _ HS1.out Tryd.underlying23 rfl HSS.out ?_)
  any_goals (exfalso; first | (have h9 := ‹wrap64 ((2 : Int) ^ qI.toNat) ≤ aI›; rw [HWP.out] at h9; exact absurd h9 (Int.not_le.2 HIP.out)) | (have h9 := ‹wrap64 ((2 : Int) ^ qI.toNat) ≤ aI›; rw [HWP.out] at h9; exact absurd h9 (Int.not_le.2 HJP.out)) | (have h9 := ‹wrap64 ((2 : Int) ^ qI.toNat) ≤ aI ∨ wrap64 ((2 : Int) ^ qI.toNat) ≤ aI›; rw [HWP.out] at h9; exact h9.elim (fun h => absurd h (Int.not_le.2 HIP.out)) (fun h => absurd h (Int.not_le.2 HJP.out))) | fail)
  refine (SAA.out _ HB1.out).mono ?_
  rintro e w2 ⟨X, PA, pc, rfl, _, hsg, hpt, hb2⟩
  have HS2 := Lib.hid (row_on HS1.out hb2)
  have HB2 := Lib.hid (chain HB1.out hb2)
  have HSG2 := Lib.hid hsg
  have HPT2 := Lib.hid hpt
  clear hb2 hsg hpt HS1 HB1
  go_upto_region 5 with fail
  generalize hV : World.alloc w2 _ = V2
  have hbV : Below w2.heap.size w2 V2 := by rw [← hV]; exact below_new _ _
  have HG3 : RowKit.Hid (V2.heap[w2.heap.size]? = some (.cells #[.int .i64 aI, .slice (some ⟨X, 0, none⟩) 35 35, .slice PA q pc] 31 (0, 0))) := Lib.hid (by rw [← hV]; exact heap_alloc_new _ _)
  have HS3 := Lib.hid (row_on HS2.out hbV)
  have HB3 := Lib.hid (chain HB2.out hbV)
  have HSG3 := Lib.hid (HSG2.out.on hbV)
  have HPT3 := Lib.hid (HPT2.out.on hbV)
  obtain ⟨GA, hGA⟩ : ∃ GA, w2.heap.size = GA := ⟨_, rfl⟩
  rw [hGA] at HG3
  try simp only [hGA]
  clear hV hbV HS2 HB2 HSG2 HPT2 hGA
  go_wp2_with (refine wpList_load_row rfl 23 (.tmp 6) rfl w.heap.size rfl 23 (bcells seed) (0, 0) _ HS3.out Tryd.underlying23 rfl HSS.out ?_)
  refine (SBB.out _ HB3.out).mono ?_
  rintro e w4 ⟨X2, PA2, pc2, rfl, _, hsg, hpt, hb4⟩
  have HB4 := Lib.hid (chain HB3.out hb4)
  have HG4 := Lib.hid (row_on HG3.out hb4)
  have HSG4 := Lib.hid (HSG3.out.on hb4)
  have HPT4 := Lib.hid (HPT3.out.on hb4)
  have HTG4 := Lib.hid hsg
  have HTP4 := Lib.hid hpt
  clear hb4 hsg hpt HS3 HB3 HG3 HSG3 HPT3
  go_upto_region 6 with fail
  generalize hV : World.alloc w4 _ = V4
  have hbV : Below w4.heap.size w4 V4 := by rw [← hV]; exact below_new _ _
  have HT5 : RowKit.Hid (V4.heap[w4.heap.size]? = some (.cells #[.int .i64 aI, .slice (some ⟨X2, 0, none⟩) 35 35, .slice PA2 q pc2] 31 (0, 0))) := Lib.hid (by rw [← hV]; exact heap_alloc_new _ _)
  have HB5 := Lib.hid (chain HB4.out hbV)
  have HG5 := Lib.hid (row_on HG4.out hbV)
  have HSG5 := Lib.hid (HSG4.out.on hbV)
  have HPT5 := Lib.hid (HPT4.out.on hbV)
  have HTG5 := Lib.hid (HTG4.out.on hbV)
  have HTP5 := Lib.hid (HTP4.out.on hbV)
  obtain ⟨GB, hGB⟩ : ∃ GB, w4.heap.size = GB := ⟨_, rfl⟩
  rw [hGB] at HT5
  try simp only [hGB]
  clear hV hbV HB4 HG4 HSG4 HPT4 HTG4 HTP4 hGB
  have hlt5 := (Array.getElem?_eq_some_iff.1 HG5.out).1
  obtain ⟨_, hc0, hc1, hc2⟩ := facts3 HG5.out
  go_wp2_with fail
  refine (RA.out _ X PA pc HB5.out HSG5.out HPT5.out).mono ?_
  rintro e w6 ⟨rfl, hb6⟩
  have HB6 := Lib.hid (chain HB5.out hb6)
  have HG6 := Lib.hid (row_on HG5.out hb6)
  have HT6 := Lib.hid (row_on HT5.out hb6)
  have HPT6 := Lib.hid (HPT5.out.on hb6)
  have HTG6 := Lib.hid (HTG5.out.on hb6)
  have HTP6 := Lib.hid (HTP5.out.on hb6)
  clear hb6 hlt5 hc0 hc1 hc2 HB5 HG5 HT5 HSG5 HPT5 HTG5 HTP5
  go_upto_region 7 with (refine wpList_store_row rfl 23 (.tmp 18) (.tmp 89) rfl w6.heap.size (bcells R) rfl rfl 23 _ (heap_alloc_new _ _) HSZR.out HSO.out (bcells_one _) ?_)
  rw [World.setRow_alloc_new]
  generalize hV : World.alloc w6 _ = V6
  have hbV : Below w6.heap.size w6 V6 := by rw [← hV]; exact below_new _ _
  have HX7 : RowKit.Hid (V6.heap[w6.heap.size]? = some (.cells (bcells R) 23 (0, 0))) := Lib.hid (by rw [← hV]; exact heap_alloc_new _ _)
  have HB7 := Lib.hid (chain HB6.out hbV)
  have HG7 := Lib.hid (row_on HG6.out hbV)
  have HT7 := Lib.hid (row_on HT6.out hbV)
  have HPT7 := Lib.hid (HPT6.out.on hbV)
  have HTG7 := Lib.hid (HTG6.out.on hbV)
  have HTP7 := Lib.hid (HTP6.out.on hbV)
  obtain ⟨XB, hXB⟩ : ∃ XB, w6.heap.size = XB := ⟨_, rfl⟩
  rw [hXB] at HX7
  try simp only [hXB]
  clear hV hbV HB6 HG6 HT6 HPT6 HTG6 HTP6 hXB
  have hlt7 := (Array.getElem?_eq_some_iff.1 HT7.out).1
  obtain ⟨_, hc0, hc1, hc2⟩ := facts3 HT7.out
  go_wp2_with fail
  refine (RB.out _ X2 PA2 pc2 HB7.out HTG7.out HTP7.out).mono ?_
  rintro e w8 ⟨rfl, hb8⟩
  have HB8 := Lib.hid (chain HB7.out hb8)
  have HG8 := Lib.hid (row_on HG7.out hb8)
  have HT8 := Lib.hid (row_on HT7.out hb8)
  have HX8 := Lib.hid (row_on HX7.out hb8)
  have HPT8 := Lib.hid (HPT7.out.on hb8)
  have HTG8 := Lib.hid (HTG7.out.on hb8)
  clear hb8 hlt7 hc0 hc1 hc2 HB7 HG7 HT7 HX7 HPT7 HTG7 HTP7
  go_upto_region 8 with (refine wpList_store_row rfl 23 (.tmp 20) (.tmp 96) rfl w8.heap.size (bcells R) rfl rfl 23 _ (heap_alloc_new _ _) HSZR.out HSO.out (bcells_one _) ?_)
  rw [World.setRow_alloc_new]
  generalize hV : World.alloc w8 _ = V8
  have hbV : Below w8.heap.size w8 V8 := by rw [← hV]; exact below_new _ _
  have HY9 : RowKit.Hid (V8.heap[w8.heap.size]? = some (.cells (bcells R) 23 (0, 0))) := Lib.hid (by rw [← hV]; exact heap_alloc_new _ _)
  have HB9 := Lib.hid (chain HB8.out hbV)
  have HG9 := Lib.hid (row_on HG8.out hbV)
  have HT9 := Lib.hid (row_on HT8.out hbV)
  have HX9 := Lib.hid (row_on HX8.out hbV)
  have HPT9 := Lib.hid (HPT8.out.on hbV)
  have HTG9 := Lib.hid (HTG8.out.on hbV)
  obtain ⟨YB, hYB⟩ : ∃ YB, w8.heap.size = YB := ⟨_, rfl⟩
  rw [hYB] at HY9
  try simp only [hYB]
  clear hV hbV HB8 HG8 HT8 HX8 HPT8 HTG8 hYB
  have hlt9 := (Array.getElem?_eq_some_iff.1 HG9.out).1
  have hlt9' := (Array.getElem?_eq_some_iff.1 HT9.out).1
  obtain ⟨_, hc0, hc1, hc2⟩ := facts3 HG9.out
  obtain ⟨_, hd0, hd1, hd2⟩ := facts3 HT9.out
  have hqI := HQI.out
  go_wp2_with (first | (refine wpList_load_wantedR (by rfl) 23 (.tmp 18) rfl XB rfl 23 (bcells R) (0, 0) _ _ HX9.out Tryd.underlying23 HSZR.out ?_) | (refine wpList_load_wantedR (by rfl) 23 (.tmp 20) rfl YB rfl 23 (bcells R) (0, 0) _ _ HY9.out Tryd.underlying23 HSZR.out ?_))
  go_ret
  exact ⟨rfl, HB9.out⟩
end Go.Proofs.YtgnemclpopjhoaaDoor
namespace Go.Proofs.YtgnemclpopjhoaaDoor
open Go.ChangeShapes Go.WideShapes Go.ChangeAt Go.RowKit Sha Ots
open Go.WideMaps Go.WideElems
set_option linter.unusedVariables false
set_option linter.unusedSimpArgs false
set_option maxRecDepth 100000 in
set_option maxHeartbeats 8000000 in
theorem ind7_far (seed : List UInt8) (hs : seed.length = 16) (q a b : Nat) (l : List UInt8) (A : Option Addr) (c : Nat) (hc : l.length ≤ c) (hcm : c ≤ maxLen) (l2 : List UInt8) (A2 : Option Addr) (c2 : Nat) (hc2 : l2.length ≤ c2) (hcm2 : c2 ≤ maxLen) (ha : l.length ≤ 2000) (hbb : l2.length ≤ 2000) (hq4 : q ≤ 4) (haq : a < 2 ^ q) (hbq : b < 2 ^ q) (hh1 : ¬ a / 2 = b / 2) (w : World) (hsrc : SrcAt A l w) (hsrc2 : SrcAt A2 l2 w) (env : DEnv w) :
    Calls Tryd.prog 7 #[.agg (bcells seed), .int .i64 (q : Int), .int .i64 (a : Int), .int .i64 (b : Int), .slice A l.length c, .slice A2 l2.length c2] w fun e w' => e = .returned (.bool true) ∧ Below w.heap.size w w' := by

  have hal : ∀ V : World, Below w.heap.size w V → Calls Tryd.prog 18 #[] V fun e w' => e = .returned (.bool true) ∧ Below V.heap.size V w' := fun V hb => alive7_any V (env.on hb)
  have hlm : l.length ≤ 9223372036854775807 := by unfold maxLen at hcm; omega
  have hlm2 : l2.length ≤ 9223372036854775807 := by unfold maxLen at hcm2; omega
  have AL := Lib.hid hal
  have HSS := Lib.hid (sz16 seed hs)
  clear hal
  have h2i : ¬ (2000 : Int) < (l.length : Int) := by omega
  have h3i : ¬ (2000 : Int) < (l2.length : Int) := by omega
  have hh0 : ¬ (q : Int) < 0 := by omega
  have hh4 : ¬ (4 : Int) < (q : Int) := by omega
  have hi0 : ¬ (a : Int) < 0 := by omega
  have hj0 : ¬ (b : Int) < 0 := by omega
  have hip : ¬ ((2 ^ q : Nat) : Int) ≤ (a : Int) := by omega
  have hjp : ¬ ((2 ^ q : Nat) : Int) ≤ (b : Int) := by omega
  have h16 : 2 ^ q ≤ 16 := by
    have := Nat.pow_le_pow_right (show 0 < 2 by decide) hq4
    simpa using this
  have hsa := fun (V : World) (hb : Below w.heap.size w V) => sign7_any seed hs q a hq4 haq l A c (by omega) hc hcm V (hsrc.on hb) (env.on hb)
  have hsb := fun (V : World) (hb : Below w.heap.size w V) => sign7_any seed hs q b hq4 hbq l2 A2 c2 (by omega) hc2 hcm2 V (hsrc2.on hb) (env.on hb)
  have hro : ∀ (x : Nat) (hx : x < 2 ^ q) (L : List UInt8) (B : Option Addr) (d : Nat) (hL : L.length ≤ 100000) (hd : L.length ≤ d) (hdm : d ≤ maxLen) (hsL : SrcAt B L w) (V : World) (X : Nat) (PA : Option Addr) (pc : Nat), Below w.heap.size w V → Shorts (some ⟨X, 0, none⟩) (sgn (msd seed x) L) V → Shorts PA (pth seed 0 x q) V → Calls Tryd.prog 16 #[.int .i64 (q : Int), .slice B L.length d, .agg #[.int .i64 (x : Int), .slice (some ⟨X, 0, none⟩) 35 35, .slice PA q pc]] V fun e w' => e = .returned (.tuple #[.agg (bcells (node seed q 0)), .int .i64 0]) ∧ Below V.heap.size V w' := fun x hx L B d hL hd hdm hsL V X PA pc hb h1 h2 => by
    have hsl : (sgn (msd seed x) L).length = 35 := by unfold sgn sgD; rw [List.length_map, List.length_range]
    have h3 := root_any q x hq4 hx L B d hL hd hdm (sgn (msd seed x) L) (pth seed 0 x q) (some ⟨X, 0, none⟩) PA 35 pc hsl (pth_length _ _ _ _) V (hsL.on hb) h1 h2 (env.on hb)
    rw [root_follows seed L q x hx] at h3
    exact h3
  have hra := hro a haq l A c (by omega) hc hcm hsrc
  have hrb := hro b hbq l2 A2 c2 (by omega) hc2 hcm2 hsrc2
  have hsl2 : (sgn (msd seed b) l2).length = 35 := by unfold sgn sgD; rw [List.length_map, List.length_range]
  have hrec : ∀ (V : World) (X : Nat), Below w.heap.size w V → Shorts (some ⟨X, 0, none⟩) (sgn (msd seed b) l2) V → Calls Tryd.prog 27 #[.slice A2 l2.length c2, .slice (some ⟨X, 0, none⟩) 35 35] V fun e w' => e = .returned (.tuple #[.agg (bcells (leaf seed b)), .int .i64 0]) ∧ Below V.heap.size V w' := fun V X hb h1 => by
    have h3 := recover_any l2 A2 c2 (by omega) hc2 hcm2 (sgn (msd seed b) l2) (some ⟨X, 0, none⟩) 35 hsl2 V (hsrc2.on hb) h1 (env.on hb)
    rw [key_sgn, hsl2] at h3
    exact h3
  have hR16 : (node seed q 0).length = 16 := node_len _ _ _
  have hJ16 : (leaf seed b).length = 16 := leaf_len _ _
  have hfst : a / 2 = b / 2 → a ≠ b → ∀ (PA : Option Addr) (V : World), Shorts PA (pth seed 0 a q) V → ∃ g o, PA = some ⟨g, o, none⟩ ∧ V.rangeAt g (o + 0 * 16) (bvals (leaf seed b)) ∧ 0 < q := fun e1 e2 PA V hsh => by
    have hq0 : 0 < q := by
      rcases Nat.eq_zero_or_pos q with h0 | h0
      · subst h0
        simp at haq hbq
        omega
      · exact h0
    obtain ⟨g, o, e, hr⟩ := hsh.atS 0 (by rw [pth_length]; exact hq0)
    have h4 := pth_first seed a b (q - 1) e1 e2
    rw [Nat.sub_add_cancel hq0] at h4
    rw [h4] at hr
    exact ⟨g, o, e, hr, hq0⟩
  have ha16 : a < 16 := by omega
  have hb16 : b < 16 := by omega
  obtain ⟨R, hR⟩ : ∃ R, node seed q 0 = R := ⟨_, rfl⟩
  obtain ⟨LJ, hLJ⟩ : ∃ LJ, leaf seed b = LJ := ⟨_, rfl⟩
  obtain ⟨SA, hSA⟩ : ∃ SA, sgn (msd seed a) l = SA := ⟨_, rfl⟩
  obtain ⟨SB, hSB⟩ : ∃ SB, sgn (msd seed b) l2 = SB := ⟨_, rfl⟩
  obtain ⟨TA, hTA⟩ : ∃ TA, pth seed 0 a q = TA := ⟨_, rfl⟩
  obtain ⟨TB, hTB⟩ : ∃ TB, pth seed 0 b q = TB := ⟨_, rfl⟩
  rw [hR] at hra hrb hR16
  rw [hLJ] at hrec hJ16 hfst
  rw [hSA, hTA] at hsa hra
  rw [hSB, hTB] at hsb hrb
  rw [hSB] at hrec
  rw [hTA] at hfst
  have hqn : ∀ w, (binOp .neq 23 (.agg (bcells R)) (.agg (bcells R))).run Tryd.prog w = .ok (.bool false) w := fun w => by
    have h := neq_short R R hR16 hR16 w
    rw [show (!(R == R)) = false by simp] at h
    exact h
  have hqe : ∀ w, (binOp .eql 23 (.agg (bvals LJ).toArray) (.agg (bvals LJ).toArray)).run Tryd.prog w = .ok (.bool true) w := fun w => by
    have h := eql_short LJ LJ hJ16 hJ16 w
    rw [show (LJ == LJ) = true by simp] at h
    exact h
  have HSZR := Lib.hid (sz16 R hR16)
  have hso : (16 : Nat) = (bcells R).size := by rw [bcells_size, hR16]
  have HSO := Lib.hid hso
  have HSZJ := Lib.hid (sz16 LJ hJ16)
  have hsoj : (16 : Nat) = (bcells LJ).size := by rw [bcells_size, hJ16]
  have HSOJ := Lib.hid hsoj
  have HJ16 := Lib.hid hJ16
  have FST := Lib.hid hfst
  have HWA := Lib.hid (wrap_half a ha16)
  have HWB := Lib.hid (wrap_half b hb16)
  have HAB0 := Lib.hid (show (a : Int) = (b : Int) ↔ a = b by omega)
  have ha0 : ¬ (a : Int) < 0 := hi0
  have hb0 : ¬ (b : Int) < 0 := hj0
  have hwp0 := wrap_pow7 q hq4
  have hwu := wrap_u647 q hq4
  obtain ⟨p, hp⟩ : ∃ p : Int, ((2 ^ q : Nat) : Int) = p := ⟨_, rfl⟩
  obtain ⟨qI, hqI⟩ : ∃ qI : Int, (q : Int) = qI := ⟨_, rfl⟩
  rw [hp, hqI] at hwp0
  obtain ⟨aI, haI⟩ : ∃ aI : Int, (a : Int) = aI := ⟨_, rfl⟩
  obtain ⟨bI, hbI⟩ : ∃ bI : Int, (b : Int) = bI := ⟨_, rfl⟩
  rw [hp] at hip hjp
  rw [hqI] at hwu hh0 hh4 hsa hsb hra hrb ⊢
  rw [haI] at hip hsa hra ha0 HWA HAB0 ⊢
  rw [hbI] at hjp hsb hrb hb0 HWB HAB0 ⊢
  obtain ⟨m, hm⟩ : ∃ m, l.length = m := ⟨_, rfl⟩
  obtain ⟨m2, hm2⟩ : ∃ m2, l2.length = m2 := ⟨_, rfl⟩
  rw [hm] at h2i hlm hsa hra ⊢
  rw [hm2] at h3i hlm2 hsb hrb hrec ⊢
  have SAA := Lib.hid hsa
  have SBB := Lib.hid hsb
  have RA := Lib.hid hra
  have RB := Lib.hid hrb
  have REC := Lib.hid hrec
  have HQI := Lib.hid hqI
  have HIP := Lib.hid (Int.not_le.1 hip)
  have HJP := Lib.hid (Int.not_le.1 hjp)
  have HWP := Lib.hid hwp0
  clear hwp0
  clear ha16 hb16 hsa hsb hro hra hrb hsl2 hrec hR16 hJ16 hfst hR hLJ hSA hSB hTA hTB hso hsoj hp hqI haI hbI haq hbq h16 hq4 hi0 hj0 ha hbb
  clear hm hm2 hsrc hsrc2 env hc hcm hc2 hcm2 hs
  have HH1 := Lib.hid hh1
  clear hh1
  go_enter Tryd.func7, Tryd.ntmps7
  go_wp2_with fail
  refine (AL.out _ (below_new _ _)).mono ?_
  rintro e w1 ⟨rfl, hb1⟩
  have HS1 := Lib.hid (row_on (heap_alloc_new w _) hb1)
  have HB1 := Lib.hid (chain (below_new w _) hb1)
  clear hb1
  go_wp2_with (refine wpList_load_row rfl 23 (.tmp 6) rfl w.heap.size rfl 23 (bcells seed) (0, 0) _ HS1.out Tryd.underlying23 rfl HSS.out ?_)
  any_goals (exfalso; first | (have h9 := ‹wrap64 ((2 : Int) ^ qI.toNat) ≤ aI›; rw [HWP.out] at h9; exact absurd h9 (Int.not_le.2 HIP.out)) | (have h9 := ‹wrap64 ((2 : Int) ^ qI.toNat) ≤ bI›; rw [HWP.out] at h9; exact absurd h9 (Int.not_le.2 HJP.out)) | (have h9 := ‹wrap64 ((2 : Int) ^ qI.toNat) ≤ aI ∨ wrap64 ((2 : Int) ^ qI.toNat) ≤ bI›; rw [HWP.out] at h9; exact h9.elim (fun h => absurd h (Int.not_le.2 HIP.out)) (fun h => absurd h (Int.not_le.2 HJP.out))) | fail)
  refine (SAA.out _ HB1.out).mono ?_
  rintro e w2 ⟨X, PA, pc, rfl, _, hsg, hpt, hb2⟩
  have HS2 := Lib.hid (row_on HS1.out hb2)
  have HB2 := Lib.hid (chain HB1.out hb2)
  have HSG2 := Lib.hid hsg
  have HPT2 := Lib.hid hpt
  clear hb2 hsg hpt HS1 HB1
  go_upto_region 5 with fail
  generalize hV : World.alloc w2 _ = V2
  have hbV : Below w2.heap.size w2 V2 := by rw [← hV]; exact below_new _ _
  have HG3 : RowKit.Hid (V2.heap[w2.heap.size]? = some (.cells #[.int .i64 aI, .slice (some ⟨X, 0, none⟩) 35 35, .slice PA q pc] 31 (0, 0))) := Lib.hid (by rw [← hV]; exact heap_alloc_new _ _)
  have HS3 := Lib.hid (row_on HS2.out hbV)
  have HB3 := Lib.hid (chain HB2.out hbV)
  have HSG3 := Lib.hid (HSG2.out.on hbV)
  have HPT3 := Lib.hid (HPT2.out.on hbV)
  obtain ⟨GA, hGA⟩ : ∃ GA, w2.heap.size = GA := ⟨_, rfl⟩
  rw [hGA] at HG3
  try simp only [hGA]
  clear hV hbV HS2 HB2 HSG2 HPT2 hGA
  go_wp2_with (refine wpList_load_row rfl 23 (.tmp 6) rfl w.heap.size rfl 23 (bcells seed) (0, 0) _ HS3.out Tryd.underlying23 rfl HSS.out ?_)
  refine (SBB.out _ HB3.out).mono ?_
  rintro e w4 ⟨X2, PA2, pc2, rfl, _, hsg, hpt, hb4⟩
  have HB4 := Lib.hid (chain HB3.out hb4)
  have HG4 := Lib.hid (row_on HG3.out hb4)
  have HSG4 := Lib.hid (HSG3.out.on hb4)
  have HPT4 := Lib.hid (HPT3.out.on hb4)
  have HTG4 := Lib.hid hsg
  have HTP4 := Lib.hid hpt
  clear hb4 hsg hpt HS3 HB3 HG3 HSG3 HPT3
  go_upto_region 6 with fail
  generalize hV : World.alloc w4 _ = V4
  have hbV : Below w4.heap.size w4 V4 := by rw [← hV]; exact below_new _ _
  have HT5 : RowKit.Hid (V4.heap[w4.heap.size]? = some (.cells #[.int .i64 bI, .slice (some ⟨X2, 0, none⟩) 35 35, .slice PA2 q pc2] 31 (0, 0))) := Lib.hid (by rw [← hV]; exact heap_alloc_new _ _)
  have HB5 := Lib.hid (chain HB4.out hbV)
  have HG5 := Lib.hid (row_on HG4.out hbV)
  have HSG5 := Lib.hid (HSG4.out.on hbV)
  have HPT5 := Lib.hid (HPT4.out.on hbV)
  have HTG5 := Lib.hid (HTG4.out.on hbV)
  have HTP5 := Lib.hid (HTP4.out.on hbV)
  obtain ⟨GB, hGB⟩ : ∃ GB, w4.heap.size = GB := ⟨_, rfl⟩
  rw [hGB] at HT5
  try simp only [hGB]
  clear hV hbV HB4 HG4 HSG4 HPT4 HTG4 HTP4 hGB
  have hlt5 := (Array.getElem?_eq_some_iff.1 HG5.out).1
  obtain ⟨_, hc0, hc1, hc2⟩ := facts3 HG5.out
  go_wp2_with fail
  refine (RA.out _ X PA pc HB5.out HSG5.out HPT5.out).mono ?_
  rintro e w6 ⟨rfl, hb6⟩
  have HB6 := Lib.hid (chain HB5.out hb6)
  have HG6 := Lib.hid (row_on HG5.out hb6)
  have HT6 := Lib.hid (row_on HT5.out hb6)
  have HPT6 := Lib.hid (HPT5.out.on hb6)
  have HTG6 := Lib.hid (HTG5.out.on hb6)
  have HTP6 := Lib.hid (HTP5.out.on hb6)
  clear hb6 hlt5 hc0 hc1 hc2 HB5 HG5 HT5 HSG5 HPT5 HTG5 HTP5
  go_upto_region 7 with (refine wpList_store_row rfl 23 (.tmp 18) (.tmp 89) rfl w6.heap.size (bcells R) rfl rfl 23 _ (heap_alloc_new _ _) HSZR.out HSO.out (bcells_one _) ?_)
  rw [World.setRow_alloc_new]
  generalize hV : World.alloc w6 _ = V6
  have hbV : Below w6.heap.size w6 V6 := by rw [← hV]; exact below_new _ _
  have HX7 : RowKit.Hid (V6.heap[w6.heap.size]? = some (.cells (bcells R) 23 (0, 0))) := Lib.hid (by rw [← hV]; exact heap_alloc_new _ _)
  have HB7 := Lib.hid (chain HB6.out hbV)
  have HG7 := Lib.hid (row_on HG6.out hbV)
  have HT7 := Lib.hid (row_on HT6.out hbV)
  have HPT7 := Lib.hid (HPT6.out.on hbV)
  have HTG7 := Lib.hid (HTG6.out.on hbV)
  have HTP7 := Lib.hid (HTP6.out.on hbV)
  obtain ⟨XB, hXB⟩ : ∃ XB, w6.heap.size = XB := ⟨_, rfl⟩
  rw [hXB] at HX7
  try simp only [hXB]
  clear hV hbV HB6 HG6 HT6 HPT6 HTG6 HTP6 hXB
  have hlt7 := (Array.getElem?_eq_some_iff.1 HT7.out).1
  obtain ⟨_, hc0, hc1, hc2⟩ := facts3 HT7.out
  go_wp2_with fail
  refine (RB.out _ X2 PA2 pc2 HB7.out HTG7.out HTP7.out).mono ?_
  rintro e w8 ⟨rfl, hb8⟩
  have HB8 := Lib.hid (chain HB7.out hb8)
  have HG8 := Lib.hid (row_on HG7.out hb8)
  have HT8 := Lib.hid (row_on HT7.out hb8)
  have HX8 := Lib.hid (row_on HX7.out hb8)
  have HPT8 := Lib.hid (HPT7.out.on hb8)
  have HTG8 := Lib.hid (HTG7.out.on hb8)
  clear hb8 hlt7 hc0 hc1 hc2 HB7 HG7 HT7 HX7 HPT7 HTG7 HTP7
  go_upto_region 8 with (refine wpList_store_row rfl 23 (.tmp 20) (.tmp 96) rfl w8.heap.size (bcells R) rfl rfl 23 _ (heap_alloc_new _ _) HSZR.out HSO.out (bcells_one _) ?_)
  rw [World.setRow_alloc_new]
  generalize hV : World.alloc w8 _ = V8
  have hbV : Below w8.heap.size w8 V8 := by rw [← hV]; exact below_new _ _
  have HY9 : RowKit.Hid (V8.heap[w8.heap.size]? = some (.cells (bcells R) 23 (0, 0))) := Lib.hid (by rw [← hV]; exact heap_alloc_new _ _)
  have HB9 := Lib.hid (chain HB8.out hbV)
  have HG9 := Lib.hid (row_on HG8.out hbV)
  have HT9 := Lib.hid (row_on HT8.out hbV)
  have HX9 := Lib.hid (row_on HX8.out hbV)
  have HPT9 := Lib.hid (HPT8.out.on hbV)
  have HTG9 := Lib.hid (HTG8.out.on hbV)
  obtain ⟨YB, hYB⟩ : ∃ YB, w8.heap.size = YB := ⟨_, rfl⟩
  rw [hYB] at HY9
  try simp only [hYB]
  clear hV hbV HB8 HG8 HT8 HX8 HPT8 HTG8 hYB
  have hlt9 := (Array.getElem?_eq_some_iff.1 HG9.out).1
  have hlt9' := (Array.getElem?_eq_some_iff.1 HT9.out).1
  obtain ⟨_, hc0, hc1, hc2⟩ := facts3 HG9.out
  obtain ⟨_, hd0, hd1, hd2⟩ := facts3 HT9.out
  have hqI := HQI.out
  go_wp2_with (first | (refine wpList_load_wantedR (by rfl) 23 (.tmp 18) rfl XB rfl 23 (bcells R) (0, 0) _ _ HX9.out Tryd.underlying23 HSZR.out ?_) | (refine wpList_load_wantedR (by rfl) 23 (.tmp 20) rfl YB rfl 23 (bcells R) (0, 0) _ _ HY9.out Tryd.underlying23 HSZR.out ?_))
  all_goals first
    | (go_ret
       exact ⟨rfl, HB9.out⟩)
    | (exfalso
       have h8 := ‹wrap64 (aI.tdiv 2) = wrap64 (bI.tdiv 2)›
       rw [HWA.out, HWB.out] at h8
       exact HH1.out (by exact_mod_cast h8))
end Go.Proofs.YtgnemclpopjhoaaDoor
namespace Go.Proofs.YtgnemclpopjhoaaDoor
open Go.ChangeShapes Go.WideShapes Go.ChangeAt Go.RowKit Sha Ots
open Go.WideMaps Go.WideElems
set_option linter.unusedVariables false
set_option linter.unusedSimpArgs false
set_option maxRecDepth 100000 in
set_option maxHeartbeats 8000000 in
theorem ind7_nei (seed : List UInt8) (hs : seed.length = 16) (q a b : Nat) (l : List UInt8) (A : Option Addr) (c : Nat) (hc : l.length ≤ c) (hcm : c ≤ maxLen) (l2 : List UInt8) (A2 : Option Addr) (c2 : Nat) (hc2 : l2.length ≤ c2) (hcm2 : c2 ≤ maxLen) (ha : l.length ≤ 2000) (hbb : l2.length ≤ 2000) (hq4 : q ≤ 4) (haq : a < 2 ^ q) (hbq : b < 2 ^ q) (hh1 : a / 2 = b / 2) (hh2 : ¬ a = b) (w : World) (hsrc : SrcAt A l w) (hsrc2 : SrcAt A2 l2 w) (env : DEnv w) :
    Calls Tryd.prog 7 #[.agg (bcells seed), .int .i64 (q : Int), .int .i64 (a : Int), .int .i64 (b : Int), .slice A l.length c, .slice A2 l2.length c2] w fun e w' => e = .returned (.bool true) ∧ Below w.heap.size w w' := by

  have hal : ∀ V : World, Below w.heap.size w V → Calls Tryd.prog 18 #[] V fun e w' => e = .returned (.bool true) ∧ Below V.heap.size V w' := fun V hb => alive7_any V (env.on hb)
  have hlm : l.length ≤ 9223372036854775807 := by unfold maxLen at hcm; omega
  have hlm2 : l2.length ≤ 9223372036854775807 := by unfold maxLen at hcm2; omega
  have AL := Lib.hid hal
  have HSS := Lib.hid (sz16 seed hs)
  clear hal
  have h2i : ¬ (2000 : Int) < (l.length : Int) := by omega
  have h3i : ¬ (2000 : Int) < (l2.length : Int) := by omega
  have hh0 : ¬ (q : Int) < 0 := by omega
  have hh4 : ¬ (4 : Int) < (q : Int) := by omega
  have hi0 : ¬ (a : Int) < 0 := by omega
  have hj0 : ¬ (b : Int) < 0 := by omega
  have hip : ¬ ((2 ^ q : Nat) : Int) ≤ (a : Int) := by omega
  have hjp : ¬ ((2 ^ q : Nat) : Int) ≤ (b : Int) := by omega
  have h16 : 2 ^ q ≤ 16 := by
    have := Nat.pow_le_pow_right (show 0 < 2 by decide) hq4
    simpa using this
  have hsa := fun (V : World) (hb : Below w.heap.size w V) => sign7_any seed hs q a hq4 haq l A c (by omega) hc hcm V (hsrc.on hb) (env.on hb)
  have hsb := fun (V : World) (hb : Below w.heap.size w V) => sign7_any seed hs q b hq4 hbq l2 A2 c2 (by omega) hc2 hcm2 V (hsrc2.on hb) (env.on hb)
  have hro : ∀ (x : Nat) (hx : x < 2 ^ q) (L : List UInt8) (B : Option Addr) (d : Nat) (hL : L.length ≤ 100000) (hd : L.length ≤ d) (hdm : d ≤ maxLen) (hsL : SrcAt B L w) (V : World) (X : Nat) (PA : Option Addr) (pc : Nat), Below w.heap.size w V → Shorts (some ⟨X, 0, none⟩) (sgn (msd seed x) L) V → Shorts PA (pth seed 0 x q) V → Calls Tryd.prog 16 #[.int .i64 (q : Int), .slice B L.length d, .agg #[.int .i64 (x : Int), .slice (some ⟨X, 0, none⟩) 35 35, .slice PA q pc]] V fun e w' => e = .returned (.tuple #[.agg (bcells (node seed q 0)), .int .i64 0]) ∧ Below V.heap.size V w' := fun x hx L B d hL hd hdm hsL V X PA pc hb h1 h2 => by
    have hsl : (sgn (msd seed x) L).length = 35 := by unfold sgn sgD; rw [List.length_map, List.length_range]
    have h3 := root_any q x hq4 hx L B d hL hd hdm (sgn (msd seed x) L) (pth seed 0 x q) (some ⟨X, 0, none⟩) PA 35 pc hsl (pth_length _ _ _ _) V (hsL.on hb) h1 h2 (env.on hb)
    rw [root_follows seed L q x hx] at h3
    exact h3
  have hra := hro a haq l A c (by omega) hc hcm hsrc
  have hrb := hro b hbq l2 A2 c2 (by omega) hc2 hcm2 hsrc2
  have hsl2 : (sgn (msd seed b) l2).length = 35 := by unfold sgn sgD; rw [List.length_map, List.length_range]
  have hrec : ∀ (V : World) (X : Nat), Below w.heap.size w V → Shorts (some ⟨X, 0, none⟩) (sgn (msd seed b) l2) V → Calls Tryd.prog 27 #[.slice A2 l2.length c2, .slice (some ⟨X, 0, none⟩) 35 35] V fun e w' => e = .returned (.tuple #[.agg (bcells (leaf seed b)), .int .i64 0]) ∧ Below V.heap.size V w' := fun V X hb h1 => by
    have h3 := recover_any l2 A2 c2 (by omega) hc2 hcm2 (sgn (msd seed b) l2) (some ⟨X, 0, none⟩) 35 hsl2 V (hsrc2.on hb) h1 (env.on hb)
    rw [key_sgn, hsl2] at h3
    exact h3
  have hR16 : (node seed q 0).length = 16 := node_len _ _ _
  have hJ16 : (leaf seed b).length = 16 := leaf_len _ _
  have hfst : a / 2 = b / 2 → a ≠ b → ∀ (PA : Option Addr) (V : World), Shorts PA (pth seed 0 a q) V → ∃ g o, PA = some ⟨g, o, none⟩ ∧ V.rangeAt g (o + 0 * 16) (bvals (leaf seed b)) ∧ 0 < q := fun e1 e2 PA V hsh => by
    have hq0 : 0 < q := by
      rcases Nat.eq_zero_or_pos q with h0 | h0
      · subst h0
        simp at haq hbq
        omega
      · exact h0
    obtain ⟨g, o, e, hr⟩ := hsh.atS 0 (by rw [pth_length]; exact hq0)
    have h4 := pth_first seed a b (q - 1) e1 e2
    rw [Nat.sub_add_cancel hq0] at h4
    rw [h4] at hr
    exact ⟨g, o, e, hr, hq0⟩
  have ha16 : a < 16 := by omega
  have hb16 : b < 16 := by omega
  obtain ⟨R, hR⟩ : ∃ R, node seed q 0 = R := ⟨_, rfl⟩
  obtain ⟨LJ, hLJ⟩ : ∃ LJ, leaf seed b = LJ := ⟨_, rfl⟩
  obtain ⟨SA, hSA⟩ : ∃ SA, sgn (msd seed a) l = SA := ⟨_, rfl⟩
  obtain ⟨SB, hSB⟩ : ∃ SB, sgn (msd seed b) l2 = SB := ⟨_, rfl⟩
  obtain ⟨TA, hTA⟩ : ∃ TA, pth seed 0 a q = TA := ⟨_, rfl⟩
  obtain ⟨TB, hTB⟩ : ∃ TB, pth seed 0 b q = TB := ⟨_, rfl⟩
  rw [hR] at hra hrb hR16
  rw [hLJ] at hrec hJ16 hfst
  rw [hSA, hTA] at hsa hra
  rw [hSB, hTB] at hsb hrb
  rw [hSB] at hrec
  rw [hTA] at hfst
  have hqn : ∀ w, (binOp .neq 23 (.agg (bcells R)) (.agg (bcells R))).run Tryd.prog w = .ok (.bool false) w := fun w => by
    have h := neq_short R R hR16 hR16 w
    rw [show (!(R == R)) = false by simp] at h
    exact h
  have hqe : ∀ w, (binOp .eql 23 (.agg (bvals LJ).toArray) (.agg (bvals LJ).toArray)).run Tryd.prog w = .ok (.bool true) w := fun w => by
    have h := eql_short LJ LJ hJ16 hJ16 w
    rw [show (LJ == LJ) = true by simp] at h
    exact h
  have HSZR := Lib.hid (sz16 R hR16)
  have hso : (16 : Nat) = (bcells R).size := by rw [bcells_size, hR16]
  have HSO := Lib.hid hso
  have HSZJ := Lib.hid (sz16 LJ hJ16)
  have hsoj : (16 : Nat) = (bcells LJ).size := by rw [bcells_size, hJ16]
  have HSOJ := Lib.hid hsoj
  have HJ16 := Lib.hid hJ16
  have FST := Lib.hid hfst
  have HWA := Lib.hid (wrap_half a ha16)
  have HWB := Lib.hid (wrap_half b hb16)
  have HAB0 := Lib.hid (show (a : Int) = (b : Int) ↔ a = b by omega)
  have ha0 : ¬ (a : Int) < 0 := hi0
  have hb0 : ¬ (b : Int) < 0 := hj0
  have hwp0 := wrap_pow7 q hq4
  have hwu := wrap_u647 q hq4
  obtain ⟨p, hp⟩ : ∃ p : Int, ((2 ^ q : Nat) : Int) = p := ⟨_, rfl⟩
  obtain ⟨qI, hqI⟩ : ∃ qI : Int, (q : Int) = qI := ⟨_, rfl⟩
  rw [hp, hqI] at hwp0
  obtain ⟨aI, haI⟩ : ∃ aI : Int, (a : Int) = aI := ⟨_, rfl⟩
  obtain ⟨bI, hbI⟩ : ∃ bI : Int, (b : Int) = bI := ⟨_, rfl⟩
  rw [hp] at hip hjp
  rw [hqI] at hwu hh0 hh4 hsa hsb hra hrb ⊢
  rw [haI] at hip hsa hra ha0 HWA HAB0 ⊢
  rw [hbI] at hjp hsb hrb hb0 HWB HAB0 ⊢
  obtain ⟨m, hm⟩ : ∃ m, l.length = m := ⟨_, rfl⟩
  obtain ⟨m2, hm2⟩ : ∃ m2, l2.length = m2 := ⟨_, rfl⟩
  rw [hm] at h2i hlm hsa hra ⊢
  rw [hm2] at h3i hlm2 hsb hrb hrec ⊢
  have SAA := Lib.hid hsa
  have SBB := Lib.hid hsb
  have RA := Lib.hid hra
  have RB := Lib.hid hrb
  have REC := Lib.hid hrec
  have HQI := Lib.hid hqI
  have HIP := Lib.hid (Int.not_le.1 hip)
  have HJP := Lib.hid (Int.not_le.1 hjp)
  have HWP := Lib.hid hwp0
  clear hwp0
  clear ha16 hb16 hsa hsb hro hra hrb hsl2 hrec hR16 hJ16 hfst hR hLJ hSA hSB hTA hTB hso hsoj hp hqI haI hbI haq hbq h16 hq4 hi0 hj0 ha hbb
  clear hm hm2 hsrc hsrc2 env hc hcm hc2 hcm2 hs
  have HH1 := Lib.hid hh1
  have HH2 := Lib.hid hh2
  have hab : ¬ aI = bI := fun e => hh2 (HAB0.out.1 e)
  clear hh1 hh2
  go_enter Tryd.func7, Tryd.ntmps7
  go_wp2_with fail
  refine (AL.out _ (below_new _ _)).mono ?_
  rintro e w1 ⟨rfl, hb1⟩
  have HS1 := Lib.hid (row_on (heap_alloc_new w _) hb1)
  have HB1 := Lib.hid (chain (below_new w _) hb1)
  clear hb1
  go_wp2_with (refine wpList_load_row rfl 23 (.tmp 6) rfl w.heap.size rfl 23 (bcells seed) (0, 0) _ HS1.out Tryd.underlying23 rfl HSS.out ?_)
  any_goals (exfalso; first | (have h9 := ‹wrap64 ((2 : Int) ^ qI.toNat) ≤ aI›; rw [HWP.out] at h9; exact absurd h9 (Int.not_le.2 HIP.out)) | (have h9 := ‹wrap64 ((2 : Int) ^ qI.toNat) ≤ bI›; rw [HWP.out] at h9; exact absurd h9 (Int.not_le.2 HJP.out)) | (have h9 := ‹wrap64 ((2 : Int) ^ qI.toNat) ≤ aI ∨ wrap64 ((2 : Int) ^ qI.toNat) ≤ bI›; rw [HWP.out] at h9; exact h9.elim (fun h => absurd h (Int.not_le.2 HIP.out)) (fun h => absurd h (Int.not_le.2 HJP.out))) | fail)
  refine (SAA.out _ HB1.out).mono ?_
  rintro e w2 ⟨X, PA, pc, rfl, _, hsg, hpt, hb2⟩
  have HS2 := Lib.hid (row_on HS1.out hb2)
  have HB2 := Lib.hid (chain HB1.out hb2)
  have HSG2 := Lib.hid hsg
  have HPT2 := Lib.hid hpt
  clear hb2 hsg hpt HS1 HB1
  go_upto_region 5 with fail
  generalize hV : World.alloc w2 _ = V2
  have hbV : Below w2.heap.size w2 V2 := by rw [← hV]; exact below_new _ _
  have HG3 : RowKit.Hid (V2.heap[w2.heap.size]? = some (.cells #[.int .i64 aI, .slice (some ⟨X, 0, none⟩) 35 35, .slice PA q pc] 31 (0, 0))) := Lib.hid (by rw [← hV]; exact heap_alloc_new _ _)
  have HS3 := Lib.hid (row_on HS2.out hbV)
  have HB3 := Lib.hid (chain HB2.out hbV)
  have HSG3 := Lib.hid (HSG2.out.on hbV)
  have HPT3 := Lib.hid (HPT2.out.on hbV)
  obtain ⟨GA, hGA⟩ : ∃ GA, w2.heap.size = GA := ⟨_, rfl⟩
  rw [hGA] at HG3
  try simp only [hGA]
  clear hV hbV HS2 HB2 HSG2 HPT2 hGA
  go_wp2_with (refine wpList_load_row rfl 23 (.tmp 6) rfl w.heap.size rfl 23 (bcells seed) (0, 0) _ HS3.out Tryd.underlying23 rfl HSS.out ?_)
  refine (SBB.out _ HB3.out).mono ?_
  rintro e w4 ⟨X2, PA2, pc2, rfl, _, hsg, hpt, hb4⟩
  have HB4 := Lib.hid (chain HB3.out hb4)
  have HG4 := Lib.hid (row_on HG3.out hb4)
  have HSG4 := Lib.hid (HSG3.out.on hb4)
  have HPT4 := Lib.hid (HPT3.out.on hb4)
  have HTG4 := Lib.hid hsg
  have HTP4 := Lib.hid hpt
  clear hb4 hsg hpt HS3 HB3 HG3 HSG3 HPT3
  go_upto_region 6 with fail
  generalize hV : World.alloc w4 _ = V4
  have hbV : Below w4.heap.size w4 V4 := by rw [← hV]; exact below_new _ _
  have HT5 : RowKit.Hid (V4.heap[w4.heap.size]? = some (.cells #[.int .i64 bI, .slice (some ⟨X2, 0, none⟩) 35 35, .slice PA2 q pc2] 31 (0, 0))) := Lib.hid (by rw [← hV]; exact heap_alloc_new _ _)
  have HB5 := Lib.hid (chain HB4.out hbV)
  have HG5 := Lib.hid (row_on HG4.out hbV)
  have HSG5 := Lib.hid (HSG4.out.on hbV)
  have HPT5 := Lib.hid (HPT4.out.on hbV)
  have HTG5 := Lib.hid (HTG4.out.on hbV)
  have HTP5 := Lib.hid (HTP4.out.on hbV)
  obtain ⟨GB, hGB⟩ : ∃ GB, w4.heap.size = GB := ⟨_, rfl⟩
  rw [hGB] at HT5
  try simp only [hGB]
  clear hV hbV HB4 HG4 HSG4 HPT4 HTG4 HTP4 hGB
  have hlt5 := (Array.getElem?_eq_some_iff.1 HG5.out).1
  obtain ⟨_, hc0, hc1, hc2⟩ := facts3 HG5.out
  go_wp2_with fail
  refine (RA.out _ X PA pc HB5.out HSG5.out HPT5.out).mono ?_
  rintro e w6 ⟨rfl, hb6⟩
  have HB6 := Lib.hid (chain HB5.out hb6)
  have HG6 := Lib.hid (row_on HG5.out hb6)
  have HT6 := Lib.hid (row_on HT5.out hb6)
  have HPT6 := Lib.hid (HPT5.out.on hb6)
  have HTG6 := Lib.hid (HTG5.out.on hb6)
  have HTP6 := Lib.hid (HTP5.out.on hb6)
  clear hb6 hlt5 hc0 hc1 hc2 HB5 HG5 HT5 HSG5 HPT5 HTG5 HTP5
  go_upto_region 7 with (refine wpList_store_row rfl 23 (.tmp 18) (.tmp 89) rfl w6.heap.size (bcells R) rfl rfl 23 _ (heap_alloc_new _ _) HSZR.out HSO.out (bcells_one _) ?_)
  rw [World.setRow_alloc_new]
  generalize hV : World.alloc w6 _ = V6
  have hbV : Below w6.heap.size w6 V6 := by rw [← hV]; exact below_new _ _
  have HX7 : RowKit.Hid (V6.heap[w6.heap.size]? = some (.cells (bcells R) 23 (0, 0))) := Lib.hid (by rw [← hV]; exact heap_alloc_new _ _)
  have HB7 := Lib.hid (chain HB6.out hbV)
  have HG7 := Lib.hid (row_on HG6.out hbV)
  have HT7 := Lib.hid (row_on HT6.out hbV)
  have HPT7 := Lib.hid (HPT6.out.on hbV)
  have HTG7 := Lib.hid (HTG6.out.on hbV)
  have HTP7 := Lib.hid (HTP6.out.on hbV)
  obtain ⟨XB, hXB⟩ : ∃ XB, w6.heap.size = XB := ⟨_, rfl⟩
  rw [hXB] at HX7
  try simp only [hXB]
  clear hV hbV HB6 HG6 HT6 HPT6 HTG6 HTP6 hXB
  have hlt7 := (Array.getElem?_eq_some_iff.1 HT7.out).1
  obtain ⟨_, hc0, hc1, hc2⟩ := facts3 HT7.out
  go_wp2_with fail
  refine (RB.out _ X2 PA2 pc2 HB7.out HTG7.out HTP7.out).mono ?_
  rintro e w8 ⟨rfl, hb8⟩
  have HB8 := Lib.hid (chain HB7.out hb8)
  have HG8 := Lib.hid (row_on HG7.out hb8)
  have HT8 := Lib.hid (row_on HT7.out hb8)
  have HX8 := Lib.hid (row_on HX7.out hb8)
  have HPT8 := Lib.hid (HPT7.out.on hb8)
  have HTG8 := Lib.hid (HTG7.out.on hb8)
  clear hb8 hlt7 hc0 hc1 hc2 HB7 HG7 HT7 HX7 HPT7 HTG7 HTP7
  go_upto_region 8 with (refine wpList_store_row rfl 23 (.tmp 20) (.tmp 96) rfl w8.heap.size (bcells R) rfl rfl 23 _ (heap_alloc_new _ _) HSZR.out HSO.out (bcells_one _) ?_)
  rw [World.setRow_alloc_new]
  generalize hV : World.alloc w8 _ = V8
  have hbV : Below w8.heap.size w8 V8 := by rw [← hV]; exact below_new _ _
  have HY9 : RowKit.Hid (V8.heap[w8.heap.size]? = some (.cells (bcells R) 23 (0, 0))) := Lib.hid (by rw [← hV]; exact heap_alloc_new _ _)
  have HB9 := Lib.hid (chain HB8.out hbV)
  have HG9 := Lib.hid (row_on HG8.out hbV)
  have HT9 := Lib.hid (row_on HT8.out hbV)
  have HX9 := Lib.hid (row_on HX8.out hbV)
  have HPT9 := Lib.hid (HPT8.out.on hbV)
  have HTG9 := Lib.hid (HTG8.out.on hbV)
  obtain ⟨YB, hYB⟩ : ∃ YB, w8.heap.size = YB := ⟨_, rfl⟩
  rw [hYB] at HY9
  try simp only [hYB]
  clear hV hbV HB8 HG8 HT8 HX8 HPT8 HTG8 hYB
  have hlt9 := (Array.getElem?_eq_some_iff.1 HG9.out).1
  have hlt9' := (Array.getElem?_eq_some_iff.1 HT9.out).1
  obtain ⟨_, hc0, hc1, hc2⟩ := facts3 HG9.out
  obtain ⟨_, hd0, hd1, hd2⟩ := facts3 HT9.out
  have hqI := HQI.out
  go_wp2_with (first | (refine wpList_load_wantedR (by rfl) 23 (.tmp 18) rfl XB rfl 23 (bcells R) (0, 0) _ _ HX9.out Tryd.underlying23 HSZR.out ?_) | (refine wpList_load_wantedR (by rfl) 23 (.tmp 20) rfl YB rfl 23 (bcells R) (0, 0) _ _ HY9.out Tryd.underlying23 HSZR.out ?_))
  any_goals (exfalso; first | (have h8 := ‹¬wrap64 (aI.tdiv 2) = wrap64 (bI.tdiv 2)›; exact h8 (by rw [HWA.out, HWB.out, HH1.out])) | fail)
  refine (REC.out _ X2 HB9.out HTG9.out).mono ?_
  rintro e w10 ⟨rfl, hb10⟩
  have HB10 := Lib.hid (chain HB9.out hb10)
  have HG10 := Lib.hid (row_on HG9.out hb10)
  have HPT10 := Lib.hid (HPT9.out.on hb10)
  clear hb10 hlt9 hlt9' hc0 hc1 hc2 hd0 hd1 hd2 HB9 HG9 HT9 HX9 HY9 HPT9 HTG9
  go_upto_region 12 with (refine wpList_store_row rfl 23 (.tmp 22) (.tmp 139) rfl w10.heap.size (bcells LJ) rfl rfl 23 _ (heap_alloc_new _ _) HSZJ.out HSOJ.out (bcells_one _) ?_)
  rw [World.setRow_alloc_new]
  generalize hV : World.alloc w10 _ = V10
  have hbV : Below w10.heap.size w10 V10 := by rw [← hV]; exact below_new _ _
  have HB11 := Lib.hid (chain HB10.out hbV)
  have hrk : V10.rangeAt w10.heap.size 0 (bvals LJ) := rangeAt_row (by rw [← hV]; exact heap_alloc_new _ _)
  obtain ⟨_, _, _, hc2⟩ := facts3 (row_on HG10.out hbV)
  obtain ⟨g, o, rfl, hr, hq0⟩ := FST.out HH1.out HH2.out PA V10 (HPT10.out.on hbV)
  rw [Nat.zero_mul, Nat.add_zero] at hr
  obtain ⟨KB, hKB⟩ : ∃ KB, w10.heap.size = KB := ⟨_, rfl⟩
  rw [hKB] at hrk
  try simp only [hKB]
  have HS00 : RowKit.Hid (Below V10.heap.size V10 V10.drew ∧ V10.drew.cell? ⟨GA, 2, none⟩ = some (.slice (some ⟨g, o, none⟩) q pc) ∧ V10.drew.rangeAt g o (bvals LJ) ∧ V10.drew.rangeAt KB 0 (bvals LJ)) := Lib.hid ⟨(Below.refl _ _).drew, hc2, hr, hrk⟩
  have hu := Tryd.underlying23
  have hiJ : (Tryd.prog.info? 23).map (·.size) = some (bvals LJ).length := by rw [bvals_len, HJ16.out]; kernel_rfl
  have hq0i : (0 : Int) < qI := by rw [← HQI.out]; omega
  clear hV hbV hrk hc2 hr HB10 HG10 HPT10 hKB
  refine wp_region_held_drew (S := fun z => Below V10.heap.size V10 z ∧ z.cell? ⟨GA, 2, none⟩ = some (.slice (some ⟨g, o, none⟩) q pc) ∧ z.rangeAt g o (bvals LJ) ∧ z.rangeAt KB 0 (bvals LJ)) (by kernel_rfl) HS00.out (fun hHeld => ?_)
  refine wpAnyH_take (i := 0) (oi := { dst := Option.some 141, op := Go.Op.move (Go.Operand.tmp 13), type := 4, pos := "law.go:119", after := #[], guard := Option.none }) (v := ?_) rfl (by kernel_rfl) (by kernel_rfl) (by kernel_rfl) (fun _ _ _ h => h) (Or.inl ⟨by rfl, ?_⟩) hHeld ?_
  rotate_left
  · intro w hSw
    clear hSw
    go_simp
    try with_reducible rfl
  try simp only [Act.put, List.setIfInBounds_toArray, List.set_cons_zero, List.set_cons_succ]
  refine wpAnyH_take (i := 1) (oi := { dst := Option.some 142, op := Go.Op.move (Go.Operand.tmp 141), type := 4, pos := "law.go:119", after := #[{ on := 0, ground := Go.Ground.data }], guard := Option.none }) (v := ?_) rfl (by kernel_rfl) (by kernel_rfl) (by kernel_rfl) (fun _ _ _ h => h) (Or.inl ⟨by rfl, ?_⟩) hHeld ?_
  rotate_left
  · intro w hSw
    clear hSw
    go_simp
    try with_reducible rfl
  try simp only [Act.put, List.setIfInBounds_toArray, List.set_cons_zero, List.set_cons_succ]
  refine wpAnyH_take (i := 2) (oi := { dst := Option.some 143, op := Go.Op.move (Go.Operand.tmp 23), type := 26, pos := "law.go:119", after := #[{ on := 1, ground := Go.Ground.guard }], guard := Option.some (1, Bool.true) }) (v := ?_) rfl (by kernel_rfl) (by kernel_rfl) (by kernel_rfl) (fun _ _ _ h => h) (Or.inl ⟨by rfl, ?_⟩) hHeld ?_
  rotate_left
  · intro w hSw
    clear hSw
    go_simp
    try with_reducible rfl
  try simp only [Act.put, List.setIfInBounds_toArray, List.set_cons_zero, List.set_cons_succ]
  refine wpAnyH_take (i := 3) (oi := { dst := Option.some 144, op := Go.Op.binOp Go.BinOp.eql 26 (Go.Operand.tmp 143) (Go.Operand.const (Go.Value.int Go.IntKind.i64 0)) 26, type := 4, pos := "law.go:119", after := #[{ on := 2, ground := Go.Ground.data }, { on := 1, ground := Go.Ground.guard }], guard := Option.some (1, Bool.true) }) (v := ?_) rfl (by kernel_rfl) (by kernel_rfl) (by kernel_rfl) (fun _ _ _ h => h) (Or.inl ⟨by rfl, ?_⟩) hHeld ?_
  rotate_left
  · intro w hSw
    clear hSw
    go_simp
    try with_reducible rfl
  try simp only [Act.put, List.setIfInBounds_toArray, List.set_cons_zero, List.set_cons_succ]
  refine wpAnyH_take (i := 4) (oi := { dst := Option.some 145, op := Go.Op.pick (Go.Operand.tmp 142) (Go.Operand.tmp 144) (Go.Operand.const (Go.Value.bool Bool.false)), type := 4, pos := "law.go:119", after := #[{ on := 1, ground := Go.Ground.data }, { on := 3, ground := Go.Ground.data }], guard := Option.none }) (v := ?_) rfl (by kernel_rfl) (by kernel_rfl) (by kernel_rfl) (fun _ _ _ h => h) (Or.inl ⟨by rfl, ?_⟩) hHeld ?_
  rotate_left
  · intro w hSw
    clear hSw
    go_simp
    try with_reducible rfl
  try simp only [Act.put, List.setIfInBounds_toArray, List.set_cons_zero, List.set_cons_succ]
  refine wpAnyH_take (i := 5) (oi := { dst := Option.some 146, op := Go.Op.move (Go.Operand.tmp 145), type := 4, pos := "law.go:119", after := #[{ on := 4, ground := Go.Ground.data }, { on := 1, ground := Go.Ground.chain }], guard := Option.none }) (v := ?_) rfl (by kernel_rfl) (by kernel_rfl) (by kernel_rfl) (fun _ _ _ h => h) (Or.inl ⟨by rfl, ?_⟩) hHeld ?_
  rotate_left
  · intro w hSw
    clear hSw
    go_simp
    try with_reducible rfl
  try simp only [Act.put, List.setIfInBounds_toArray, List.set_cons_zero, List.set_cons_succ]
  refine wpAnyH_take (i := 6) (oi := { dst := Option.some 147, op := Go.Op.fieldAddr 31 (Go.Operand.tmp 14) 2, type := 0, pos := "law.go:119", after := #[{ on := 5, ground := Go.Ground.guard }], guard := Option.some (5, Bool.true) }) (v := ?_) rfl (by kernel_rfl) (by kernel_rfl) (by kernel_rfl) (fun _ _ _ h => h) (Or.inl ⟨by rfl, ?_⟩) hHeld ?_
  rotate_left
  · intro w hSw
    clear hSw
    go_simp
    try with_reducible rfl
  try simp only [Act.put, List.setIfInBounds_toArray, List.set_cons_zero, List.set_cons_succ]
  refine wpAnyH_take (i := 7) (oi := { dst := Option.some 148, op := Go.Op.load 29 (Go.Operand.tmp 147), type := 29, pos := "law.go:119", after := #[{ on := 6, ground := Go.Ground.data }, { on := 5, ground := Go.Ground.guard }], guard := Option.some (5, Bool.true) }) (v := ?_) rfl (by kernel_rfl) (by kernel_rfl) (by kernel_rfl) (fun _ _ _ h => h) (Or.inl ⟨by rfl, ?_⟩) hHeld ?_
  rotate_left
  · intro w hSw
    have hfc0 := hSw.2.1
    clear hSw
    go_simp
    try with_reducible rfl
  try simp only [Act.put, List.setIfInBounds_toArray, List.set_cons_zero, List.set_cons_succ]
  refine wpAnyH_take (i := 8) (oi := { dst := Option.some 149, op := Go.Op.indexAddr 29 (Go.Operand.tmp 148) (Go.Operand.const (Go.Value.int Go.IntKind.i64 0)), type := 0, pos := "law.go:119", after := #[{ on := 7, ground := Go.Ground.data }, { on := 5, ground := Go.Ground.guard }], guard := Option.some (5, Bool.true) }) (v := ?_) rfl (by kernel_rfl) (by kernel_rfl) (by kernel_rfl) (fun _ _ _ h => h) (Or.inl ⟨by rfl, ?_⟩) hHeld ?_
  rotate_left
  · intro w hSw
    clear hSw
    go_simp
    try with_reducible rfl
  try simp only [Act.put, List.setIfInBounds_toArray, List.set_cons_zero, List.set_cons_succ]
  refine wpAnyH_take (i := 9) (oi := { dst := Option.some 150, op := Go.Op.load 23 (Go.Operand.tmp 149), type := 23, pos := "law.go:119", after := #[{ on := 8, ground := Go.Ground.data }, { on := 5, ground := Go.Ground.guard }], guard := Option.some (5, Bool.true) }) (v := .agg (bvals LJ).toArray) rfl (by kernel_rfl) (by kernel_rfl) (by kernel_rfl) (fun _ _ _ h => h) (yieldsIf_load_mid (by rfl) _ _ rfl _ _ rfl (bvals LJ) _ (fun w hSw => hSw.2.2.1) hu rfl hiJ) hHeld ?_
  try simp only [Act.put, List.setIfInBounds_toArray, List.set_cons_zero, List.set_cons_succ]
  refine wpAnyH_take (i := 10) (oi := { dst := Option.some 151, op := Go.Op.load 23 (Go.Operand.tmp 22), type := 23, pos := "law.go:119", after := #[{ on := 5, ground := Go.Ground.guard }], guard := Option.some (5, Bool.true) }) (v := .agg (bvals LJ).toArray) rfl (by kernel_rfl) (by kernel_rfl) (by kernel_rfl) (fun _ _ _ h => h) (yieldsIf_load_mid (by rfl) _ _ rfl _ _ rfl (bvals LJ) _ (fun w hSw => hSw.2.2.2) hu rfl hiJ) hHeld ?_
  try simp only [Act.put, List.setIfInBounds_toArray, List.set_cons_zero, List.set_cons_succ]
  refine wpAnyH_take (i := 11) (oi := { dst := Option.some 152, op := Go.Op.binOp Go.BinOp.eql 23 (Go.Operand.tmp 150) (Go.Operand.tmp 151) 23, type := 4, pos := "law.go:119", after := #[{ on := 9, ground := Go.Ground.data }, { on := 10, ground := Go.Ground.data }, { on := 5, ground := Go.Ground.guard }], guard := Option.some (5, Bool.true) }) (v := ?_) rfl (by kernel_rfl) (by kernel_rfl) (by kernel_rfl) (fun _ _ _ h => h) (Or.inl ⟨by rfl, ?_⟩) hHeld ?_
  rotate_left
  · intro w hSw
    clear hSw
    go_simp
    try with_reducible rfl
  try simp only [Act.put, List.setIfInBounds_toArray, List.set_cons_zero, List.set_cons_succ]
  refine wpAnyH_take (i := 12) (oi := { dst := Option.some 153, op := Go.Op.pick (Go.Operand.tmp 146) (Go.Operand.tmp 152) (Go.Operand.const (Go.Value.bool Bool.false)), type := 4, pos := "law.go:119", after := #[{ on := 5, ground := Go.Ground.data }, { on := 11, ground := Go.Ground.data }], guard := Option.none }) (v := ?_) rfl (by kernel_rfl) (by kernel_rfl) (by kernel_rfl) (fun _ _ _ h => h) (Or.inl ⟨by rfl, ?_⟩) hHeld ?_
  rotate_left
  · intro w hSw
    clear hSw
    go_simp
    try with_reducible rfl
  try simp only [Act.put, List.setIfInBounds_toArray, List.set_cons_zero, List.set_cons_succ]
  refine wpAnyH_take (i := 13) (oi := { dst := Option.some 12, op := Go.Op.assign (Go.Operand.tmp 153), type := 4, pos := "law.go:119", after := #[{ on := 12, ground := Go.Ground.data }, { on := 5, ground := Go.Ground.chain }, { on := 0, ground := Go.Ground.phase }, { on := 1, ground := Go.Ground.phase }, { on := 2, ground := Go.Ground.phase }, { on := 3, ground := Go.Ground.phase }, { on := 4, ground := Go.Ground.phase }, { on := 5, ground := Go.Ground.phase }, { on := 6, ground := Go.Ground.phase }, { on := 7, ground := Go.Ground.phase }, { on := 8, ground := Go.Ground.phase }, { on := 9, ground := Go.Ground.phase }, { on := 10, ground := Go.Ground.phase }, { on := 11, ground := Go.Ground.phase }, { on := 12, ground := Go.Ground.phase }], guard := Option.none }) (v := ?_) rfl (by kernel_rfl) (by kernel_rfl) (by kernel_rfl) (fun _ _ _ h => h) (Or.inl ⟨by rfl, ?_⟩) hHeld ?_
  rotate_left
  · intro w hSw
    clear hSw
    go_simp
    try with_reducible rfl
  try simp only [Act.put, List.setIfInBounds_toArray, List.set_cons_zero, List.set_cons_succ]
  refine wpAnyH_done (by kernel_rfl) ?_ _
  go_wp2_with fail
  go_ret
  exact ⟨rfl, HB11.out.drew⟩
end Go.Proofs.YtgnemclpopjhoaaDoor
