/- MerkleVerifies, for every input: each signature by a tree fits its height, has its index, and is verified with its public key, whose root follows from it; outside the limits Sign answers ErrArg and an empty signature. Condition: what the row lists of the program's tables (tied by the card). -/
import Derived.Test.YtgnemclpopjhoaaDoorMkK
import Derived.Test.YtgnemclpopjhoaaDoorOneO
import Derived.Test.YtgnemclpopjhoaaDoorLawKit
import Derived.Test.YtgnemclpopjhoaaDoorCards
namespace Go.Proofs.YtgnemclpopjhoaaDoor
open Go.ChangeShapes Go.WideShapes Go.ChangeAt Go.RowKit Sha Ots
open Go.WideMaps Go.WideElems
set_option linter.unusedVariables false
set_option linter.unusedSimpArgs false
theorem wpList_load_wantedS {ops : Array Oper} {rest : List Oper} {o : Oper} {a : Act} {w : World} {Q : Exit → Act → World → Prop} (hw : Region.wanted o (yielded ops a.tmps) = true) (ty : TypeId) (x : Operand) (ho : o.op = .load ty x)
    (g : Nat) (hx : a.eval x = .pointer (some ⟨g, 0, none⟩)) (t : TypeId) (cs : Array Value) (fr : Nat × Nat) {fs} (hg : w.heap[g]? = some (.cells cs t fr)) (hu : Tryd.prog.underlying ty = some (.struct fs)) (hi : (Tryd.prog.info? ty).map (·.size) = some cs.size)
    (h : wpList Tryd.prog ops Q rest (a.put o.dst (.agg cs)) w) : wpList Tryd.prog ops Q (o :: rest) a w :=
  wpList_step fun K hK => by
    simp only [hw, if_true]
    exact wp_load_row ty x ho g hx t cs fr _ hg hu rfl hi (hK _ _ h)
/-- Key at any height: some key and some error -/
theorem key7_some (seed : List UInt8) (hs : seed.length = 16) (h : Int) : ∃ (R : List UInt8) (k e7 : Int), R.length = 16 ∧ ∀ (w : World), DEnv w → Calls Tryd.prog 10 #[.agg (bcells seed), .int .i64 h] w fun e w' => e = .returned (.tuple #[.agg (pkc R k), .int .i64 e7]) ∧ Below w.heap.size w w' := by
  by_cases hh : 0 ≤ h ∧ h ≤ 4
  · obtain ⟨k, rfl⟩ : ∃ k : Nat, h = (k : Int) := ⟨h.toNat, by omega⟩
    exact ⟨node seed k 0, (k : Int), 0, node_len _ _ _, fun w env => key7_any seed hs k (by omega) w env⟩
  · exact ⟨List.replicate 16 0, 0, 2, rfl, fun w env => key_bad seed h hh w⟩
theorem wrap_pow (h : Nat) (hh : h ≤ 4) : wrap64 ((2 : Int) ^ ((h : Int)).toNat) = ((2 ^ h : Nat) : Int) := by
  obtain rfl | rfl | rfl | rfl | rfl : h = 0 ∨ h = 1 ∨ h = 2 ∨ h = 3 ∨ h = 4 := by omega
  all_goals (unfold wrap64; simp)
theorem wrap_u64 (h : Nat) (hh : h ≤ 4) : IntKind.u64.wrap (h : Int) = (h : Int) := by
  obtain rfl | rfl | rfl | rfl | rfl : h = 0 ∨ h = 1 ∨ h = 2 ∨ h = 3 ∨ h = 4 := by omega
  all_goals rfl
set_option maxRecDepth 100000 in
set_option maxHeartbeats 2000000 in
theorem verifies7_true (seed : List UInt8) (hs : seed.length = 16) (h n : Int) (l : List UInt8) (A : Option Addr) (c : Nat) (hc : l.length ≤ c) (hcm : c ≤ maxLen) (w : World) (hsrc : SrcAt A l w) (env : DEnv w) :
    Calls Tryd.prog 6 #[.agg (bcells seed), .int .i64 h, .int .i64 n, .slice A l.length c] w fun e w' => e = .returned (.bool true) ∧ Below w.heap.size w w' := by
  have hal : ∀ V : World, Below w.heap.size w V → Calls Tryd.prog 18 #[] V fun e w' => e = .returned (.bool true) ∧ Below V.heap.size V w' := fun V hb => alive7_any V (env.on hb)
  have hlm : l.length ≤ 9223372036854775807 := by unfold maxLen at hcm; omega
  have AL := Lib.hid hal
  have HSS := Lib.hid (sz16 seed hs)
  by_cases h2 : l.length ≤ 2000
  · have h2i : ¬ (2000 : Int) < (l.length : Int) := by omega
    by_cases hg : 0 ≤ h ∧ h ≤ 4 ∧ 0 ≤ n ∧ n < ((2 ^ h.toNat : Nat) : Int)
    · obtain ⟨k, rfl⟩ : ∃ k : Nat, h = (k : Int) := ⟨h.toNat, by omega⟩
      obtain ⟨j, rfl⟩ : ∃ j : Nat, n = (j : Int) := ⟨n.toNat, by omega⟩
      rw [Int.toNat_natCast] at hg
      have hk4 : k ≤ 4 := by omega
      have hj : j < 2 ^ k := by omega
      have hke := fun (V : World) (hb : Below w.heap.size w V) => key7_any seed hs k hk4 V (env.on hb)
      have hsi := fun (V : World) (hb : Below w.heap.size w V) => sign7_any seed hs k j hk4 hj l A c (by omega) hc hcm V (hsrc.on hb) (env.on hb)
      have hsl : (sgn (msd seed j) l).length = 35 := by unfold sgn sgD; rw [List.length_map, List.length_range]
      have hpl : (pth seed 0 j k).length = k := pth_length seed k 0 j
      have hfo := root_follows seed l k j hj
      have hro : ∀ (V : World) (X : Nat) (PA : Option Addr) (pc : Nat), Below w.heap.size w V → Shorts (some ⟨X, 0, none⟩) (sgn (msd seed j) l) V → Shorts PA (pth seed 0 j k) V → Calls Tryd.prog 16 #[.int .i64 (k : Int), .slice A l.length c, .agg #[.int .i64 (j : Int), .slice (some ⟨X, 0, none⟩) 35 35, .slice PA k pc]] V fun e w' => e = .returned (.tuple #[.agg (bcells (node seed k 0)), .int .i64 0]) ∧ Below V.heap.size V w' := fun V X PA pc hb h1 h2 => by
        have h3 := root_any k j hk4 hj l A c (by omega) hc hcm (sgn (msd seed j) l) (pth seed 0 j k) (some ⟨X, 0, none⟩) PA 35 pc hsl hpl V (hsrc.on hb) h1 h2 (env.on hb)
        rw [hfo] at h3
        exact h3
      have hR16 : (node seed k 0).length = 16 := node_len _ _ _
      obtain ⟨R, hR⟩ : ∃ R, node seed k 0 = R := ⟨_, rfl⟩
      obtain ⟨SG, hSG⟩ : ∃ SG, sgn (msd seed j) l = SG := ⟨_, rfl⟩
      obtain ⟨PT, hPT⟩ : ∃ PT, pth seed 0 j k = PT := ⟨_, rfl⟩
      rw [hR] at hke hro hR16
      rw [hSG, hPT] at hsi hro
      have hck0 : chkV (k : Int) (j : Int) 35 k = 0 := by
        unfold chkV
        rw [if_pos (by omega), if_pos ⟨⟨by omega, by rw [Int.toNat_natCast]; exact_mod_cast hj⟩, rfl, rfl⟩]
      have hck : ∀ (V : World) (X : Nat) (PA : Option Addr) (pc : Nat), Calls Tryd.prog 15 #[.int .i64 (k : Int), .agg #[.int .i64 (j : Int), .slice (some ⟨X, 0, none⟩) 35 35, .slice PA k pc]] V fun e w' => e = .returned (.int .i64 0) ∧ Below V.heap.size V w' := fun V X PA pc => by
        have h1 := check_any (k : Int) (j : Int) (some ⟨X, 0, none⟩) PA 35 35 k pc V
        rw [hck0] at h1
        exact h1
      have hve : ∀ (V : World) (X : Nat) (PA : Option Addr) (pc : Nat), Below w.heap.size w V → Shorts (some ⟨X, 0, none⟩) SG V → Shorts PA PT V → Calls Tryd.prog 17 #[.agg (pkc R (k : Int)), .slice A l.length c, .agg #[.int .i64 (j : Int), .slice (some ⟨X, 0, none⟩) 35 35, .slice PA k pc]] V fun e w' => e = .returned (.bool true) ∧ Below V.heap.size V w' := fun V X PA pc hb h1 h2 => by
        have h3 := verify7_of R R hR16 hR16 (k : Int) (j : Int) 0 A l.length c (some ⟨X, 0, none⟩) PA 35 35 k pc V (fun U hU => hro U X PA pc (chain hb hU) (h1.on hU) (h2.on hU))
        rw [show (decide ((0 : Int) = 0) && (R == R)) = true by simp] at h3
        exact h3
      have hwu := wrap_u64 k hk4
      have hjp : ¬ ((2 ^ k : Nat) : Int) ≤ (j : Int) := by omega
      obtain ⟨p, hp⟩ : ∃ p : Int, ((2 ^ k : Nat) : Int) = p := ⟨_, rfl⟩
      rw [hp] at hjp
      have hk0 : ¬ (k : Int) < 0 := by omega
      have hk5 : ¬ (4 : Int) < (k : Int) := by omega
      have hj0 : ¬ (j : Int) < 0 := by omega
      have hw2 := wrap_pow k hk4
      rw [hp] at hw2
      have hq : ∀ w, (binOp .eql 23 (.agg (bcells R)) (.agg (bvals R).toArray)).run Tryd.prog w = .ok (.bool true) w := fun w => by
        have h := eql_short R R hR16 hR16 w
        rw [show (R == R) = true by simp] at h
        exact h
      have KE := Lib.hid hke
      have SI := Lib.hid hsi
      have RO := Lib.hid hro
      have CK := Lib.hid hck
      have VE := Lib.hid hve
      have HSZR := Lib.hid (sz16 R hR16)
      have hso : (16 : Nat) = (bcells R).size := by rw [bcells_size, hR16]
      have HSO := Lib.hid hso
      have HSZK := Lib.hid (sz17 R (k : Int) hR16)
      have hsk : (17 : Nat) = (pkc R (k : Int)).size := (pkc_size R _ hR16).symm
      have HSOK := Lib.hid hsk
      have HR16 := Lib.hid hR16
      have HXI : (Tryd.prog.info? 23).map (·.size) = some (bvals R).length := by rw [bvals_len, hR16]; kernel_rfl
      obtain ⟨kI, hkI⟩ : ∃ kI : Int, (k : Int) = kI := ⟨_, rfl⟩
      obtain ⟨jI, hjI⟩ : ∃ jI : Int, (j : Int) = jI := ⟨_, rfl⟩
      obtain ⟨m, hm⟩ : ∃ m, l.length = m := ⟨_, rfl⟩
      rw [hkI] at KE SI RO CK VE HSZK HSOK hw2 hwu hk0 hk5 ⊢
      have HW2 := Lib.hid hw2
      rw [hjI] at SI RO CK VE hjp hj0 ⊢
      rw [hm] at SI RO VE h2i hlm ⊢
      clear hw2 hke hsi hro hck hve hR hSG hPT hsl hpl hfo hck0 hR16 hso hsk hkI hjI hm hp hj hk4 hg hsrc env hs hal h2 hc
      go_enter Tryd.func6, Tryd.ntmps6
      go_wp2_with fail
      refine (AL.out _ (below_new _ _)).mono ?_
      rintro e w1 ⟨rfl, hb1⟩
      have HS1 := Lib.hid (row_on (heap_alloc_new w _) hb1)
      have HB1 := Lib.hid (chain (below_new w _) hb1)
      clear hb1
      go_wp2_with (refine wpList_load_row rfl 23 (.tmp 4) rfl w.heap.size rfl 23 (bcells seed) (0, 0) _ HS1.out Tryd.underlying23 rfl HSS.out ?_)
      refine (KE.out _ HB1.out).mono ?_
      rintro e w2 ⟨rfl, hb2⟩
      have HS2 := Lib.hid (row_on HS1.out hb2)
      have HB2 := Lib.hid (chain HB1.out hb2)
      clear hb2 HS1 HB1
      go_upto_region 5 with (refine wpList_store_row rfl 25 (.tmp 10) (.tmp 29) rfl w2.heap.size (pkc R kI) rfl rfl 25 _ (heap_alloc_new _ _) HSZK.out HSOK.out (pkc_one _ _) ?_)
      rw [World.setRow_alloc_new]
      generalize hV : World.alloc w2 _ = V2
      have hbV : Below w2.heap.size w2 V2 := by rw [← hV]; exact below_new _ _
      have HS3 := Lib.hid (row_on HS2.out hbV)
      have HK3 : RowKit.Hid (V2.heap[w2.heap.size]? = some (.cells (pkc R kI) 25 (0, 0))) := Lib.hid (by rw [← hV]; exact heap_alloc_new _ _)
      have HB3 := Lib.hid (chain HB2.out hbV)
      obtain ⟨KB, hKB⟩ : ∃ KB, w2.heap.size = KB := ⟨_, rfl⟩
      rw [hKB] at HK3
      try simp only [hKB]
      clear hV hbV HS2 HB2 hKB
      go_wp2_with (refine wpList_load_row rfl 23 (.tmp 4) rfl w.heap.size rfl 23 (bcells seed) (0, 0) _ HS3.out Tryd.underlying23 rfl HSS.out ?_)
      refine (SI.out _ HB3.out).mono ?_
      rintro e w4 ⟨X, PA, pc, rfl, _, hsg, hpt, hb4⟩
      have HK4 := Lib.hid (row_on HK3.out hb4)
      have HB4 := Lib.hid (chain HB3.out hb4)
      have HSG := Lib.hid hsg
      have HPT := Lib.hid hpt
      clear hb4 hsg hpt HS3 HK3 HB3
      go_upto_region 6 with fail
      generalize hV : World.alloc w4 _ = V4
      have hbV : Below w4.heap.size w4 V4 := by rw [← hV]; exact below_new _ _
      have HK5 := Lib.hid (row_on HK4.out hbV)
      have HG5 : RowKit.Hid (V4.heap[w4.heap.size]? = some (.cells #[.int .i64 jI, .slice (some ⟨X, 0, none⟩) 35 35, .slice PA k pc] 31 (0, 0))) := Lib.hid (by rw [← hV]; exact heap_alloc_new _ _)
      have HB5 := Lib.hid (chain HB4.out hbV)
      have HSG5 := Lib.hid (HSG.out.on hbV)
      have HPT5 := Lib.hid (HPT.out.on hbV)
      obtain ⟨GB, hGB⟩ : ∃ GB, w4.heap.size = GB := ⟨_, rfl⟩
      rw [hGB] at HG5
      try simp only [hGB]
      clear hV hbV HK4 HB4 HSG HPT hGB
      have hlt5 := (Array.getElem?_eq_some_iff.1 HG5.out).1
      obtain ⟨_, hc0, hc1, hc2⟩ := facts3 HG5.out
      go_wp2_with fail
      · rename_i hcc
        rw [HW2.out] at hcc
        exfalso
        omega
      refine (RO.out _ X PA pc HB5.out HSG5.out HPT5.out).mono ?_
      rintro e w6 ⟨rfl, hb6⟩
      have HK6 := Lib.hid (row_on HK5.out hb6)
      have HG6 := Lib.hid (row_on HG5.out hb6)
      have HB6 := Lib.hid (chain HB5.out hb6)
      have HSG6 := Lib.hid (HSG5.out.on hb6)
      have HPT6 := Lib.hid (HPT5.out.on hb6)
      clear hb6 hlt5 hc0 hc1 hc2 HK5 HG5 HB5 HSG5 HPT5
      go_upto_region 9 with (refine wpList_store_row rfl 23 (.tmp 14) (.tmp 77) rfl w6.heap.size (bcells R) rfl rfl 23 _ (heap_alloc_new _ _) HSZR.out HSO.out (bcells_one _) ?_)
      rw [World.setRow_alloc_new]
      generalize hV : World.alloc w6 _ = V6
      have hbV : Below w6.heap.size w6 V6 := by rw [← hV]; exact below_new _ _
      have HK7 := Lib.hid (row_on HK6.out hbV)
      have HG7 := Lib.hid (row_on HG6.out hbV)
      have HX7 : RowKit.Hid (V6.heap[w6.heap.size]? = some (.cells (bcells R) 23 (0, 0))) := Lib.hid (by rw [← hV]; exact heap_alloc_new _ _)
      have HB7 := Lib.hid (chain HB6.out hbV)
      have HSG7 := Lib.hid (HSG6.out.on hbV)
      have HPT7 := Lib.hid (HPT6.out.on hbV)
      obtain ⟨XB, hXB⟩ : ∃ XB, w6.heap.size = XB := ⟨_, rfl⟩
      rw [hXB] at HX7
      try simp only [hXB]
      clear hV hbV HK6 HG6 HB6 HSG6 HPT6 hXB
      have hlt7 := (Array.getElem?_eq_some_iff.1 HG7.out).1
      obtain ⟨_, hc0, hc1, hc2⟩ := facts3 HG7.out
      have hk16 := cell_pkc HR16.out HK7.out
      have HRG := Lib.hid (rangeAt_pkc HK7.out)
      go_wp2_with (first | (refine wpList_load_wantedR (by rfl) 23 (.tmp 14) rfl XB rfl 23 (bcells R) (0, 0) _ _ HX7.out Tryd.underlying23 HSZR.out ?_) | (refine wpList_load_wantedM (by rfl) 23 (.tmp 100) rfl KB 0 rfl (bvals R) _ _ HRG.out Tryd.underlying23 HXI ?_))
      refine (CK.out _ X PA pc).mono ?_
      rintro e w8 ⟨rfl, hb8⟩
      have HK8 := Lib.hid (row_on HK7.out hb8)
      have HG8 := Lib.hid (row_on HG7.out hb8)
      have HB8 := Lib.hid (chain HB7.out hb8)
      have HSG8 := Lib.hid (HSG7.out.on hb8)
      have HPT8 := Lib.hid (HPT7.out.on hb8)
      clear hb8 hlt7 hc0 hc1 hc2 hk16 HK7 HG7 HB7 HSG7 HPT7 HRG HX7
      have hlt8 := (Array.getElem?_eq_some_iff.1 HG8.out).1
      obtain ⟨_, hc0, hc1, hc2⟩ := facts3 HG8.out
      go_wp2_with (refine wpList_load_wantedS (by rfl) 25 (.tmp 10) rfl KB rfl 25 (pkc R kI) (0, 0) HK8.out Tryd.underlying25 HSZK.out ?_)
      refine (VE.out _ X PA pc HB8.out HSG8.out HPT8.out).mono ?_
      rintro e w9 ⟨rfl, hb9⟩
      have HB9 := Lib.hid (chain HB8.out hb9)
      clear hb9
      go_wp2_with fail
      go_ret
      exact ⟨rfl, HB9.out⟩
    · have hsi := fun (V : World) => sign7_bad seed h n (.slice A l.length c) hg V
      obtain ⟨R, k, e7, hR16, hke⟩ := key7_some seed hs h
      have SI := Lib.hid hsi
      have KE := Lib.hid (fun (V : World) (hb : Below w.heap.size w V) => hke V (env.on hb))
      have HSZK := Lib.hid (sz17 R k hR16)
      have hsk : (17 : Nat) = (pkc R k).size := (pkc_size R _ hR16).symm
      have HSOK := Lib.hid hsk
      clear hsi hke hsk hR16
      by_cases hh0 : h < 0
      · clear hg
        obtain ⟨m, hm⟩ : ∃ m, l.length = m := ⟨_, rfl⟩
        rw [hm] at SI h2i hlm ⊢
        clear hm hsrc env hs hal h2 hc
        go_enter Tryd.func6, Tryd.ntmps6
        go_wp2_with fail
        refine (AL.out _ (below_new _ _)).mono ?_
        rintro e w1 ⟨rfl, hb1⟩
        have HS1 := Lib.hid (row_on (heap_alloc_new w _) hb1)
        have HB1 := Lib.hid (chain (below_new w _) hb1)
        clear hb1
        go_wp2_with (refine wpList_load_row rfl 23 (.tmp 4) rfl w.heap.size rfl 23 (bcells seed) (0, 0) _ HS1.out Tryd.underlying23 rfl HSS.out ?_)
        refine (KE.out _ HB1.out).mono ?_
        rintro e w2 ⟨rfl, hb2⟩
        have HS2 := Lib.hid (row_on HS1.out hb2)
        have HB2 := Lib.hid (chain HB1.out hb2)
        clear hb2 HS1 HB1
        go_upto_region 5 with (refine wpList_store_row rfl 25 (.tmp 10) (.tmp 29) rfl w2.heap.size (pkc R k) rfl rfl 25 _ (heap_alloc_new _ _) HSZK.out HSOK.out (pkc_one _ _) ?_)
        rw [World.setRow_alloc_new]
        generalize hV : World.alloc w2 _ = V2
        have hbV : Below w2.heap.size w2 V2 := by rw [← hV]; exact below_new _ _
        have HS3 := Lib.hid (row_on HS2.out hbV)
        have HB3 := Lib.hid (chain HB2.out hbV)
        obtain ⟨KB, hKB⟩ : ∃ KB, w2.heap.size = KB := ⟨_, rfl⟩
        try simp only [hKB]
        clear hV hbV HS2 HB2 hKB
        go_wp2_with (refine wpList_load_row rfl 23 (.tmp 4) rfl w.heap.size rfl 23 (bcells seed) (0, 0) _ HS3.out Tryd.underlying23 rfl HSS.out ?_)
        refine (SI.out _).mono ?_
        rintro e w4 ⟨rfl, hb4⟩
        have HB4 := Lib.hid (chain HB3.out hb4)
        clear hb4 HS3 HB3
        go_upto_region 6 with fail
        generalize hV : World.alloc w4 _ = V4
        have hbV : Below w4.heap.size w4 V4 := by rw [← hV]; exact below_new _ _
        have HG5 : RowKit.Hid (V4.heap[w4.heap.size]? = some (.cells #[.int .i64 0, .slice none 0 0, .slice none 0 0] 31 (0, 0))) := Lib.hid (by rw [← hV]; exact heap_alloc_new _ _)
        have HB5 := Lib.hid (chain HB4.out hbV)
        obtain ⟨GB, hGB⟩ : ∃ GB, w4.heap.size = GB := ⟨_, rfl⟩
        rw [hGB] at HG5
        try simp only [hGB]
        clear hV hbV HB4 hGB
        have hlt5 := (Array.getElem?_eq_some_iff.1 HG5.out).1
        obtain ⟨_, hc0, hc1, hc2⟩ := facts3 HG5.out
        go_wp2_with fail
        all_goals first
          | (go_ret
             exact ⟨rfl, HB5.out⟩)
          | (rename_i hcc _ _
             exfalso
             obtain ⟨⟨⟨c1, c2⟩, c3⟩, c4⟩ := hcc
             clear c4
             omega)
      · by_cases hh4 : 4 < h
        · clear hg
          obtain ⟨m, hm⟩ : ∃ m, l.length = m := ⟨_, rfl⟩
          rw [hm] at SI h2i hlm ⊢
          clear hm hsrc env hs hal h2 hc
          go_enter Tryd.func6, Tryd.ntmps6
          go_wp2_with fail
          refine (AL.out _ (below_new _ _)).mono ?_
          rintro e w1 ⟨rfl, hb1⟩
          have HS1 := Lib.hid (row_on (heap_alloc_new w _) hb1)
          have HB1 := Lib.hid (chain (below_new w _) hb1)
          clear hb1
          go_wp2_with (refine wpList_load_row rfl 23 (.tmp 4) rfl w.heap.size rfl 23 (bcells seed) (0, 0) _ HS1.out Tryd.underlying23 rfl HSS.out ?_)
          refine (KE.out _ HB1.out).mono ?_
          rintro e w2 ⟨rfl, hb2⟩
          have HS2 := Lib.hid (row_on HS1.out hb2)
          have HB2 := Lib.hid (chain HB1.out hb2)
          clear hb2 HS1 HB1
          go_upto_region 5 with (refine wpList_store_row rfl 25 (.tmp 10) (.tmp 29) rfl w2.heap.size (pkc R k) rfl rfl 25 _ (heap_alloc_new _ _) HSZK.out HSOK.out (pkc_one _ _) ?_)
          rw [World.setRow_alloc_new]
          generalize hV : World.alloc w2 _ = V2
          have hbV : Below w2.heap.size w2 V2 := by rw [← hV]; exact below_new _ _
          have HS3 := Lib.hid (row_on HS2.out hbV)
          have HB3 := Lib.hid (chain HB2.out hbV)
          obtain ⟨KB, hKB⟩ : ∃ KB, w2.heap.size = KB := ⟨_, rfl⟩
          try simp only [hKB]
          clear hV hbV HS2 HB2 hKB
          go_wp2_with (refine wpList_load_row rfl 23 (.tmp 4) rfl w.heap.size rfl 23 (bcells seed) (0, 0) _ HS3.out Tryd.underlying23 rfl HSS.out ?_)
          refine (SI.out _).mono ?_
          rintro e w4 ⟨rfl, hb4⟩
          have HB4 := Lib.hid (chain HB3.out hb4)
          clear hb4 HS3 HB3
          go_upto_region 6 with fail
          generalize hV : World.alloc w4 _ = V4
          have hbV : Below w4.heap.size w4 V4 := by rw [← hV]; exact below_new _ _
          have HG5 : RowKit.Hid (V4.heap[w4.heap.size]? = some (.cells #[.int .i64 0, .slice none 0 0, .slice none 0 0] 31 (0, 0))) := Lib.hid (by rw [← hV]; exact heap_alloc_new _ _)
          have HB5 := Lib.hid (chain HB4.out hbV)
          obtain ⟨GB, hGB⟩ : ∃ GB, w4.heap.size = GB := ⟨_, rfl⟩
          rw [hGB] at HG5
          try simp only [hGB]
          clear hV hbV HB4 hGB
          have hlt5 := (Array.getElem?_eq_some_iff.1 HG5.out).1
          obtain ⟨_, hc0, hc1, hc2⟩ := facts3 HG5.out
          go_wp2_with fail
          all_goals first
            | (go_ret
               exact ⟨rfl, HB5.out⟩)
            | (rename_i hcc _ _
               exfalso
               obtain ⟨⟨⟨c1, c2⟩, c3⟩, c4⟩ := hcc
               clear c4
               omega)
        · by_cases hn0 : n < 0
          · clear hg
            obtain ⟨m, hm⟩ : ∃ m, l.length = m := ⟨_, rfl⟩
            rw [hm] at SI h2i hlm ⊢
            clear hm hsrc env hs hal h2 hc
            go_enter Tryd.func6, Tryd.ntmps6
            go_wp2_with fail
            refine (AL.out _ (below_new _ _)).mono ?_
            rintro e w1 ⟨rfl, hb1⟩
            have HS1 := Lib.hid (row_on (heap_alloc_new w _) hb1)
            have HB1 := Lib.hid (chain (below_new w _) hb1)
            clear hb1
            go_wp2_with (refine wpList_load_row rfl 23 (.tmp 4) rfl w.heap.size rfl 23 (bcells seed) (0, 0) _ HS1.out Tryd.underlying23 rfl HSS.out ?_)
            refine (KE.out _ HB1.out).mono ?_
            rintro e w2 ⟨rfl, hb2⟩
            have HS2 := Lib.hid (row_on HS1.out hb2)
            have HB2 := Lib.hid (chain HB1.out hb2)
            clear hb2 HS1 HB1
            go_upto_region 5 with (refine wpList_store_row rfl 25 (.tmp 10) (.tmp 29) rfl w2.heap.size (pkc R k) rfl rfl 25 _ (heap_alloc_new _ _) HSZK.out HSOK.out (pkc_one _ _) ?_)
            rw [World.setRow_alloc_new]
            generalize hV : World.alloc w2 _ = V2
            have hbV : Below w2.heap.size w2 V2 := by rw [← hV]; exact below_new _ _
            have HS3 := Lib.hid (row_on HS2.out hbV)
            have HB3 := Lib.hid (chain HB2.out hbV)
            obtain ⟨KB, hKB⟩ : ∃ KB, w2.heap.size = KB := ⟨_, rfl⟩
            try simp only [hKB]
            clear hV hbV HS2 HB2 hKB
            go_wp2_with (refine wpList_load_row rfl 23 (.tmp 4) rfl w.heap.size rfl 23 (bcells seed) (0, 0) _ HS3.out Tryd.underlying23 rfl HSS.out ?_)
            refine (SI.out _).mono ?_
            rintro e w4 ⟨rfl, hb4⟩
            have HB4 := Lib.hid (chain HB3.out hb4)
            clear hb4 HS3 HB3
            go_upto_region 6 with fail
            generalize hV : World.alloc w4 _ = V4
            have hbV : Below w4.heap.size w4 V4 := by rw [← hV]; exact below_new _ _
            have HG5 : RowKit.Hid (V4.heap[w4.heap.size]? = some (.cells #[.int .i64 0, .slice none 0 0, .slice none 0 0] 31 (0, 0))) := Lib.hid (by rw [← hV]; exact heap_alloc_new _ _)
            have HB5 := Lib.hid (chain HB4.out hbV)
            obtain ⟨GB, hGB⟩ : ∃ GB, w4.heap.size = GB := ⟨_, rfl⟩
            rw [hGB] at HG5
            try simp only [hGB]
            clear hV hbV HB4 hGB
            have hlt5 := (Array.getElem?_eq_some_iff.1 HG5.out).1
            obtain ⟨_, hc0, hc1, hc2⟩ := facts3 HG5.out
            go_wp2_with fail
            all_goals first
              | (go_ret
                 exact ⟨rfl, HB5.out⟩)
              | (rename_i hcc _ _
                 exfalso
                 obtain ⟨⟨⟨c1, c2⟩, c3⟩, c4⟩ := hcc
                 clear c4
                 omega)
          · obtain ⟨q, rfl⟩ : ∃ q : Nat, h = (q : Int) := ⟨h.toNat, by omega⟩
            have hpn : ((2 ^ q : Nat) : Int) ≤ n := by
              rw [Int.toNat_natCast] at hg
              omega
            have HW2 := Lib.hid (wrap_pow q (by omega))
            obtain ⟨p, hp⟩ : ∃ p : Int, ((2 ^ q : Nat) : Int) = p := ⟨_, rfl⟩
            rw [hp] at hpn HW2
            obtain ⟨qI, hqI⟩ : ∃ qI : Int, (q : Int) = qI := ⟨_, rfl⟩
            rw [hqI] at SI KE HW2 hh0 hh4 ⊢
            clear hg hp hqI
            obtain ⟨m, hm⟩ : ∃ m, l.length = m := ⟨_, rfl⟩
            rw [hm] at SI h2i hlm ⊢
            clear hm hsrc env hs hal h2 hc
            go_enter Tryd.func6, Tryd.ntmps6
            go_wp2_with fail
            refine (AL.out _ (below_new _ _)).mono ?_
            rintro e w1 ⟨rfl, hb1⟩
            have HS1 := Lib.hid (row_on (heap_alloc_new w _) hb1)
            have HB1 := Lib.hid (chain (below_new w _) hb1)
            clear hb1
            go_wp2_with (refine wpList_load_row rfl 23 (.tmp 4) rfl w.heap.size rfl 23 (bcells seed) (0, 0) _ HS1.out Tryd.underlying23 rfl HSS.out ?_)
            refine (KE.out _ HB1.out).mono ?_
            rintro e w2 ⟨rfl, hb2⟩
            have HS2 := Lib.hid (row_on HS1.out hb2)
            have HB2 := Lib.hid (chain HB1.out hb2)
            clear hb2 HS1 HB1
            go_upto_region 5 with (refine wpList_store_row rfl 25 (.tmp 10) (.tmp 29) rfl w2.heap.size (pkc R k) rfl rfl 25 _ (heap_alloc_new _ _) HSZK.out HSOK.out (pkc_one _ _) ?_)
            rw [World.setRow_alloc_new]
            generalize hV : World.alloc w2 _ = V2
            have hbV : Below w2.heap.size w2 V2 := by rw [← hV]; exact below_new _ _
            have HS3 := Lib.hid (row_on HS2.out hbV)
            have HB3 := Lib.hid (chain HB2.out hbV)
            obtain ⟨KB, hKB⟩ : ∃ KB, w2.heap.size = KB := ⟨_, rfl⟩
            try simp only [hKB]
            clear hV hbV HS2 HB2 hKB
            go_wp2_with (refine wpList_load_row rfl 23 (.tmp 4) rfl w.heap.size rfl 23 (bcells seed) (0, 0) _ HS3.out Tryd.underlying23 rfl HSS.out ?_)
            refine (SI.out _).mono ?_
            rintro e w4 ⟨rfl, hb4⟩
            have HB4 := Lib.hid (chain HB3.out hb4)
            clear hb4 HS3 HB3
            go_upto_region 6 with fail
            generalize hV : World.alloc w4 _ = V4
            have hbV : Below w4.heap.size w4 V4 := by rw [← hV]; exact below_new _ _
            have HG5 : RowKit.Hid (V4.heap[w4.heap.size]? = some (.cells #[.int .i64 0, .slice none 0 0, .slice none 0 0] 31 (0, 0))) := Lib.hid (by rw [← hV]; exact heap_alloc_new _ _)
            have HB5 := Lib.hid (chain HB4.out hbV)
            obtain ⟨GB, hGB⟩ : ∃ GB, w4.heap.size = GB := ⟨_, rfl⟩
            rw [hGB] at HG5
            try simp only [hGB]
            clear hV hbV HB4 hGB
            have hlt5 := (Array.getElem?_eq_some_iff.1 HG5.out).1
            obtain ⟨_, hc0, hc1, hc2⟩ := facts3 HG5.out
            go_wp2_with fail
            all_goals first
              | (go_ret
                 exact ⟨rfl, HB5.out⟩)
              | (exfalso
                 have hcc := ‹((0 ≤ qI ∧ qI ≤ 4) ∧ 0 ≤ n) ∧ n < wrap64 (2 ^ qI.toNat)›
                 have c4 := hcc.2
                 rw [HW2.out] at c4
                 exact absurd hpn (Int.not_le.2 c4))
  · have h6 : (2000 : Int) < (l.length : Int) := by omega
    obtain ⟨m, hm⟩ : ∃ m, l.length = m := ⟨_, rfl⟩
    rw [hm] at h6 hlm ⊢
    clear hal h2 hm hsrc env hc hcm hs
    go_enter Tryd.func6, Tryd.ntmps6
    go_wp2_with fail
    refine (AL.out _ (below_new _ _)).mono ?_
    rintro e w1 ⟨rfl, hb1⟩
    have HB1 := Lib.hid (chain (below_new w _) hb1)
    clear hb1
    go_wp2_with fail
    go_ret
    exact ⟨rfl, HB1.out⟩
set_option maxRecDepth 100000 in
theorem verifies7_lifted (os : Os) (started : os.Started) (H : Type) (enc : TypeId × Value → H) :
    ReturnsInHanded {} Tryd.checked os 6 .any (fun w args => (Rows.merkleVerifiesSpec.pre enc Tryd.prog Tryd.f6 Rows.merkleVerifiesRow.domain false w args ∧ laidMet Tryd.prog laidDig w) ∧ sizedMet enc Tryd.prog Tryd.f6 (OpenSpec.ofChange Rows.merkleVerifiesSpec) false w args)
      (Rows.merkleVerifiesSpec.post enc Tryd.prog Tryd.f6 false true false false) := by
  refine returns_laid (C := Tryd.checked) (X := fun w => laidMet Tryd.prog laidDig w) (fun _ _ hh h => h.of_heap hh) Tryd.own started (by kernel_rfl) Tryd.func6
    (ChangeSpec.witness_at (enc := enc) (C := Tryd.checked) (os := os) (X := fun w _ => laidMet Tryd.prog laidDig w) false (laidWorldD os) #[.agg #[.int .u8 0, .int .u8 0, .int .u8 0, .int .u8 0, .int .u8 0, .int .u8 0, .int .u8 0, .int .u8 0, .int .u8 0, .int .u8 0, .int .u8 0, .int .u8 0, .int .u8 0, .int .u8 0, .int .u8 0, .int .u8 0], .int .i64 0, .int .i64 0, .slice none 0 0] 8 rfl (by kernel_rfl) (by kernel_rfl) (by kernel_rfl) (by kernel_rfl) (by kernel_rfl) (laidWorldD_met os _)) ?_
  intro W base args ds gs before hval0 hW hL hsh
  have hval : ∀ (j : Nat) t v, Tryd.f6.params[j]? = some t → args[j]? = some v → Value.okWide Tryd.prog W .any base t v := hval0
  have env := denv_of_laid hL
  have hW' := hW
  obtain ⟨p, q, hA0, hV, rfl, hfz, hnd⟩ := hW
  have hA : DataW.TrodAll enc Tryd.prog W 0 (fun _ => true) true Tryd.f6.params.toList args.toList ds p := hA0
  rw [Tryd.params6] at hA hval
  obtain ⟨v0, vs0, d0, ds0, p0, q0, hargs, rfl, rfl, h0, r0⟩ := trodAll_cons hA
  obtain ⟨v1, vs1, d1, ds1, p1, q1, rfl, rfl, rfl, h1, r1⟩ := trodAll_cons r0
  obtain ⟨v2, vs2, d2, ds2, p2, q2, rfl, rfl, rfl, h2, r2⟩ := trodAll_cons r1
  obtain ⟨v3, vs3, d3, ds3, p3, q3, rfl, rfl, rfl, h3, r3⟩ := trodAll_cons r2
  obtain ⟨rfl, rfl, rfl⟩ := trodAll_nil r3
  obtain rfl : args = #[v0, v1, v2, v3] := by cases args; simp_all
  obtain ⟨rfl, rfl⟩ := trodVars_none hV
  obtain ⟨l0, g0, rfl⟩ := open_short (hval 0 23 v0 rfl rfl) h0
  obtain ⟨a1, rfl, e1, f1, w1⟩ := open_int Tryd.underlying3 (hval 1 3 v1 rfl rfl) h1
  obtain ⟨a2, rfl, e2, f2, w2⟩ := open_int Tryd.underlying3 (hval 2 3 v2 rfl rfl) h2
  obtain ⟨A3, l3, c3, rfl, hc3, hm3, hs3⟩ := open_bytes (hval 3 42 v3 rfl rfl) h3
  refine (verifies7_true l0 g0 a1 a2 l3 A3 c3 hc3 hm3 W hs3 env).mono fun e W' ⟨he, hg⟩ => ?_
  subst he
  exact ⟨_, rfl, law_post Tryd.laidOut (by kernel_rfl) (by kernel_rfl) hW' hg (trodAll_cons_mk (shut_bool Tryd.underlying4 _) trodAll_mk0) rfl rfl⟩
/-- the row -/
theorem verifies7_row : Rows.MerkleVerifiesSaid :=
  OpenClaim.holds_of_wide 6 Tryd.f6 rfl rfl rfl rfl rfl rfl rfl ⟨rfl, rfl, rfl, rfl, rfl⟩ rfl rfl rfl rfl rfl (by kernel_rfl) Tryd.func6 (by kernel_rfl)
    (of_decide_eq_true (by kernel_rfl)) (by unfold Func.isWrapper; rw [if_neg (of_decide_eq_false (by kernel_rfl))]; exact ⟨rfl, rfl⟩)
    (fun os started H enc _ => verifies7_lifted os started H enc)
/-- the statement -/
theorem verifies7_holds : Rows.MerkleVerifiesCardSaid :=
  Claim7.holds_tied_plain_at .later [] [.data, .data] true (true, "5c5ef3e3a029439297996ab8412620a6e742b6df2095b9fbc6f4dac02e25c51a") false
    verifies7_row (fun _ h => by cases h) (by kernel_rfl) (fun _ h => by cases h) merkleVerifies_row_tie rfl ⟨rfl, rfl⟩ (by kernel_rfl) rfl
    (fun f fn hf hfn => by
      obtain rfl : f = 6 := Option.some.inj ((show Tryd.prog.funcNamed "gatepath/gatepathlaw07.MerkleVerifies" = some 6 by kernel_rfl).symm.trans hf) |>.symm
      obtain rfl : fn = Tryd.f6 := (Option.some.inj (Tryd.func6.symm.trans hfn)).symm
      exact ⟨by kernel_rfl, fun j t ht => by
        rw [Tryd.params6] at ht
        have hp : t = 23 ∨ t = 3 ∨ t = 42 := by
          rcases j with _ | _ | _ | _ | j
          · left; simpa using ht.symm
          · right; left; simpa using ht.symm
          · right; left; simpa using ht.symm
          · right; right; simpa using ht.symm
          · simp at ht
        rcases hp with rfl | rfl | rfl
        · exact (show Tryd.prog.wantsStandIn 23 = false by kernel_rfl)
        · exact (show Tryd.prog.wantsStandIn 3 = false by kernel_rfl)
        · exact (show Tryd.prog.wantsStandIn 42 = false by kernel_rfl)⟩)
    (by kernel_rfl)
#print axioms verifies7_holds
end Go.Proofs.YtgnemclpopjhoaaDoor
