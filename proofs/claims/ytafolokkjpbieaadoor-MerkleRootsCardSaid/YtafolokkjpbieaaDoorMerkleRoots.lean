/- MerkleRoots, for every input: the program's Check, Root and Verify return what the reference's return, at a copy of the signature, which stays as it was. Condition: what the row lists of the program's tables (tied by the card). -/
import Derived.Test.YtafolokkjpbieaaDoorMkRfg
import Derived.Test.YtafolokkjpbieaaDoorLawKit
import Derived.Test.YtafolokkjpbieaaDoorCards
namespace Go.Proofs.YtafolokkjpbieaaDoor
open Go.ChangeShapes Go.WideShapes Go.ChangeAt Go.RowKit Sha Ots
open Go.WideMaps Go.WideElems
set_option linter.unusedVariables false
set_option linter.unusedSimpArgs false
theorem great_no (n : Int) (CA PA : Option Addr) (cl cc pl pc : Nat) (h : ¬ (100 < cl ∨ 100 < pl)) (w : World) :
    Calls Tryd.prog 19 #[.agg #[.int .i64 n, .slice CA cl cc, .slice PA pl pc]] w fun e w' => e = .returned (.bool false) ∧ Below w.heap.size w w' := by
  have h1 := great_any n CA PA cl cc pl pc w
  rw [decide_eq_false h] at h1
  exact h1
theorem great_yes (n : Int) (CA PA : Option Addr) (cl cc pl pc : Nat) (h : 100 < cl ∨ 100 < pl) (w : World) :
    Calls Tryd.prog 19 #[.agg #[.int .i64 n, .slice CA cl cc, .slice PA pl pc]] w fun e w' => e = .returned (.bool true) ∧ Below w.heap.size w w' := by
  have h1 := great_any n CA PA cl cc pl pc w
  rw [decide_eq_true h] at h1
  exact h1
theorem range3 {z : World} {g : Nat} {a b c : Value} {T : TypeId} {fr : Nat × Nat} (h : z.heap[g]? = some (.cells #[a, b, c] T fr)) : z.rangeAt g 0 [a, b, c] := fun j v hv => by
  rw [Nat.zero_add, cell_of_row _ _ _ _ _ _ h, List.getElem?_toArray]
  exact hv
theorem range17 {z : World} {g : Nat} {R : List UInt8} {x : Int} {T : TypeId} {fr : Nat × Nat} (h : z.heap[g]? = some (.cells (pkc R x) T fr)) : z.rangeAt g 0 (bvals R ++ [Value.int .i64 x]) := fun j v hv => by
  rw [Nat.zero_add, cell_of_row _ _ _ _ _ _ h]
  unfold pkc
  rw [List.getElem?_toArray]
  exact hv
set_option maxRecDepth 100000 in
set_option maxHeartbeats 4000000 in
theorem roots7_true (R0 : List UInt8) (g0 : R0.length = 16) (x0 h : Int) (l : List UInt8) (A : Option Addr) (c : Nat) (hc : l.length ≤ c) (hcm : c ≤ maxLen) (hA : A = none → c = 0) (n : Int) (CA PA : Option Addr) (cs ps : List (List UInt8)) (cc pc : Nat) (hcl : cs.length ≤ cc) (hclm : cc ≤ maxLen) (hcn : CA = none → cc = 0) (hpl : ps.length ≤ pc) (hplm : pc ≤ maxLen) (hpn : PA = none → pc = 0)
    (w : World) (hsrc : SrcAt A l w) (hsc : Shorts CA cs w) (hsp : Shorts PA ps w) (env : DEnv w) :
    Calls Tryd.prog 5 #[.agg (pkc R0 x0), .int .i64 h, .slice A l.length c, .agg #[.int .i64 n, .slice CA cs.length cc, .slice PA ps.length pc]] w fun e w' => e = .returned (.bool true) ∧ Below w.heap.size w w' := by
  have hlm : l.length ≤ 9223372036854775807 := by unfold maxLen at hcm; omega
  have hb2 : Below w.heap.size w ((w.alloc (.cells (pkc R0 x0) 25)).alloc (.cells #[.int .i64 n, .slice CA cs.length cc, .slice PA ps.length pc] 31)) := (below_new w _).trans ((below_new _ _).mono (by simp))
  have hrA := heap_alloc2_old w (.cells (pkc R0 x0) 25) (.cells #[.int .i64 n, .slice CA cs.length cc, .slice PA ps.length pc] 31)
  have hrG := heap_alloc2_new w (.cells (pkc R0 x0) 25) (.cells #[.int .i64 n, .slice CA cs.length cc, .slice PA ps.length pc] 31)
  have HB0 := Lib.hid hb2
  have HA0 := Lib.hid hrA
  have HG0 := Lib.hid hrG
  clear hb2 hrA hrG
  by_cases h2 : l.length ≤ 2000
  · have h2i : ¬ (2000 : Int) < (l.length : Int) := by omega
    by_cases hg : 100 < cs.length ∨ 100 < ps.length
    · have GR := Lib.hid (fun V => great_yes n CA PA cs.length cc ps.length pc hg V)
      obtain ⟨m, hm⟩ : ∃ m, l.length = m := ⟨_, rfl⟩
      rw [hm] at h2i hlm ⊢
      clear h2 hg hm hsrc env hc hcm hsc hsp hA
      go_enter Tryd.func5, Tryd.ntmps5
      go_wp2_with fail
      refine (GR.out _).mono ?_
      rintro e w1 ⟨rfl, hb1⟩
      have HB1 := Lib.hid (chain HB0.out hb1)
      clear hb1
      go_wp2_with fail
      go_ret
      exact ⟨rfl, HB1.out⟩
    · have GR := Lib.hid (fun V => great_no n CA PA cs.length cc ps.length pc hg V)
      have htw := fun (V : World) (hb : Below w.heap.size w V) => twin_ref n CA PA cs ps cc pc hcn hpn ⟨by omega, by omega⟩ V (hsc.on hb) (hsp.on hb)
      have hro := fun (A1 A2 : Option Addr) (c1 c2 : Nat) (V : World) (hb : Below w.heap.size w V) (s1 : Shorts A1 cs V) (s2 : Shorts A2 ps V) => root_all l A c (by omega) hc hcm n A1 A2 cs ps c1 c2 V (hsrc.on hb) s1 s2 (env.on hb) h
      have hrr := fun (V : World) (hb : Below w.heap.size w V) => root_ref_all l A c (by omega) hc hA n CA PA cs ps cc pc V (hsrc.on hb) (hsc.on hb) (hsp.on hb) h
      have hckp := fun (A1 A2 : Option Addr) (c1 c2 : Nat) (V : World) => check_any h n A1 A2 cs.length c1 ps.length c2 V
      have hckr := fun (V : World) => check_ref h n CA PA cs.length cc ps.length pc V
      have hva := fun (A1 A2 : Option Addr) (c1 c2 : Nat) (V : World) (hb : Below w.heap.size w V) (s1 : Shorts A1 cs V) (s2 : Shorts A2 ps V) => verify_all R0 g0 x0 l A c (by omega) hc hcm n A1 A2 cs ps c1 c2 V (hsrc.on hb) s1 s2 (env.on hb)
      have hvr := fun (V : World) (hb : Below w.heap.size w V) => verify_ref_all R0 g0 x0 l A c (by omega) hc hA n CA PA cs ps cc pc V (hsrc.on hb) (hsc.on hb) (hsp.on hb)
      have hsm := fun (A1 A2 : Option Addr) (c1 c2 : Nat) (V : World) (hb : Below w.heap.size w V) (s1 : Shorts A1 cs V) (s2 : Shorts A2 ps V) => same7_ref n A1 A2 CA PA cs ps c1 c2 cc pc ⟨by omega, by omega⟩ V s1 s2 (hsc.on hb) (hsp.on hb)
      unfold TwinPost at htw
      have hX16 := rtV_len l cs ps h n
      obtain ⟨X, hX⟩ : ∃ X, rtV l cs ps h n = X := ⟨_, rfl⟩
      obtain ⟨ea, hea⟩ : ∃ ea, chkV h n cs.length ps.length = ea := ⟨_, rfl⟩
      obtain ⟨bv, hbv⟩ : ∃ bv, (decide (chkV x0 n cs.length ps.length = 0) && (rtV l cs ps x0 n == R0)) = bv := ⟨_, rfl⟩
      rw [hX] at hX16
      simp only [hX, hea] at hro hrr
      simp only [hea] at hckp hckr
      simp only [hbv] at hva hvr
      have hq : ∀ w : World, (binOp .eql 23 (.agg (bvals X).toArray) (.agg (bvals X).toArray)).run Tryd.prog w = .ok (.bool true) w := fun w => by
        have h := eql_short X X hX16 hX16 w
        rw [show (X == X) = true by simp] at h
        exact h
      have HXI : RowKit.Hid ((Tryd.prog.info? 23).map (·.size) = some (bvals X).length) := Lib.hid (by rw [bvals_len, hX16]; kernel_rfl)
      have HPI : RowKit.Hid ((Tryd.prog.info? 25).map (·.size) = some (bvals R0 ++ [Value.int .i64 x0]).length) := Lib.hid (by rw [List.length_append, bvals_len, g0]; kernel_rfl)
      have HSZX := Lib.hid (sz16 X hX16)
      have hso : (16 : Nat) = (bcells X).size := by rw [bcells_size, hX16]
      have HSO := Lib.hid hso
      have TW := Lib.hid htw
      have RO := Lib.hid hro
      have RR := Lib.hid hrr
      have CKP := Lib.hid hckp
      have CKR := Lib.hid hckr
      have VA := Lib.hid hva
      have VR := Lib.hid hvr
      have SM := Lib.hid hsm
      obtain ⟨m, hm⟩ : ∃ m, l.length = m := ⟨_, rfl⟩
      obtain ⟨cl, hcl2⟩ : ∃ cl, cs.length = cl := ⟨_, rfl⟩
      obtain ⟨pl, hpl2⟩ : ∃ pl, ps.length = pl := ⟨_, rfl⟩
      rw [hm] at h2i hlm RO RR VA VR ⊢
      rw [hcl2] at GR TW RO RR CKP CKR VA VR SM HB0 HA0 HG0 ⊢
      rw [hpl2] at GR TW RO RR CKP CKR VA VR SM HB0 HA0 HG0 ⊢
      clear h2 hg htw hro hrr hckp hckr hva hvr hsm hX hea hbv hX16 hso hm hcl2 hpl2 hcl hclm hcn hpl hplm hpn hsrc env hc hcm hsc hsp g0 hA
      go_enter Tryd.func5, Tryd.ntmps5
      go_wp2_with fail
      refine (GR.out _).mono ?_
      rintro e w1 ⟨rfl, hb1⟩
      have HB1 := Lib.hid (chain HB0.out hb1)
      have HA1 := Lib.hid (row_on HA0.out hb1)
      have HG1 := Lib.hid (row_on HG0.out hb1)
      clear HB0 HA0 HG0
      clear hb1
      have hlt := (Array.getElem?_eq_some_iff.1 HG1.out).1
      obtain ⟨_, hc0, hc1, hc2⟩ := facts3 HG1.out
      go_wp2_with fail
      refine (TW.out _ HB1.out).mono ?_
      rintro e w2 ⟨A1, A2, c1, c2, rfl, hs1, hs2, hb2⟩
      clear hc0 hc1 hc2 hlt
      have HB2 := Lib.hid (chain HB1.out hb2)
      have HA2 := Lib.hid (row_on HA1.out hb2)
      have HG2 := Lib.hid (row_on HG1.out hb2)
      clear HB1 HA1 HG1
      clear hb2
      go_upto_region 4 with (fail)
      generalize hV : World.alloc w2 _ = V2
      have hbV : Below w2.heap.size w2 V2 := by rw [← hV]; exact below_new _ _
      have HO3 : RowKit.Hid (V2.heap[w2.heap.size]? = some (.cells #[.int .i64 n, .slice A1 cl c1, .slice A2 pl c2] 31 (0, 0))) := Lib.hid (by rw [← hV]; exact heap_alloc_new _ _)
      have HT1 := Lib.hid (hs1.on hbV)
      have HT2 := Lib.hid (hs2.on hbV)
      have HB3 := Lib.hid (chain HB2.out hbV)
      have HA3 := Lib.hid (row_on HA2.out hbV)
      have HG3 := Lib.hid (row_on HG2.out hbV)
      clear HB2 HA2 HG2
      obtain ⟨OB, hOB⟩ : ∃ OB, w2.heap.size = OB := ⟨_, rfl⟩
      rw [hOB] at HO3
      try simp only [hOB]
      clear hV hbV hOB hs1 hs2
      have hlt := (Array.getElem?_eq_some_iff.1 HO3.out).1
      obtain ⟨_, hc0, hc1, hc2⟩ := facts3 HO3.out
      go_wp2_with fail
      refine (RO.out A1 A2 c1 c2 _ HB3.out HT1.out HT2.out).mono ?_
      rintro e w4 ⟨rfl, hb4⟩
      clear hc0 hc1 hc2 hlt
      have HB4 := Lib.hid (chain HB3.out hb4)
      have HA4 := Lib.hid (row_on HA3.out hb4)
      have HG4 := Lib.hid (row_on HG3.out hb4)
      have HO4 := Lib.hid (row_on HO3.out hb4)
      clear HB3 HA3 HG3 HO3
      have HU1 := Lib.hid (HT1.out.on hb4)
      have HU2 := Lib.hid (HT2.out.on hb4)
      clear hb4 HT1 HT2
      go_upto_region 5 with (refine wpList_store_row rfl 23 (.tmp 10) (.tmp 28) rfl w4.heap.size (bcells X) rfl rfl 23 _ (heap_alloc_new _ _) HSZX.out HSO.out (bcells_one _) ?_)
      rw [World.setRow_alloc_new]
      generalize hV : World.alloc w4 _ = V4
      have hbV : Below w4.heap.size w4 V4 := by rw [← hV]; exact below_new _ _
      have HX5 : RowKit.Hid (V4.heap[w4.heap.size]? = some (.cells (bcells X) 23 (0, 0))) := Lib.hid (by rw [← hV]; exact heap_alloc_new _ _)
      have HB5 := Lib.hid (chain HB4.out hbV)
      have HA5 := Lib.hid (row_on HA4.out hbV)
      have HG5 := Lib.hid (row_on HG4.out hbV)
      have HO5 := Lib.hid (row_on HO4.out hbV)
      clear HB4 HA4 HG4 HO4
      have HT1 := Lib.hid (HU1.out.on hbV)
      have HT2 := Lib.hid (HU2.out.on hbV)
      obtain ⟨XB, hXB⟩ : ∃ XB, w4.heap.size = XB := ⟨_, rfl⟩
      rw [hXB] at HX5
      try simp only [hXB]
      clear hV hbV hXB HU1 HU2
      have hlt := (Array.getElem?_eq_some_iff.1 HG5.out).1
      obtain ⟨_, hc0, hc1, hc2⟩ := facts3 HG5.out
      go_wp2_with fail
      refine (RR.out _ HB5.out).mono ?_
      rintro e w6 ⟨rfl, hb6⟩
      clear hc0 hc1 hc2 hlt
      have HB6 := Lib.hid (chain HB5.out hb6)
      have HA6 := Lib.hid (row_on HA5.out hb6)
      have HG6 := Lib.hid (row_on HG5.out hb6)
      have HO6 := Lib.hid (row_on HO5.out hb6)
      have HX6 := Lib.hid (row_on HX5.out hb6)
      clear HB5 HA5 HG5 HO5 HX5
      have HU1 := Lib.hid (HT1.out.on hb6)
      have HU2 := Lib.hid (HT2.out.on hb6)
      clear hb6 HT1 HT2
      go_upto_region 6 with (refine wpList_store_row rfl 23 (.tmp 12) (.tmp 35) rfl w6.heap.size (bcells X) rfl rfl 23 _ (heap_alloc_new _ _) HSZX.out HSO.out (bcells_one _) ?_)
      rw [World.setRow_alloc_new]
      generalize hV : World.alloc w6 _ = V6
      have hbV : Below w6.heap.size w6 V6 := by rw [← hV]; exact below_new _ _
      have HY7 : RowKit.Hid (V6.heap[w6.heap.size]? = some (.cells (bcells X) 23 (0, 0))) := Lib.hid (by rw [← hV]; exact heap_alloc_new _ _)
      have HB7 := Lib.hid (chain HB6.out hbV)
      have HA7 := Lib.hid (row_on HA6.out hbV)
      have HG7 := Lib.hid (row_on HG6.out hbV)
      have HO7 := Lib.hid (row_on HO6.out hbV)
      have HX7 := Lib.hid (row_on HX6.out hbV)
      clear HB6 HA6 HG6 HO6 HX6
      have HT1 := Lib.hid (HU1.out.on hbV)
      have HT2 := Lib.hid (HU2.out.on hbV)
      obtain ⟨YB, hYB⟩ : ∃ YB, w6.heap.size = YB := ⟨_, rfl⟩
      rw [hYB] at HY7
      try simp only [hYB]
      clear hV hbV hYB HU1 HU2
      obtain ⟨U, hU⟩ : ∃ U, V6.drew = U := ⟨_, rfl⟩
      have hbU : Below V6.heap.size V6 U := by rw [← hU]; exact (Below.refl _ _).drew
      have HBU := Lib.hid (chain HB7.out hbU)
      have HAU := Lib.hid (row_on HA7.out hbU)
      have HGU := Lib.hid (row_on HG7.out hbU)
      have HOU := Lib.hid (row_on HO7.out hbU)
      have HXU := Lib.hid (row_on HX7.out hbU)
      have HYU := Lib.hid (row_on HY7.out hbU)
      clear HB7 HA7 HG7 HO7 HX7 HY7
      have HS1 := Lib.hid (HT1.out.on hbU)
      have HS2 := Lib.hid (HT2.out.on hbU)
      have mkS : ∀ z, Below U.heap.size U z → z.rangeAt XB 0 (bvals X) ∧ z.rangeAt YB 0 (bvals X) ∧ z.rangeAt OB 0 [Value.int .i64 n, .slice A1 cl c1, .slice A2 pl c2] ∧ z.rangeAt (w.heap.size + 1) 0 [Value.int .i64 n, .slice CA cl cc, .slice PA pl pc] ∧ z.rangeAt w.heap.size 0 (bvals R0 ++ [Value.int .i64 x0]) := fun z hz => ⟨rangeAt_row0 (row_on HXU.out hz), rangeAt_row0 (row_on HYU.out hz), range3 (row_on HOU.out hz), range3 (row_on HGU.out hz), range17 (row_on HAU.out hz)⟩
      have hS0 : V6.drew.rangeAt XB 0 (bvals X) ∧ V6.drew.rangeAt YB 0 (bvals X) ∧ V6.drew.rangeAt OB 0 [Value.int .i64 n, .slice A1 cl c1, .slice A2 pl c2] ∧ V6.drew.rangeAt (w.heap.size + 1) 0 [Value.int .i64 n, .slice CA cl cc, .slice PA pl pc] ∧ V6.drew.rangeAt w.heap.size 0 (bvals R0 ++ [Value.int .i64 x0]) := by rw [hU]; exact mkS _ (Below.refl _ _)
      clear hbU HT1 HT2
      refine wp_region_held_drew (S := fun z => z.rangeAt XB 0 (bvals X) ∧ z.rangeAt YB 0 (bvals X) ∧ z.rangeAt OB 0 [Value.int .i64 n, .slice A1 cl c1, .slice A2 pl c2] ∧ z.rangeAt (w.heap.size + 1) 0 [Value.int .i64 n, .slice CA cl cc, .slice PA pl pc] ∧ z.rangeAt w.heap.size 0 (bvals R0 ++ [Value.int .i64 x0])) (by kernel_rfl) hS0 (fun hHeld => ?_)
      rw [hU] at hHeld ⊢
      clear hS0 hU
      refine wpAnyH_take (i := 0) (oi := { dst := Option.some 37, op := Go.Op.load 23 (Go.Operand.tmp 10), type := 23, pos := "law.go:34", after := #[], guard := Option.none }) (v := .agg (bvals X).toArray) rfl (by kernel_rfl) (by kernel_rfl) (by kernel_rfl) (fun _ _ _ h => h) (yieldsIf_load_mid (by rfl) _ _ rfl _ _ rfl (bvals X) _ (fun w hSw => hSw.1) Tryd.underlying23 rfl HXI.out) hHeld ?_
      try simp only [Act.put, List.setIfInBounds_toArray, List.set_cons_zero, List.set_cons_succ]
      refine wpAnyH_take (i := 1) (oi := { dst := Option.some 38, op := Go.Op.load 23 (Go.Operand.tmp 12), type := 23, pos := "law.go:34", after := #[], guard := Option.none }) (v := .agg (bvals X).toArray) rfl (by kernel_rfl) (by kernel_rfl) (by kernel_rfl) (fun _ _ _ h => h) (yieldsIf_load_mid (by rfl) _ _ rfl _ _ rfl (bvals X) _ (fun w hSw => hSw.2.1) Tryd.underlying23 rfl HXI.out) hHeld ?_
      try simp only [Act.put, List.setIfInBounds_toArray, List.set_cons_zero, List.set_cons_succ]
      refine wpAnyH_take (i := 2) (oi := { dst := Option.some 39, op := Go.Op.binOp Go.BinOp.eql 23 (Go.Operand.tmp 37) (Go.Operand.tmp 38) 23, type := 4, pos := "law.go:34", after := #[{ on := 0, ground := Go.Ground.data }, { on := 1, ground := Go.Ground.data }], guard := Option.none }) (v := ?_) rfl (by kernel_rfl) (by kernel_rfl) (by kernel_rfl) (fun _ _ _ h => h) (Or.inl ⟨by rfl, ?_⟩) hHeld ?_
      rotate_left
      · intro w hSw
        clear hSw
        go_simp
        try with_reducible rfl
      try simp only [Act.put, List.setIfInBounds_toArray, List.set_cons_zero, List.set_cons_succ]
      refine wpAnyH_take (i := 3) (oi := { dst := Option.some 40, op := Go.Op.move (Go.Operand.tmp 39), type := 4, pos := "law.go:34", after := #[{ on := 2, ground := Go.Ground.data }], guard := Option.none }) (v := ?_) rfl (by kernel_rfl) (by kernel_rfl) (by kernel_rfl) (fun _ _ _ h => h) (Or.inl ⟨by rfl, ?_⟩) hHeld ?_
      rotate_left
      · intro w hSw
        clear hSw
        go_simp
        try with_reducible rfl
      try simp only [Act.put, List.setIfInBounds_toArray, List.set_cons_zero, List.set_cons_succ]
      refine wpAnyH_take (i := 4) (oi := { dst := Option.some 41, op := Go.Op.move (Go.Operand.tmp 11), type := 26, pos := "law.go:34", after := #[{ on := 3, ground := Go.Ground.guard }], guard := Option.some (3, Bool.true) }) (v := ?_) rfl (by kernel_rfl) (by kernel_rfl) (by kernel_rfl) (fun _ _ _ h => h) (Or.inl ⟨by rfl, ?_⟩) hHeld ?_
      rotate_left
      · intro w hSw
        clear hSw
        go_simp
        try with_reducible rfl
      try simp only [Act.put, List.setIfInBounds_toArray, List.set_cons_zero, List.set_cons_succ]
      refine wpAnyH_take (i := 5) (oi := { dst := Option.some 42, op := Go.Op.move (Go.Operand.tmp 13), type := 3, pos := "law.go:34", after := #[{ on := 3, ground := Go.Ground.guard }], guard := Option.some (3, Bool.true) }) (v := ?_) rfl (by kernel_rfl) (by kernel_rfl) (by kernel_rfl) (fun _ _ _ h => h) (Or.inl ⟨by rfl, ?_⟩) hHeld ?_
      rotate_left
      · intro w hSw
        clear hSw
        go_simp
        try with_reducible rfl
      try simp only [Act.put, List.setIfInBounds_toArray, List.set_cons_zero, List.set_cons_succ]
      refine wpAnyH_take (i := 6) (oi := { dst := Option.some 43, op := Go.Op.binOp Go.BinOp.eql 3 (Go.Operand.tmp 41) (Go.Operand.tmp 42) 3, type := 4, pos := "law.go:34", after := #[{ on := 4, ground := Go.Ground.data }, { on := 5, ground := Go.Ground.data }, { on := 3, ground := Go.Ground.guard }], guard := Option.some (3, Bool.true) }) (v := ?_) rfl (by kernel_rfl) (by kernel_rfl) (by kernel_rfl) (fun _ _ _ h => h) (Or.inl ⟨by rfl, ?_⟩) hHeld ?_
      rotate_left
      · intro w hSw
        clear hSw
        go_simp
        try with_reducible rfl
      try simp only [Act.put, List.setIfInBounds_toArray, List.set_cons_zero, List.set_cons_succ]
      refine wpAnyH_take (i := 7) (oi := { dst := Option.some 44, op := Go.Op.pick (Go.Operand.tmp 40) (Go.Operand.tmp 43) (Go.Operand.const (Go.Value.bool Bool.false)), type := 4, pos := "law.go:34", after := #[{ on := 3, ground := Go.Ground.data }, { on := 6, ground := Go.Ground.data }], guard := Option.none }) (v := ?_) rfl (by kernel_rfl) (by kernel_rfl) (by kernel_rfl) (fun _ _ _ h => h) (Or.inl ⟨by rfl, ?_⟩) hHeld ?_
      rotate_left
      · intro w hSw
        clear hSw
        go_simp
        try with_reducible rfl
      try simp only [Act.put, List.setIfInBounds_toArray, List.set_cons_zero, List.set_cons_succ]
      refine wpAnyH_take (i := 8) (oi := { dst := Option.some 45, op := Go.Op.move (Go.Operand.tmp 44), type := 4, pos := "law.go:34", after := #[{ on := 7, ground := Go.Ground.data }, { on := 3, ground := Go.Ground.chain }], guard := Option.none }) (v := ?_) rfl (by kernel_rfl) (by kernel_rfl) (by kernel_rfl) (fun _ _ _ h => h) (Or.inl ⟨by rfl, ?_⟩) hHeld ?_
      rotate_left
      · intro w hSw
        clear hSw
        go_simp
        try with_reducible rfl
      try simp only [Act.put, List.setIfInBounds_toArray, List.set_cons_zero, List.set_cons_succ]
      refine wpAnyH_take (i := 9) (oi := { dst := Option.some 46, op := Go.Op.move (Go.Operand.tmp 1), type := 3, pos := "law.go:34", after := #[{ on := 8, ground := Go.Ground.guard }], guard := Option.some (8, Bool.true) }) (v := ?_) rfl (by kernel_rfl) (by kernel_rfl) (by kernel_rfl) (fun _ _ _ h => h) (Or.inl ⟨by rfl, ?_⟩) hHeld ?_
      rotate_left
      · intro w hSw
        clear hSw
        go_simp
        try with_reducible rfl
      try simp only [Act.put, List.setIfInBounds_toArray, List.set_cons_zero, List.set_cons_succ]
      refine wpAnyH_take (i := 10) (oi := { dst := Option.some 47, op := Go.Op.load 31 (Go.Operand.tmp 9), type := 31, pos := "law.go:34", after := #[{ on := 8, ground := Go.Ground.guard }], guard := Option.some (8, Bool.true) }) (v := .agg ([Value.int .i64 n, .slice A1 cl c1, .slice A2 pl c2]).toArray) rfl (by kernel_rfl) (by kernel_rfl) (by kernel_rfl) (fun _ _ _ h => h) (yieldsIf_load_mid (by rfl) _ _ rfl _ _ rfl ([Value.int .i64 n, .slice A1 cl c1, .slice A2 pl c2]) _ (fun w hSw => hSw.2.2.1) Tryd.underlying31 rfl (sz3 _ _ _)) hHeld ?_
      try simp only [Act.put, List.setIfInBounds_toArray, List.set_cons_zero, List.set_cons_succ]
      refine wpAnyH_take (i := 12) (oi := { dst := Option.some 49, op := Go.Op.move (Go.Operand.tmp 1), type := 3, pos := "law.go:34", after := #[{ on := 8, ground := Go.Ground.guard }], guard := Option.some (8, Bool.true) }) (v := ?_) rfl (by kernel_rfl) (by kernel_rfl) (by kernel_rfl) (fun _ _ _ h => h) (Or.inl ⟨by rfl, ?_⟩) hHeld ?_
      rotate_left
      · intro w hSw
        clear hSw
        go_simp
        try with_reducible rfl
      try simp only [Act.put, List.setIfInBounds_toArray, List.set_cons_zero, List.set_cons_succ]
      refine wpAnyH_take (i := 13) (oi := { dst := Option.some 50, op := Go.Op.load 31 (Go.Operand.tmp 7), type := 31, pos := "law.go:34", after := #[{ on := 8, ground := Go.Ground.guard }], guard := Option.some (8, Bool.true) }) (v := .agg ([Value.int .i64 n, .slice CA cl cc, .slice PA pl pc]).toArray) rfl (by kernel_rfl) (by kernel_rfl) (by kernel_rfl) (fun _ _ _ h => h) (yieldsIf_load_mid (by rfl) _ _ rfl _ _ rfl ([Value.int .i64 n, .slice CA cl cc, .slice PA pl pc]) _ (fun w hSw => hSw.2.2.2.1) Tryd.underlying31 rfl (sz3 _ _ _)) hHeld ?_
      try simp only [Act.put, List.setIfInBounds_toArray, List.set_cons_zero, List.set_cons_succ]
      refine wpAnyH_ready (rs := [11]) (by kernel_rfl) (by simp) (AllReadyH.cons (o := { dst := Option.some 48, op := Go.Op.call { callee := Go.Callee.value (Go.Operand.func 11), args := #[Go.Operand.tmp 46, Go.Operand.tmp 47], argTypes := #[3, 31] }, type := 26, pos := "law.go:34", after := #[{ on := 9, ground := Go.Ground.data }, { on := 10, ground := Go.Ground.data }, { on := 8, ground := Go.Ground.chain }, { on := 8, ground := Go.Ground.guard }], guard := Option.some (8, Bool.true) }) rfl (fun K hK => ?_) AllReadyH.nil)
      go_simp
      refine (CKP.out A1 A2 c1 c2 _).mono ?_
      rintro e z11 ⟨rfl, hz11⟩
      have hy11 : Below U.heap.size U z11 := hz11
      go_simp
      refine hK.out _ _ (mkS _ hy11) (fun hHeld2 => ?_)
      clear hK K hHeld
      have hHeld := hHeld2
      clear hHeld2 hz11
      try simp only [Act.put, List.setIfInBounds_toArray, List.set_cons_zero, List.set_cons_succ]
      refine wpAnyH_ready (rs := [14]) (by kernel_rfl) (by simp) (AllReadyH.cons (o := { dst := Option.some 51, op := Go.Op.call { callee := Go.Callee.value (Go.Operand.func 21), args := #[Go.Operand.tmp 49, Go.Operand.tmp 50], argTypes := #[3, 31] }, type := 3, pos := "law.go:34", after := #[{ on := 12, ground := Go.Ground.data }, { on := 13, ground := Go.Ground.data }, { on := 11, ground := Go.Ground.chain }, { on := 8, ground := Go.Ground.guard }], guard := Option.some (8, Bool.true) }) rfl (fun K hK => ?_) AllReadyH.nil)
      go_simp
      refine (CKR.out _).mono ?_
      rintro e z14 ⟨rfl, hz14⟩
      have hy14 : Below U.heap.size U z14 := chain hy11 hz14
      go_simp
      refine hK.out _ _ (mkS _ hy14) (fun hHeld2 => ?_)
      clear hK K hHeld
      have hHeld := hHeld2
      clear hHeld2 hz14
      try simp only [Act.put, List.setIfInBounds_toArray, List.set_cons_zero, List.set_cons_succ]
      refine wpAnyH_take (i := 15) (oi := { dst := Option.some 52, op := Go.Op.binOp Go.BinOp.eql 3 (Go.Operand.tmp 48) (Go.Operand.tmp 51) 3, type := 4, pos := "law.go:34", after := #[{ on := 11, ground := Go.Ground.data }, { on := 14, ground := Go.Ground.data }, { on := 8, ground := Go.Ground.guard }], guard := Option.some (8, Bool.true) }) (v := ?_) rfl (by kernel_rfl) (by kernel_rfl) (by kernel_rfl) (fun _ _ _ h => h) (Or.inl ⟨by rfl, ?_⟩) hHeld ?_
      rotate_left
      · intro w hSw
        clear hSw
        go_simp
        try with_reducible rfl
      try simp only [Act.put, List.setIfInBounds_toArray, List.set_cons_zero, List.set_cons_succ]
      refine wpAnyH_take (i := 16) (oi := { dst := Option.some 53, op := Go.Op.pick (Go.Operand.tmp 45) (Go.Operand.tmp 52) (Go.Operand.const (Go.Value.bool Bool.false)), type := 4, pos := "law.go:34", after := #[{ on := 8, ground := Go.Ground.data }, { on := 15, ground := Go.Ground.data }], guard := Option.none }) (v := ?_) rfl (by kernel_rfl) (by kernel_rfl) (by kernel_rfl) (fun _ _ _ h => h) (Or.inl ⟨by rfl, ?_⟩) hHeld ?_
      rotate_left
      · intro w hSw
        clear hSw
        go_simp
        try with_reducible rfl
      try simp only [Act.put, List.setIfInBounds_toArray, List.set_cons_zero, List.set_cons_succ]
      refine wpAnyH_take (i := 17) (oi := { dst := Option.some 54, op := Go.Op.move (Go.Operand.tmp 53), type := 4, pos := "law.go:34", after := #[{ on := 16, ground := Go.Ground.data }, { on := 14, ground := Go.Ground.chain }], guard := Option.none }) (v := ?_) rfl (by kernel_rfl) (by kernel_rfl) (by kernel_rfl) (fun _ _ _ h => h) (Or.inl ⟨by rfl, ?_⟩) hHeld ?_
      rotate_left
      · intro w hSw
        clear hSw
        go_simp
        try with_reducible rfl
      try simp only [Act.put, List.setIfInBounds_toArray, List.set_cons_zero, List.set_cons_succ]
      refine wpAnyH_take (i := 18) (oi := { dst := Option.some 55, op := Go.Op.load 25 (Go.Operand.tmp 4), type := 25, pos := "law.go:34", after := #[{ on := 17, ground := Go.Ground.guard }], guard := Option.some (17, Bool.true) }) (v := .agg ((bvals R0 ++ [Value.int .i64 x0])).toArray) rfl (by kernel_rfl) (by kernel_rfl) (by kernel_rfl) (fun _ _ _ h => h) (yieldsIf_load_mid (by rfl) _ _ rfl _ _ rfl ((bvals R0 ++ [Value.int .i64 x0])) _ (fun w hSw => hSw.2.2.2.2) Tryd.underlying25 rfl HPI.out) hHeld ?_
      try simp only [Act.put, List.setIfInBounds_toArray, List.set_cons_zero, List.set_cons_succ]
      refine wpAnyH_take (i := 19) (oi := { dst := Option.some 56, op := Go.Op.move (Go.Operand.tmp 2), type := 42, pos := "law.go:34", after := #[{ on := 17, ground := Go.Ground.guard }], guard := Option.some (17, Bool.true) }) (v := ?_) rfl (by kernel_rfl) (by kernel_rfl) (by kernel_rfl) (fun _ _ _ h => h) (Or.inl ⟨by rfl, ?_⟩) hHeld ?_
      rotate_left
      · intro w hSw
        clear hSw
        go_simp
        try with_reducible rfl
      try simp only [Act.put, List.setIfInBounds_toArray, List.set_cons_zero, List.set_cons_succ]
      refine wpAnyH_take (i := 20) (oi := { dst := Option.some 57, op := Go.Op.load 31 (Go.Operand.tmp 9), type := 31, pos := "law.go:34", after := #[{ on := 17, ground := Go.Ground.guard }], guard := Option.some (17, Bool.true) }) (v := .agg ([Value.int .i64 n, .slice A1 cl c1, .slice A2 pl c2]).toArray) rfl (by kernel_rfl) (by kernel_rfl) (by kernel_rfl) (fun _ _ _ h => h) (yieldsIf_load_mid (by rfl) _ _ rfl _ _ rfl ([Value.int .i64 n, .slice A1 cl c1, .slice A2 pl c2]) _ (fun w hSw => hSw.2.2.1) Tryd.underlying31 rfl (sz3 _ _ _)) hHeld ?_
      try simp only [Act.put, List.setIfInBounds_toArray, List.set_cons_zero, List.set_cons_succ]
      refine wpAnyH_take (i := 22) (oi := { dst := Option.some 59, op := Go.Op.load 25 (Go.Operand.tmp 4), type := 25, pos := "law.go:34", after := #[{ on := 17, ground := Go.Ground.guard }], guard := Option.some (17, Bool.true) }) (v := .agg ((bvals R0 ++ [Value.int .i64 x0])).toArray) rfl (by kernel_rfl) (by kernel_rfl) (by kernel_rfl) (fun _ _ _ h => h) (yieldsIf_load_mid (by rfl) _ _ rfl _ _ rfl ((bvals R0 ++ [Value.int .i64 x0])) _ (fun w hSw => hSw.2.2.2.2) Tryd.underlying25 rfl HPI.out) hHeld ?_
      try simp only [Act.put, List.setIfInBounds_toArray, List.set_cons_zero, List.set_cons_succ]
      refine wpAnyH_take (i := 23) (oi := { dst := Option.some 60, op := Go.Op.move (Go.Operand.tmp 2), type := 42, pos := "law.go:34", after := #[{ on := 17, ground := Go.Ground.guard }], guard := Option.some (17, Bool.true) }) (v := ?_) rfl (by kernel_rfl) (by kernel_rfl) (by kernel_rfl) (fun _ _ _ h => h) (Or.inl ⟨by rfl, ?_⟩) hHeld ?_
      rotate_left
      · intro w hSw
        clear hSw
        go_simp
        try with_reducible rfl
      try simp only [Act.put, List.setIfInBounds_toArray, List.set_cons_zero, List.set_cons_succ]
      refine wpAnyH_take (i := 24) (oi := { dst := Option.some 61, op := Go.Op.load 31 (Go.Operand.tmp 7), type := 31, pos := "law.go:34", after := #[{ on := 17, ground := Go.Ground.guard }], guard := Option.some (17, Bool.true) }) (v := .agg ([Value.int .i64 n, .slice CA cl cc, .slice PA pl pc]).toArray) rfl (by kernel_rfl) (by kernel_rfl) (by kernel_rfl) (fun _ _ _ h => h) (yieldsIf_load_mid (by rfl) _ _ rfl _ _ rfl ([Value.int .i64 n, .slice CA cl cc, .slice PA pl pc]) _ (fun w hSw => hSw.2.2.2.1) Tryd.underlying31 rfl (sz3 _ _ _)) hHeld ?_
      try simp only [Act.put, List.setIfInBounds_toArray, List.set_cons_zero, List.set_cons_succ]
      refine wpAnyH_ready (rs := [21]) (by kernel_rfl) (by simp) (AllReadyH.cons (o := { dst := Option.some 58, op := Go.Op.call { callee := Go.Callee.value (Go.Operand.func 13), args := #[Go.Operand.tmp 55, Go.Operand.tmp 56, Go.Operand.tmp 57], argTypes := #[25, 42, 31] }, type := 4, pos := "law.go:34", after := #[{ on := 18, ground := Go.Ground.data }, { on := 19, ground := Go.Ground.data }, { on := 20, ground := Go.Ground.data }, { on := 17, ground := Go.Ground.chain }, { on := 17, ground := Go.Ground.guard }], guard := Option.some (17, Bool.true) }) rfl (fun K hK => ?_) AllReadyH.nil)
      go_simp
      refine (VA.out A1 A2 c1 c2 _ (chain HBU.out hy14) (HS1.out.on hy14) (HS2.out.on hy14)).mono ?_
      rintro e z21 ⟨rfl, hz21⟩
      have hy21 : Below U.heap.size U z21 := chain hy14 hz21
      go_simp
      refine hK.out _ _ (mkS _ hy21) (fun hHeld2 => ?_)
      clear hK K hHeld
      have hHeld := hHeld2
      clear hHeld2 hz21
      try simp only [Act.put, List.setIfInBounds_toArray, List.set_cons_zero, List.set_cons_succ]
      refine wpAnyH_ready (rs := [25]) (by kernel_rfl) (by simp) (AllReadyH.cons (o := { dst := Option.some 62, op := Go.Op.call { callee := Go.Callee.value (Go.Operand.func 22), args := #[Go.Operand.tmp 59, Go.Operand.tmp 60, Go.Operand.tmp 61], argTypes := #[25, 42, 31] }, type := 4, pos := "law.go:34", after := #[{ on := 22, ground := Go.Ground.data }, { on := 23, ground := Go.Ground.data }, { on := 24, ground := Go.Ground.data }, { on := 21, ground := Go.Ground.chain }, { on := 17, ground := Go.Ground.guard }], guard := Option.some (17, Bool.true) }) rfl (fun K hK => ?_) AllReadyH.nil)
      go_simp
      refine (VR.out _ (chain HBU.out hy21)).mono ?_
      rintro e z25 ⟨rfl, hz25⟩
      have hy25 : Below U.heap.size U z25 := chain hy21 hz25
      go_simp
      refine hK.out _ _ (mkS _ hy25) (fun hHeld2 => ?_)
      clear hK K hHeld
      have hHeld := hHeld2
      clear hHeld2 hz25
      try simp only [Act.put, List.setIfInBounds_toArray, List.set_cons_zero, List.set_cons_succ]
      refine wpAnyH_take (i := 26) (oi := { dst := Option.some 63, op := Go.Op.binOp Go.BinOp.eql 4 (Go.Operand.tmp 58) (Go.Operand.tmp 62) 4, type := 4, pos := "law.go:34", after := #[{ on := 21, ground := Go.Ground.data }, { on := 25, ground := Go.Ground.data }, { on := 17, ground := Go.Ground.guard }], guard := Option.some (17, Bool.true) }) (v := ?_) rfl (by kernel_rfl) (by kernel_rfl) (by kernel_rfl) (fun _ _ _ h => h) (Or.inl ⟨by rfl, ?_⟩) hHeld ?_
      rotate_left
      · intro w hSw
        clear hSw
        go_simp
        try with_reducible rfl
      try simp only [Act.put, List.setIfInBounds_toArray, List.set_cons_zero, List.set_cons_succ]
      refine wpAnyH_take (i := 27) (oi := { dst := Option.some 64, op := Go.Op.pick (Go.Operand.tmp 54) (Go.Operand.tmp 63) (Go.Operand.const (Go.Value.bool Bool.false)), type := 4, pos := "law.go:34", after := #[{ on := 17, ground := Go.Ground.data }, { on := 26, ground := Go.Ground.data }], guard := Option.none }) (v := ?_) rfl (by kernel_rfl) (by kernel_rfl) (by kernel_rfl) (fun _ _ _ h => h) (Or.inl ⟨by rfl, ?_⟩) hHeld ?_
      rotate_left
      · intro w hSw
        clear hSw
        go_simp
        try with_reducible rfl
      try simp only [Act.put, List.setIfInBounds_toArray, List.set_cons_zero, List.set_cons_succ]
      refine wpAnyH_take (i := 28) (oi := { dst := Option.some 65, op := Go.Op.move (Go.Operand.tmp 64), type := 4, pos := "law.go:34", after := #[{ on := 27, ground := Go.Ground.data }, { on := 25, ground := Go.Ground.chain }], guard := Option.none }) (v := ?_) rfl (by kernel_rfl) (by kernel_rfl) (by kernel_rfl) (fun _ _ _ h => h) (Or.inl ⟨by rfl, ?_⟩) hHeld ?_
      rotate_left
      · intro w hSw
        clear hSw
        go_simp
        try with_reducible rfl
      try simp only [Act.put, List.setIfInBounds_toArray, List.set_cons_zero, List.set_cons_succ]
      refine wpAnyH_take (i := 29) (oi := { dst := Option.some 66, op := Go.Op.load 31 (Go.Operand.tmp 9), type := 31, pos := "law.go:34", after := #[{ on := 28, ground := Go.Ground.guard }], guard := Option.some (28, Bool.true) }) (v := .agg ([Value.int .i64 n, .slice A1 cl c1, .slice A2 pl c2]).toArray) rfl (by kernel_rfl) (by kernel_rfl) (by kernel_rfl) (fun _ _ _ h => h) (yieldsIf_load_mid (by rfl) _ _ rfl _ _ rfl ([Value.int .i64 n, .slice A1 cl c1, .slice A2 pl c2]) _ (fun w hSw => hSw.2.2.1) Tryd.underlying31 rfl (sz3 _ _ _)) hHeld ?_
      try simp only [Act.put, List.setIfInBounds_toArray, List.set_cons_zero, List.set_cons_succ]
      refine wpAnyH_take (i := 30) (oi := { dst := Option.some 67, op := Go.Op.load 31 (Go.Operand.tmp 7), type := 31, pos := "law.go:34", after := #[{ on := 28, ground := Go.Ground.guard }], guard := Option.some (28, Bool.true) }) (v := .agg ([Value.int .i64 n, .slice CA cl cc, .slice PA pl pc]).toArray) rfl (by kernel_rfl) (by kernel_rfl) (by kernel_rfl) (fun _ _ _ h => h) (yieldsIf_load_mid (by rfl) _ _ rfl _ _ rfl ([Value.int .i64 n, .slice CA cl cc, .slice PA pl pc]) _ (fun w hSw => hSw.2.2.2.1) Tryd.underlying31 rfl (sz3 _ _ _)) hHeld ?_
      try simp only [Act.put, List.setIfInBounds_toArray, List.set_cons_zero, List.set_cons_succ]
      refine wpAnyH_ready (rs := [31]) (by kernel_rfl) (by simp) (AllReadyH.cons (o := { dst := Option.some 68, op := Go.Op.call { callee := Go.Callee.value (Go.Operand.func 17), args := #[Go.Operand.tmp 66, Go.Operand.tmp 67], argTypes := #[31, 31] }, type := 4, pos := "law.go:34", after := #[{ on := 29, ground := Go.Ground.data }, { on := 30, ground := Go.Ground.data }, { on := 28, ground := Go.Ground.chain }, { on := 28, ground := Go.Ground.guard }], guard := Option.some (28, Bool.true) }) rfl (fun K hK => ?_) AllReadyH.nil)
      go_simp
      refine (SM.out A1 A2 c1 c2 _ (chain HBU.out hy25) (HS1.out.on hy25) (HS2.out.on hy25)).mono ?_
      rintro e z31 ⟨rfl, hz31⟩
      have hy31 : Below U.heap.size U z31 := chain hy25 hz31
      go_simp
      refine hK.out _ _ (mkS _ hy31) (fun hHeld2 => ?_)
      clear hK K hHeld
      have hHeld := hHeld2
      clear hHeld2 hz31
      try simp only [Act.put, List.setIfInBounds_toArray, List.set_cons_zero, List.set_cons_succ]
      refine wpAnyH_take (i := 32) (oi := { dst := Option.some 69, op := Go.Op.pick (Go.Operand.tmp 65) (Go.Operand.tmp 68) (Go.Operand.const (Go.Value.bool Bool.false)), type := 4, pos := "law.go:34", after := #[{ on := 28, ground := Go.Ground.data }, { on := 31, ground := Go.Ground.data }], guard := Option.none }) (v := ?_) rfl (by kernel_rfl) (by kernel_rfl) (by kernel_rfl) (fun _ _ _ h => h) (Or.inl ⟨by rfl, ?_⟩) hHeld ?_
      rotate_left
      · intro w hSw
        clear hSw
        go_simp
        try with_reducible rfl
      try simp only [Act.put, List.setIfInBounds_toArray, List.set_cons_zero, List.set_cons_succ]
      refine wpAnyH_take (i := 33) (oi := { dst := Option.some 8, op := Go.Op.assign (Go.Operand.tmp 69), type := 4, pos := "law.go:34", after := #[{ on := 32, ground := Go.Ground.data }, { on := 31, ground := Go.Ground.chain }, { on := 0, ground := Go.Ground.phase }, { on := 1, ground := Go.Ground.phase }, { on := 2, ground := Go.Ground.phase }, { on := 3, ground := Go.Ground.phase }, { on := 4, ground := Go.Ground.phase }, { on := 5, ground := Go.Ground.phase }, { on := 6, ground := Go.Ground.phase }, { on := 7, ground := Go.Ground.phase }, { on := 8, ground := Go.Ground.phase }, { on := 9, ground := Go.Ground.phase }, { on := 10, ground := Go.Ground.phase }, { on := 11, ground := Go.Ground.phase }, { on := 12, ground := Go.Ground.phase }, { on := 13, ground := Go.Ground.phase }, { on := 14, ground := Go.Ground.phase }, { on := 15, ground := Go.Ground.phase }, { on := 16, ground := Go.Ground.phase }, { on := 17, ground := Go.Ground.phase }, { on := 18, ground := Go.Ground.phase }, { on := 19, ground := Go.Ground.phase }, { on := 20, ground := Go.Ground.phase }, { on := 21, ground := Go.Ground.phase }, { on := 22, ground := Go.Ground.phase }, { on := 23, ground := Go.Ground.phase }, { on := 24, ground := Go.Ground.phase }, { on := 25, ground := Go.Ground.phase }, { on := 26, ground := Go.Ground.phase }, { on := 27, ground := Go.Ground.phase }, { on := 28, ground := Go.Ground.phase }, { on := 29, ground := Go.Ground.phase }, { on := 30, ground := Go.Ground.phase }, { on := 31, ground := Go.Ground.phase }, { on := 32, ground := Go.Ground.phase }], guard := Option.none }) (v := ?_) rfl (by kernel_rfl) (by kernel_rfl) (by kernel_rfl) (fun _ _ _ h => h) (Or.inl ⟨by rfl, ?_⟩) hHeld ?_
      rotate_left
      · intro w hSw
        clear hSw
        go_simp
        try with_reducible rfl
      try simp only [Act.put, List.setIfInBounds_toArray, List.set_cons_zero, List.set_cons_succ]
      refine wpAnyH_done (by kernel_rfl) ?_ _
      clear mkS
      go_wp2_with fail
      go_ret
      exact ⟨rfl, chain HBU.out hy31⟩
  · have h6 : (2000 : Int) < (l.length : Int) := by omega
    obtain ⟨m, hm⟩ : ∃ m, l.length = m := ⟨_, rfl⟩
    rw [hm] at h6 hlm ⊢
    clear h2 hm hsrc env hc hcm hsc hsp hA
    go_enter Tryd.func5, Tryd.ntmps5
    go_wp2_with fail
    go_ret
    exact ⟨rfl, HB0.out⟩
set_option maxRecDepth 100000 in
theorem roots7_lifted (os : Os) (started : os.Started) (H : Type) (enc : TypeId × Value → H) :
    ReturnsInHanded {} Tryd.checked os 5 .any (fun w args => (Rows.merkleRootsSpec.pre enc Tryd.prog Tryd.f5 Rows.merkleRootsRow.domain false w args ∧ laidMet Tryd.prog laidDig w) ∧ sizedMet enc Tryd.prog Tryd.f5 (OpenSpec.ofChange Rows.merkleRootsSpec) false w args)
      (Rows.merkleRootsSpec.post enc Tryd.prog Tryd.f5 false true false false) := by
  refine returns_laid (C := Tryd.checked) (X := fun w => laidMet Tryd.prog laidDig w) (fun _ _ hh h => h.of_heap hh) Tryd.own started (by kernel_rfl) Tryd.func5
    (ChangeSpec.witness_at (enc := enc) (C := Tryd.checked) (os := os) (X := fun w _ => laidMet Tryd.prog laidDig w) false (laidWorldD os) #[.agg #[.int .u8 0, .int .u8 0, .int .u8 0, .int .u8 0, .int .u8 0, .int .u8 0, .int .u8 0, .int .u8 0, .int .u8 0, .int .u8 0, .int .u8 0, .int .u8 0, .int .u8 0, .int .u8 0, .int .u8 0, .int .u8 0, .int .i64 0], .int .i64 0, .slice none 0 0, .agg #[.int .i64 0, .slice none 0 0, .slice none 0 0]] 8 rfl (by kernel_rfl) (by kernel_rfl) (by kernel_rfl) (by kernel_rfl) (by kernel_rfl) (laidWorldD_met os _)) ?_
  intro W base args ds gs before hval0 hW hL hsh
  have hval : ∀ (j : Nat) t v, Tryd.f5.params[j]? = some t → args[j]? = some v → Value.okWide Tryd.prog W .any base t v := hval0
  have env := denv_of_laid hL
  have hW' := hW
  obtain ⟨p, q, hA0, hV, rfl, hfz, hnd⟩ := hW
  have hA : DataW.TrodAll enc Tryd.prog W 0 (fun _ => true) true Tryd.f5.params.toList args.toList ds p := hA0
  rw [Tryd.params5] at hA hval
  obtain ⟨v0, vs0, d0, ds0, p0, q0, hargs, rfl, rfl, h0, r0⟩ := trodAll_cons hA
  obtain ⟨v1, vs1, d1, ds1, p1, q1, rfl, rfl, rfl, h1, r1⟩ := trodAll_cons r0
  obtain ⟨v2, vs2, d2, ds2, p2, q2, rfl, rfl, rfl, h2, r2⟩ := trodAll_cons r1
  obtain ⟨v3, vs3, d3, ds3, p3, q3, rfl, rfl, rfl, h3, r3⟩ := trodAll_cons r2
  obtain ⟨rfl, rfl, rfl⟩ := trodAll_nil r3
  obtain rfl : args = #[v0, v1, v2, v3] := by cases args; simp_all
  obtain ⟨rfl, rfl⟩ := trodVars_none hV
  obtain ⟨R0, x0, g0, rfl⟩ := open_pk (hval 0 25 v0 rfl rfl) h0
  obtain ⟨a1, rfl, e1, f1, w1⟩ := open_int Tryd.underlying3 (hval 1 3 v1 rfl rfl) h1
  obtain ⟨A2, l2, c2, rfl, hc2, hm2, hn2, hs2⟩ := open_bytesN (hval 2 42 v2 rfl rfl) h2
  obtain ⟨n3, CA3, PA3, cs3, ps3, cc3, pc3, rfl, hcl3, hcm3, hcn3, hpl3, hpm3, hpn3, hsc3, hsp3⟩ := open_sig (hval 3 31 v3 rfl rfl) h3
  refine (roots7_true R0 g0 x0 a1 l2 A2 c2 hc2 hm2 hn2 n3 CA3 PA3 cs3 ps3 cc3 pc3 hcl3 hcm3 hcn3 hpl3 hpm3 hpn3 W hs2 hsc3 hsp3 env).mono fun e W' ⟨he, hg⟩ => ?_
  subst he
  exact ⟨_, rfl, law_post Tryd.laidOut (by kernel_rfl) (by kernel_rfl) hW' hg (trodAll_cons_mk (shut_bool Tryd.underlying4 _) trodAll_mk0) rfl rfl⟩
/-- the row -/
theorem roots7_row : Rows.MerkleRootsSaid :=
  OpenClaim.holds_of_wide 5 Tryd.f5 rfl rfl rfl rfl rfl rfl rfl ⟨rfl, rfl, rfl, rfl, rfl⟩ rfl rfl rfl rfl rfl (by kernel_rfl) Tryd.func5 (by kernel_rfl)
    (of_decide_eq_true (by kernel_rfl)) (by unfold Func.isWrapper; rw [if_neg (of_decide_eq_false (by kernel_rfl))]; exact ⟨rfl, rfl⟩)
    (fun os started H enc _ => roots7_lifted os started H enc)
/-- the statement -/
theorem roots7_holds : Rows.MerkleRootsCardSaid :=
  Claim7.holds_tied_plain_at .later [] [.data, .data] true (true, "fb202a25e270729ce40d41b3d1d76f656f6dbac6218054d8004a01c5a2c829c8") false
    roots7_row (fun _ h => by cases h) (by kernel_rfl) (fun _ h => by cases h) merkleRoots_row_tie rfl ⟨rfl, rfl⟩ (by kernel_rfl) rfl
    (fun f fn hf hfn => by
      obtain rfl : f = 5 := Option.some.inj ((show Tryd.prog.funcNamed "gatepath/gatepathlaw07.MerkleRoots" = some 5 by kernel_rfl).symm.trans hf) |>.symm
      obtain rfl : fn = Tryd.f5 := (Option.some.inj (Tryd.func5.symm.trans hfn)).symm
      exact ⟨by kernel_rfl, fun j t ht => by
        rw [Tryd.params5] at ht
        have hp : t = 25 ∨ t = 3 ∨ t = 42 ∨ t = 31 := by
          rcases j with _ | _ | _ | _ | j
          · left; simpa using ht.symm
          · right; left; simpa using ht.symm
          · right; right; left; simpa using ht.symm
          · right; right; right; simpa using ht.symm
          · simp at ht
        rcases hp with rfl | rfl | rfl | rfl
        · exact (show Tryd.prog.wantsStandIn 25 = false by kernel_rfl)
        · exact (show Tryd.prog.wantsStandIn 3 = false by kernel_rfl)
        · exact (show Tryd.prog.wantsStandIn 42 = false by kernel_rfl)
        · exact (show Tryd.prog.wantsStandIn 31 = false by kernel_rfl)⟩)
    (by kernel_rfl)
#print axioms roots7_holds
end Go.Proofs.YtafolokkjpbieaaDoor
