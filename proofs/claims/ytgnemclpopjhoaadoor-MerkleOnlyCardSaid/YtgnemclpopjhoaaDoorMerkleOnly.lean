/- MerkleOnly, for every input: a signature is verified with a key exactly if it fits the key's height and the root that follows is the key's root; so with at most one key. Condition: what the row lists of the program's tables (tied by the card). -/
import Derived.Test.YtgnemclpopjhoaaDoorMkP
import Derived.Test.YtgnemclpopjhoaaDoorLawKit
import Derived.Test.YtgnemclpopjhoaaDoorCards
namespace Go.Proofs.YtgnemclpopjhoaaDoor
open Go.ChangeShapes Go.WideShapes Go.ChangeAt Go.RowKit Sha Ots
open Go.WideMaps Go.WideElems
set_option linter.unusedVariables false
set_option linter.unusedSimpArgs false
theorem wpList_load_wantedS {ops : Array Oper} {rest : List Oper} {o : Oper} {a : Act} {w : World} {Q : Exit → Act → World → Prop} (hw : Region.wanted o (yielded ops a.tmps) = true) (ty : TypeId) (x : Operand) (ho : o.op = .load ty x)
    (g : Nat) (hx : a.eval x = .pointer (some ⟨g, 0, none⟩)) (t : TypeId) (cs : Array Value) (fr : Nat × Nat) {fs} (hg : w.heap[g]? = some (.cells cs t fr)) (hu : Tryd.prog.underlying ty = some (.struct fs)) (hi : (Tryd.prog.info? ty).map (·.size) = some cs.size)
    (h : wpList Tryd.prog ops Q rest (a.put o.dst (.agg cs)) w) : wpList Tryd.prog ops Q (o :: rest) a w :=
  wpList_step fun K hK => by
    simp only [hw, if_true]
    exact wp_load_row ty x ho g hx t cs fr _ hg hu rfl hi (hK _ _ h)
theorem great_no (n : Int) (CA PA : Option Addr) (cl cc pl pc : Nat) (h : ¬ (100 < cl ∨ 100 < pl)) (w : World) :
    Calls Tryd.prog 23 #[.agg #[.int .i64 n, .slice CA cl cc, .slice PA pl pc]] w fun e w' => e = .returned (.bool false) ∧ Below w.heap.size w w' := by
  have h1 := great_any n CA PA cl cc pl pc w
  rw [decide_eq_false h] at h1
  exact h1
theorem great_yes (n : Int) (CA PA : Option Addr) (cl cc pl pc : Nat) (h : 100 < cl ∨ 100 < pl) (w : World) :
    Calls Tryd.prog 23 #[.agg #[.int .i64 n, .slice CA cl cc, .slice PA pl pc]] w fun e w' => e = .returned (.bool true) ∧ Below w.heap.size w w' := by
  have h1 := great_any n CA PA cl cc pl pc w
  rw [decide_eq_true h] at h1
  exact h1
set_option maxRecDepth 100000 in
set_option maxHeartbeats 4000000 in
theorem only7_true (R0 : List UInt8) (g0 : R0.length = 16) (x0 : Int) (R1 : List UInt8) (g1 : R1.length = 16) (x1 : Int) (l : List UInt8) (A : Option Addr) (c : Nat) (hc : l.length ≤ c) (hcm : c ≤ maxLen) (n : Int) (CA PA : Option Addr) (cs ps : List (List UInt8)) (cc pc : Nat) (hcl : cs.length ≤ cc) (hclm : cc ≤ maxLen) (hcn : CA = none → cc = 0) (hpl : ps.length ≤ pc) (hplm : pc ≤ maxLen) (hpn : PA = none → pc = 0)
    (w : World) (hsrc : SrcAt A l w) (hsc : Shorts CA cs w) (hsp : Shorts PA ps w) (env : DEnv w) :
    Calls Tryd.prog 9 #[.agg (pkc R0 x0), .agg (pkc R1 x1), .slice A l.length c, .agg #[.int .i64 n, .slice CA cs.length cc, .slice PA ps.length pc]] w fun e w' => e = .returned (.bool true) ∧ Below w.heap.size w w' := by
  have hal : ∀ V : World, Below w.heap.size w V → Calls Tryd.prog 18 #[] V fun e w' => e = .returned (.bool true) ∧ Below V.heap.size V w' := fun V hb => alive7_any V (env.on hb)
  have hlm : l.length ≤ 9223372036854775807 := by unfold maxLen at hcm; omega
  have AL := Lib.hid hal
  have hb3 := below3 w (.cells (pkc R0 x0) 25) (.cells (pkc R1 x1) 25) (.cells #[.int .i64 n, .slice CA cs.length cc, .slice PA ps.length pc] 31)
  have hrA := heap3_first w (.cells (pkc R0 x0) 25) (.cells (pkc R1 x1) 25) (.cells #[.int .i64 n, .slice CA cs.length cc, .slice PA ps.length pc] 31)
  have hrB := heap3_mid w (.cells (pkc R0 x0) 25) (.cells (pkc R1 x1) 25) (.cells #[.int .i64 n, .slice CA cs.length cc, .slice PA ps.length pc] 31)
  have hrG := heap3_last w (.cells (pkc R0 x0) 25) (.cells (pkc R1 x1) 25) (.cells #[.int .i64 n, .slice CA cs.length cc, .slice PA ps.length pc] 31)
  have HB0 := Lib.hid hb3
  have HA0 := Lib.hid hrA
  have HB0' := Lib.hid hrB
  have HG0 := Lib.hid hrG
  have HSZA := Lib.hid (sz17 R0 x0 g0)
  have HSZB := Lib.hid (sz17 R1 x1 g1)
  have HR0 := Lib.hid g0
  have HXI : (Tryd.prog.info? 23).map (·.size) = some (bvals R0).length := by rw [bvals_len, g0]; kernel_rfl
  clear hb3 hrA hrB hrG hal
  by_cases h2 : l.length ≤ 2000
  · have h2i : ¬ (2000 : Int) < (l.length : Int) := by omega
    by_cases hg : 100 < cs.length ∨ 100 < ps.length
    · have GR := Lib.hid (fun V => great_yes n CA PA cs.length cc ps.length pc hg V)
      obtain ⟨m, hm⟩ : ∃ m, l.length = m := ⟨_, rfl⟩
      rw [hm] at h2i hlm ⊢
      clear h2 hg hm hsrc env hc hcm hsc hsp
      go_enter Tryd.func9, Tryd.ntmps9
      go_wp2_with fail
      refine (AL.out _ HB0.out).mono ?_
      rintro e w1 ⟨rfl, hb1⟩
      have HB1 := Lib.hid (chain HB0.out hb1)
      have HA1 := Lib.hid (row_on HA0.out hb1)
      have HC1 := Lib.hid (row_on HB0'.out hb1)
      have HG1 := Lib.hid (row_on HG0.out hb1)
      clear hb1 HB0 HA0 HB0' HG0
      have hlt1 := (Array.getElem?_eq_some_iff.1 HG1.out).1
      obtain ⟨_, hc0, hc1, hc2⟩ := facts3 HG1.out
      go_wp2_with fail
      refine (GR.out _).mono ?_
      rintro e w2 ⟨rfl, hb2⟩
      have HB2 := Lib.hid (chain HB1.out hb2)
      clear hb2 hc0 hc1 hc2 hlt1
      go_wp2_with fail
      go_ret
      exact ⟨rfl, HB2.out⟩
    · have GR := Lib.hid (fun V => great_no n CA PA cs.length cc ps.length pc hg V)
      have hro := fun (V : World) (hb : Below w.heap.size w V) => root_all l A c (by omega) hc hcm n CA PA cs ps cc pc V (hsrc.on hb) (hsc.on hb) (hsp.on hb) (env.on hb) x0
      have hva := fun (V : World) (hb : Below w.heap.size w V) => verify_all R0 g0 x0 l A c (by omega) hc hcm n CA PA cs ps cc pc V (hsrc.on hb) (hsc.on hb) (hsp.on hb) (env.on hb)
      have hvb := fun (V : World) (hb : Below w.heap.size w V) => verify_all R1 g1 x1 l A c (by omega) hc hcm n CA PA cs ps cc pc V (hsrc.on hb) (hsc.on hb) (hsp.on hb) (env.on hb)
      have hsame := rtV_same l cs ps x0 x1 n
      have hX16 := rtV_len l cs ps x0 n
      obtain ⟨X, hX⟩ : ∃ X, rtV l cs ps x0 n = X := ⟨_, rfl⟩
      obtain ⟨Y, hY⟩ : ∃ Y, rtV l cs ps x1 n = Y := ⟨_, rfl⟩
      obtain ⟨ea, hea⟩ : ∃ ea, chkV x0 n cs.length ps.length = ea := ⟨_, rfl⟩
      obtain ⟨eb, heb⟩ : ∃ eb, chkV x1 n cs.length ps.length = eb := ⟨_, rfl⟩
      rw [hX, hea] at hro hva
      rw [hY, heb] at hvb
      rw [hX, hY, hea, heb] at hsame
      rw [hX] at hX16
      have hq : ∀ w : World, (binOp .eql 23 (.agg (bcells X)) (.agg (bvals R0).toArray)).run Tryd.prog w = .ok (.bool (X == R0)) w := fun w => eql_short X R0 hX16 g0 w
      have hq25 : (R0 == R1) = true → x0 = x1 → ∀ w, (binOp .eql 25 (.agg (pkc R0 x0)) (.agg (pkc R1 x1))).run Tryd.prog w = .ok (.bool true) w := fun e1 e2 w => by
        have h := eql_pk R0 R1 g0 g1 x0 x1 w
        rw [e1, e2] at h
        rw [e2]
        simpa using h
      have RO := Lib.hid hro
      have HSZX := Lib.hid (sz16 X hX16)
      have hso : (16 : Nat) = (bcells X).size := by rw [bcells_size, hX16]
      have HSO := Lib.hid hso
      have HQ := Lib.hid hq
      have HQ25 := Lib.hid hq25
      have hpA : ∃ PA0, pkc R0 x0 = PA0 := ⟨_, rfl⟩
      obtain ⟨m, hm⟩ : ∃ m, l.length = m := ⟨_, rfl⟩
      obtain ⟨cl, hcl2⟩ : ∃ cl, cs.length = cl := ⟨_, rfl⟩
      obtain ⟨pl, hpl2⟩ : ∃ pl, ps.length = pl := ⟨_, rfl⟩
      rw [hm] at h2i hlm RO hva hvb ⊢
      rw [hcl2] at GR RO hva hvb HB0 HA0 HB0' HG0 ⊢
      rw [hpl2] at GR RO hva hvb HB0 HA0 HB0' HG0 ⊢
      clear h2 hg hro hX hY hea heb hX16 hq hq25 hso hpA hm hcl2 hpl2 hcl hclm hcn hpl hplm hpn hsrc env hc hcm hsc hsp g0 g1
      by_cases he : ea = 0
      · cases hxr : (X == R0)
        · subst he
          have VA : RowKit.Hid (∀ V, Below w.heap.size w V → Calls Tryd.prog 17 #[.agg (pkc R0 x0), .slice A m c, .agg #[.int .i64 n, .slice CA cl cc, .slice PA pl pc]] V fun e w' => e = .returned (.bool false) ∧ Below V.heap.size V w') := Lib.hid (fun V hb => by
            have h := hva V hb
            rw [hxr, show (decide ((0 : Int) = 0) && false) = false by simp] at h
            exact h)
          rw [hxr] at HQ
          clear hva hvb hsame hxr
          go_enter Tryd.func9, Tryd.ntmps9
          go_wp2_with fail
          refine (AL.out _ HB0.out).mono ?_
          rintro e w1 ⟨rfl, hb1⟩
          have HB1 := Lib.hid (chain HB0.out hb1)
          have HA1 := Lib.hid (row_on HA0.out hb1)
          have HC1 := Lib.hid (row_on HB0'.out hb1)
          have HG1 := Lib.hid (row_on HG0.out hb1)
          clear hb1 HB0 HA0 HB0' HG0
          have hlt1 := (Array.getElem?_eq_some_iff.1 HG1.out).1
          obtain ⟨_, hc0, hc1, hc2⟩ := facts3 HG1.out
          go_wp2_with fail
          refine (GR.out _).mono ?_
          rintro e w2 ⟨rfl, hb2⟩
          have HB2 := Lib.hid (chain HB1.out hb2)
          have HA2 := Lib.hid (row_on HA1.out hb2)
          have HC2 := Lib.hid (row_on HC1.out hb2)
          have HG2 := Lib.hid (row_on HG1.out hb2)
          clear hb2 HB1 HA1 HC1 HG1 hc0 hc1 hc2 hlt1
          have hlt2 := (Array.getElem?_eq_some_iff.1 HG2.out).1
          obtain ⟨_, hc0, hc1, hc2⟩ := facts3 HG2.out
          have hk16 := cell_pkc HR0.out HA2.out
          go_wp2_with fail
          refine (RO.out _ HB2.out).mono ?_
          rintro e w3 ⟨rfl, hb3⟩
          have HB3 := Lib.hid (chain HB2.out hb3)
          have HA3 := Lib.hid (row_on HA2.out hb3)
          have HC3 := Lib.hid (row_on HC2.out hb3)
          have HG3 := Lib.hid (row_on HG2.out hb3)
          clear hb3 HB2 HA2 HC2 HG2 hc0 hc1 hc2 hlt2 hk16
          go_upto_region 5 with (refine wpList_store_row rfl 23 (.tmp 10) (.tmp 32) rfl w3.heap.size (bcells X) rfl rfl 23 _ (heap_alloc_new _ _) HSZX.out HSO.out (bcells_one _) ?_)
          rw [World.setRow_alloc_new]
          generalize hV : World.alloc w3 _ = V3
          have hbV : Below w3.heap.size w3 V3 := by rw [← hV]; exact below_new _ _
          have HX4 : RowKit.Hid (V3.heap[w3.heap.size]? = some (.cells (bcells X) 23 (0, 0))) := Lib.hid (by rw [← hV]; exact heap_alloc_new _ _)
          obtain ⟨XB, hXB⟩ : ∃ XB, w3.heap.size = XB := ⟨_, rfl⟩
          have HB4 := Lib.hid (chain HB3.out hbV)
          have HA4 := Lib.hid (row_on HA3.out hbV)
          have HC4 := Lib.hid (row_on HC3.out hbV)
          have HG4 := Lib.hid (row_on HG3.out hbV)
          rw [hXB] at HX4
          try simp only [hXB]
          clear hV hbV HB3 HA3 HC3 HG3 hXB
          have hlt4 := (Array.getElem?_eq_some_iff.1 HG4.out).1
          obtain ⟨_, hc0, hc1, hc2⟩ := facts3 HG4.out
          go_wp2_with (refine wpList_load_row rfl 25 (.tmp 4) rfl w.heap.size rfl 25 (pkc R0 x0) (0, 0) _ HA4.out Tryd.underlying25 rfl HSZA.out ?_)
          refine (VA.out _ HB4.out).mono ?_
          rintro e w5 ⟨rfl, hb5⟩
          have HX5 := Lib.hid (row_on HX4.out hb5)
          have HB5 := Lib.hid (chain HB4.out hb5)
          have HA5 := Lib.hid (row_on HA4.out hb5)
          have HC5 := Lib.hid (row_on HC4.out hb5)
          have HG5 := Lib.hid (row_on HG4.out hb5)
          clear hb5 HB4 HA4 HC4 HG4 hc0 hc1 hc2 hlt4 HX4
          have HRG := Lib.hid (rangeAt_pkc HA5.out)
          have hq := HQ.out
          go_wp2_with (first | (refine wpList_load_wantedR (by rfl) 23 (.tmp 10) rfl XB rfl 23 (bcells X) (0, 0) _ _ HX5.out Tryd.underlying23 HSZX.out ?_) | (refine wpList_load_wantedM (by rfl) 23 (.tmp 43) rfl w.heap.size 0 rfl (bvals R0) _ _ HRG.out Tryd.underlying23 HXI ?_))
          go_ret
          exact ⟨rfl, HB5.out⟩
        · subst he
          cases hyr : (decide (eb = 0) && (Y == R1))
          · have VA : RowKit.Hid (∀ V, Below w.heap.size w V → Calls Tryd.prog 17 #[.agg (pkc R0 x0), .slice A m c, .agg #[.int .i64 n, .slice CA cl cc, .slice PA pl pc]] V fun e w' => e = .returned (.bool true) ∧ Below V.heap.size V w') := Lib.hid (fun V hb => by
              have h := hva V hb
              rw [hxr, show (decide ((0 : Int) = 0) && true) = true by simp] at h
              exact h)
            rw [hxr] at HQ
            have VB : RowKit.Hid (∀ V, Below w.heap.size w V → Calls Tryd.prog 17 #[.agg (pkc R1 x1), .slice A m c, .agg #[.int .i64 n, .slice CA cl cc, .slice PA pl pc]] V fun e w' => e = .returned (.bool false) ∧ Below V.heap.size V w') := Lib.hid (fun V hb => by
              have h := hvb V hb
              rw [hyr] at h
              exact h)
            clear hva hvb hsame hxr hyr
            go_enter Tryd.func9, Tryd.ntmps9
            go_wp2_with fail
            refine (AL.out _ HB0.out).mono ?_
            rintro e w1 ⟨rfl, hb1⟩
            have HB1 := Lib.hid (chain HB0.out hb1)
            have HA1 := Lib.hid (row_on HA0.out hb1)
            have HC1 := Lib.hid (row_on HB0'.out hb1)
            have HG1 := Lib.hid (row_on HG0.out hb1)
            clear hb1 HB0 HA0 HB0' HG0
            have hlt1 := (Array.getElem?_eq_some_iff.1 HG1.out).1
            obtain ⟨_, hc0, hc1, hc2⟩ := facts3 HG1.out
            go_wp2_with fail
            refine (GR.out _).mono ?_
            rintro e w2 ⟨rfl, hb2⟩
            have HB2 := Lib.hid (chain HB1.out hb2)
            have HA2 := Lib.hid (row_on HA1.out hb2)
            have HC2 := Lib.hid (row_on HC1.out hb2)
            have HG2 := Lib.hid (row_on HG1.out hb2)
            clear hb2 HB1 HA1 HC1 HG1 hc0 hc1 hc2 hlt1
            have hlt2 := (Array.getElem?_eq_some_iff.1 HG2.out).1
            obtain ⟨_, hc0, hc1, hc2⟩ := facts3 HG2.out
            have hk16 := cell_pkc HR0.out HA2.out
            go_wp2_with fail
            refine (RO.out _ HB2.out).mono ?_
            rintro e w3 ⟨rfl, hb3⟩
            have HB3 := Lib.hid (chain HB2.out hb3)
            have HA3 := Lib.hid (row_on HA2.out hb3)
            have HC3 := Lib.hid (row_on HC2.out hb3)
            have HG3 := Lib.hid (row_on HG2.out hb3)
            clear hb3 HB2 HA2 HC2 HG2 hc0 hc1 hc2 hlt2 hk16
            go_upto_region 5 with (refine wpList_store_row rfl 23 (.tmp 10) (.tmp 32) rfl w3.heap.size (bcells X) rfl rfl 23 _ (heap_alloc_new _ _) HSZX.out HSO.out (bcells_one _) ?_)
            rw [World.setRow_alloc_new]
            generalize hV : World.alloc w3 _ = V3
            have hbV : Below w3.heap.size w3 V3 := by rw [← hV]; exact below_new _ _
            have HX4 : RowKit.Hid (V3.heap[w3.heap.size]? = some (.cells (bcells X) 23 (0, 0))) := Lib.hid (by rw [← hV]; exact heap_alloc_new _ _)
            obtain ⟨XB, hXB⟩ : ∃ XB, w3.heap.size = XB := ⟨_, rfl⟩
            have HB4 := Lib.hid (chain HB3.out hbV)
            have HA4 := Lib.hid (row_on HA3.out hbV)
            have HC4 := Lib.hid (row_on HC3.out hbV)
            have HG4 := Lib.hid (row_on HG3.out hbV)
            rw [hXB] at HX4
            try simp only [hXB]
            clear hV hbV HB3 HA3 HC3 HG3 hXB
            have hlt4 := (Array.getElem?_eq_some_iff.1 HG4.out).1
            obtain ⟨_, hc0, hc1, hc2⟩ := facts3 HG4.out
            go_wp2_with (refine wpList_load_row rfl 25 (.tmp 4) rfl w.heap.size rfl 25 (pkc R0 x0) (0, 0) _ HA4.out Tryd.underlying25 rfl HSZA.out ?_)
            refine (VA.out _ HB4.out).mono ?_
            rintro e w5 ⟨rfl, hb5⟩
            have HX5 := Lib.hid (row_on HX4.out hb5)
            have HB5 := Lib.hid (chain HB4.out hb5)
            have HA5 := Lib.hid (row_on HA4.out hb5)
            have HC5 := Lib.hid (row_on HC4.out hb5)
            have HG5 := Lib.hid (row_on HG4.out hb5)
            clear hb5 HB4 HA4 HC4 HG4 hc0 hc1 hc2 hlt4 HX4
            have HRG := Lib.hid (rangeAt_pkc HA5.out)
            have hq := HQ.out
            have hlt5 := (Array.getElem?_eq_some_iff.1 HG5.out).1
            obtain ⟨_, hc0, hc1, hc2⟩ := facts3 HG5.out
            go_wp2_with (first | (refine wpList_load_wantedR (by rfl) 23 (.tmp 10) rfl XB rfl 23 (bcells X) (0, 0) _ _ HX5.out Tryd.underlying23 HSZX.out ?_) | (refine wpList_load_wantedM (by rfl) 23 (.tmp 43) rfl w.heap.size 0 rfl (bvals R0) _ _ HRG.out Tryd.underlying23 HXI ?_) | (refine wpList_load_wantedS (by rfl) 25 (.tmp 5) rfl (w.heap.size + 1) rfl 25 (pkc R1 x1) (0, 0) HC5.out Tryd.underlying25 HSZB.out ?_))
            refine (VB.out _ HB5.out).mono ?_
            rintro e w6 ⟨rfl, hb6⟩
            have HB6 := Lib.hid (chain HB5.out hb6)
            have HA6 := Lib.hid (row_on HA5.out hb6)
            have HC6 := Lib.hid (row_on HC5.out hb6)
            have HG6 := Lib.hid (row_on HG5.out hb6)
            clear hb6 HB5 HA5 HC5 HG5 hc0 hc1 hc2 hlt5 HRG
            go_wp2_with fail
            go_ret
            exact ⟨rfl, HB6.out⟩
          · have hyy : eb = 0 ∧ (Y == R1) = true := by
              cases h1 : (Y == R1) <;> simp_all
            have hss := hsame rfl hyy.1
            have hRR : (R0 == R1) = true := by
              have e1 : X = R0 := by simpa using hxr
              have e2 : Y = R1 := by simpa using hyy.2
              rw [← e1, ← e2, hss.2]
              simp
            have hqq := HQ25.out hRR hss.1
            have HQQ := Lib.hid hqq
            have VA : RowKit.Hid (∀ V, Below w.heap.size w V → Calls Tryd.prog 17 #[.agg (pkc R0 x0), .slice A m c, .agg #[.int .i64 n, .slice CA cl cc, .slice PA pl pc]] V fun e w' => e = .returned (.bool true) ∧ Below V.heap.size V w') := Lib.hid (fun V hb => by
              have h := hva V hb
              rw [hxr, show (decide ((0 : Int) = 0) && true) = true by simp] at h
              exact h)
            rw [hxr] at HQ
            have VB : RowKit.Hid (∀ V, Below w.heap.size w V → Calls Tryd.prog 17 #[.agg (pkc R1 x1), .slice A m c, .agg #[.int .i64 n, .slice CA cl cc, .slice PA pl pc]] V fun e w' => e = .returned (.bool true) ∧ Below V.heap.size V w') := Lib.hid (fun V hb => by
              have h := hvb V hb
              rw [hyr] at h
              exact h)
            clear hva hvb hsame hxr hyr hyy hss hRR hqq HQ25
            go_enter Tryd.func9, Tryd.ntmps9
            go_wp2_with fail
            refine (AL.out _ HB0.out).mono ?_
            rintro e w1 ⟨rfl, hb1⟩
            have HB1 := Lib.hid (chain HB0.out hb1)
            have HA1 := Lib.hid (row_on HA0.out hb1)
            have HC1 := Lib.hid (row_on HB0'.out hb1)
            have HG1 := Lib.hid (row_on HG0.out hb1)
            clear hb1 HB0 HA0 HB0' HG0
            have hlt1 := (Array.getElem?_eq_some_iff.1 HG1.out).1
            obtain ⟨_, hc0, hc1, hc2⟩ := facts3 HG1.out
            go_wp2_with fail
            refine (GR.out _).mono ?_
            rintro e w2 ⟨rfl, hb2⟩
            have HB2 := Lib.hid (chain HB1.out hb2)
            have HA2 := Lib.hid (row_on HA1.out hb2)
            have HC2 := Lib.hid (row_on HC1.out hb2)
            have HG2 := Lib.hid (row_on HG1.out hb2)
            clear hb2 HB1 HA1 HC1 HG1 hc0 hc1 hc2 hlt1
            have hlt2 := (Array.getElem?_eq_some_iff.1 HG2.out).1
            obtain ⟨_, hc0, hc1, hc2⟩ := facts3 HG2.out
            have hk16 := cell_pkc HR0.out HA2.out
            go_wp2_with fail
            refine (RO.out _ HB2.out).mono ?_
            rintro e w3 ⟨rfl, hb3⟩
            have HB3 := Lib.hid (chain HB2.out hb3)
            have HA3 := Lib.hid (row_on HA2.out hb3)
            have HC3 := Lib.hid (row_on HC2.out hb3)
            have HG3 := Lib.hid (row_on HG2.out hb3)
            clear hb3 HB2 HA2 HC2 HG2 hc0 hc1 hc2 hlt2 hk16
            go_upto_region 5 with (refine wpList_store_row rfl 23 (.tmp 10) (.tmp 32) rfl w3.heap.size (bcells X) rfl rfl 23 _ (heap_alloc_new _ _) HSZX.out HSO.out (bcells_one _) ?_)
            rw [World.setRow_alloc_new]
            generalize hV : World.alloc w3 _ = V3
            have hbV : Below w3.heap.size w3 V3 := by rw [← hV]; exact below_new _ _
            have HX4 : RowKit.Hid (V3.heap[w3.heap.size]? = some (.cells (bcells X) 23 (0, 0))) := Lib.hid (by rw [← hV]; exact heap_alloc_new _ _)
            obtain ⟨XB, hXB⟩ : ∃ XB, w3.heap.size = XB := ⟨_, rfl⟩
            have HB4 := Lib.hid (chain HB3.out hbV)
            have HA4 := Lib.hid (row_on HA3.out hbV)
            have HC4 := Lib.hid (row_on HC3.out hbV)
            have HG4 := Lib.hid (row_on HG3.out hbV)
            rw [hXB] at HX4
            try simp only [hXB]
            clear hV hbV HB3 HA3 HC3 HG3 hXB
            have hlt4 := (Array.getElem?_eq_some_iff.1 HG4.out).1
            obtain ⟨_, hc0, hc1, hc2⟩ := facts3 HG4.out
            go_wp2_with (refine wpList_load_row rfl 25 (.tmp 4) rfl w.heap.size rfl 25 (pkc R0 x0) (0, 0) _ HA4.out Tryd.underlying25 rfl HSZA.out ?_)
            refine (VA.out _ HB4.out).mono ?_
            rintro e w5 ⟨rfl, hb5⟩
            have HX5 := Lib.hid (row_on HX4.out hb5)
            have HB5 := Lib.hid (chain HB4.out hb5)
            have HA5 := Lib.hid (row_on HA4.out hb5)
            have HC5 := Lib.hid (row_on HC4.out hb5)
            have HG5 := Lib.hid (row_on HG4.out hb5)
            clear hb5 HB4 HA4 HC4 HG4 hc0 hc1 hc2 hlt4 HX4
            have HRG := Lib.hid (rangeAt_pkc HA5.out)
            have hq := HQ.out
            have hlt5 := (Array.getElem?_eq_some_iff.1 HG5.out).1
            obtain ⟨_, hc0, hc1, hc2⟩ := facts3 HG5.out
            go_wp2_with (first | (refine wpList_load_wantedR (by rfl) 23 (.tmp 10) rfl XB rfl 23 (bcells X) (0, 0) _ _ HX5.out Tryd.underlying23 HSZX.out ?_) | (refine wpList_load_wantedM (by rfl) 23 (.tmp 43) rfl w.heap.size 0 rfl (bvals R0) _ _ HRG.out Tryd.underlying23 HXI ?_) | (refine wpList_load_wantedS (by rfl) 25 (.tmp 5) rfl (w.heap.size + 1) rfl 25 (pkc R1 x1) (0, 0) HC5.out Tryd.underlying25 HSZB.out ?_))
            refine (VB.out _ HB5.out).mono ?_
            rintro e w6 ⟨rfl, hb6⟩
            have HB6 := Lib.hid (chain HB5.out hb6)
            have HA6 := Lib.hid (row_on HA5.out hb6)
            have HC6 := Lib.hid (row_on HC5.out hb6)
            have HG6 := Lib.hid (row_on HG5.out hb6)
            clear hb6 HB5 HA5 HC5 HG5 hc0 hc1 hc2 hlt5 HRG
            have hqq := HQQ.out
            go_wp2_with (first | (refine wpList_load_wantedS (by rfl) 25 (.tmp 4) rfl w.heap.size rfl 25 (pkc R0 x0) (0, 0) HA6.out Tryd.underlying25 HSZA.out ?_) | (refine wpList_load_wantedS (by rfl) 25 (.tmp 5) rfl (w.heap.size + 1) rfl 25 (pkc R1 x1) (0, 0) HC6.out Tryd.underlying25 HSZB.out ?_))
            go_ret
            exact ⟨rfl, HB6.out⟩
      · have VA : RowKit.Hid (∀ V, Below w.heap.size w V → Calls Tryd.prog 17 #[.agg (pkc R0 x0), .slice A m c, .agg #[.int .i64 n, .slice CA cl cc, .slice PA pl pc]] V fun e w' => e = .returned (.bool false) ∧ Below V.heap.size V w') := Lib.hid (fun V hb => by
          have h := hva V hb
          rw [show (decide (ea = 0) && (X == R0)) = false by simp [he]] at h
          exact h)
        have hd : (ea == 0) = false := by simp [he]
        clear hva hvb hsame he HQ
        go_enter Tryd.func9, Tryd.ntmps9
        go_wp2_with fail
        refine (AL.out _ HB0.out).mono ?_
        rintro e w1 ⟨rfl, hb1⟩
        have HB1 := Lib.hid (chain HB0.out hb1)
        have HA1 := Lib.hid (row_on HA0.out hb1)
        have HC1 := Lib.hid (row_on HB0'.out hb1)
        have HG1 := Lib.hid (row_on HG0.out hb1)
        clear hb1 HB0 HA0 HB0' HG0
        have hlt1 := (Array.getElem?_eq_some_iff.1 HG1.out).1
        obtain ⟨_, hc0, hc1, hc2⟩ := facts3 HG1.out
        go_wp2_with fail
        refine (GR.out _).mono ?_
        rintro e w2 ⟨rfl, hb2⟩
        have HB2 := Lib.hid (chain HB1.out hb2)
        have HA2 := Lib.hid (row_on HA1.out hb2)
        have HC2 := Lib.hid (row_on HC1.out hb2)
        have HG2 := Lib.hid (row_on HG1.out hb2)
        clear hb2 HB1 HA1 HC1 HG1 hc0 hc1 hc2 hlt1
        have hlt2 := (Array.getElem?_eq_some_iff.1 HG2.out).1
        obtain ⟨_, hc0, hc1, hc2⟩ := facts3 HG2.out
        have hk16 := cell_pkc HR0.out HA2.out
        go_wp2_with fail
        refine (RO.out _ HB2.out).mono ?_
        rintro e w3 ⟨rfl, hb3⟩
        have HB3 := Lib.hid (chain HB2.out hb3)
        have HA3 := Lib.hid (row_on HA2.out hb3)
        have HC3 := Lib.hid (row_on HC2.out hb3)
        have HG3 := Lib.hid (row_on HG2.out hb3)
        clear hb3 HB2 HA2 HC2 HG2 hc0 hc1 hc2 hlt2 hk16
        go_upto_region 5 with (refine wpList_store_row rfl 23 (.tmp 10) (.tmp 32) rfl w3.heap.size (bcells X) rfl rfl 23 _ (heap_alloc_new _ _) HSZX.out HSO.out (bcells_one _) ?_)
        rw [World.setRow_alloc_new]
        generalize hV : World.alloc w3 _ = V3
        have hbV : Below w3.heap.size w3 V3 := by rw [← hV]; exact below_new _ _
        have HX4 : RowKit.Hid (V3.heap[w3.heap.size]? = some (.cells (bcells X) 23 (0, 0))) := Lib.hid (by rw [← hV]; exact heap_alloc_new _ _)
        obtain ⟨XB, hXB⟩ : ∃ XB, w3.heap.size = XB := ⟨_, rfl⟩
        have HB4 := Lib.hid (chain HB3.out hbV)
        have HA4 := Lib.hid (row_on HA3.out hbV)
        have HC4 := Lib.hid (row_on HC3.out hbV)
        have HG4 := Lib.hid (row_on HG3.out hbV)
        rw [hXB] at HX4
        try simp only [hXB]
        clear hV hbV HB3 HA3 HC3 HG3 hXB
        have hlt4 := (Array.getElem?_eq_some_iff.1 HG4.out).1
        obtain ⟨_, hc0, hc1, hc2⟩ := facts3 HG4.out
        go_wp2_with (refine wpList_load_row rfl 25 (.tmp 4) rfl w.heap.size rfl 25 (pkc R0 x0) (0, 0) _ HA4.out Tryd.underlying25 rfl HSZA.out ?_)
        refine (VA.out _ HB4.out).mono ?_
        rintro e w5 ⟨rfl, hb5⟩
        have HX5 := Lib.hid (row_on HX4.out hb5)
        have HB5 := Lib.hid (chain HB4.out hb5)
        have HA5 := Lib.hid (row_on HA4.out hb5)
        have HC5 := Lib.hid (row_on HC4.out hb5)
        have HG5 := Lib.hid (row_on HG4.out hb5)
        clear hb5 HB4 HA4 HC4 HG4 hc0 hc1 hc2 hlt4 HX4
        go_wp2_with fail
        go_ret
        exact ⟨rfl, HB5.out⟩
  · have h6 : (2000 : Int) < (l.length : Int) := by omega
    obtain ⟨m, hm⟩ : ∃ m, l.length = m := ⟨_, rfl⟩
    rw [hm] at h6 hlm ⊢
    clear h2 hm hsrc env hc hcm hsc hsp
    go_enter Tryd.func9, Tryd.ntmps9
    go_wp2_with fail
    refine (AL.out _ HB0.out).mono ?_
    rintro e w1 ⟨rfl, hb1⟩
    have HB1 := Lib.hid (chain HB0.out hb1)
    have HA1 := Lib.hid (row_on HA0.out hb1)
    have HC1 := Lib.hid (row_on HB0'.out hb1)
    have HG1 := Lib.hid (row_on HG0.out hb1)
    clear hb1 HB0 HA0 HB0' HG0
    go_wp2_with fail
    go_ret
    exact ⟨rfl, HB1.out⟩
set_option maxRecDepth 100000 in
theorem only7_lifted (os : Os) (started : os.Started) (H : Type) (enc : TypeId × Value → H) :
    ReturnsInHanded {} Tryd.checked os 9 .any (fun w args => (Rows.merkleOnlySpec.pre enc Tryd.prog Tryd.f9 Rows.merkleOnlyRow.domain false w args ∧ laidMet Tryd.prog laidDig w) ∧ sizedMet enc Tryd.prog Tryd.f9 (OpenSpec.ofChange Rows.merkleOnlySpec) false w args)
      (Rows.merkleOnlySpec.post enc Tryd.prog Tryd.f9 false true false false) := by
  refine returns_laid (C := Tryd.checked) (X := fun w => laidMet Tryd.prog laidDig w) (fun _ _ hh h => h.of_heap hh) Tryd.own started (by kernel_rfl) Tryd.func9
    (ChangeSpec.witness_at (enc := enc) (C := Tryd.checked) (os := os) (X := fun w _ => laidMet Tryd.prog laidDig w) false (laidWorldD os) #[.agg #[.int .u8 0, .int .u8 0, .int .u8 0, .int .u8 0, .int .u8 0, .int .u8 0, .int .u8 0, .int .u8 0, .int .u8 0, .int .u8 0, .int .u8 0, .int .u8 0, .int .u8 0, .int .u8 0, .int .u8 0, .int .u8 0, .int .i64 0], .agg #[.int .u8 0, .int .u8 0, .int .u8 0, .int .u8 0, .int .u8 0, .int .u8 0, .int .u8 0, .int .u8 0, .int .u8 0, .int .u8 0, .int .u8 0, .int .u8 0, .int .u8 0, .int .u8 0, .int .u8 0, .int .u8 0, .int .i64 0], .slice none 0 0, .agg #[.int .i64 0, .slice none 0 0, .slice none 0 0]] 8 rfl (by kernel_rfl) (by kernel_rfl) (by kernel_rfl) (by kernel_rfl) (by kernel_rfl) (laidWorldD_met os _)) ?_
  intro W base args ds gs before hval0 hW hL hsh
  have hval : ∀ (j : Nat) t v, Tryd.f9.params[j]? = some t → args[j]? = some v → Value.okWide Tryd.prog W .any base t v := hval0
  have env := denv_of_laid hL
  have hW' := hW
  obtain ⟨p, q, hA0, hV, rfl, hfz, hnd⟩ := hW
  have hA : DataW.TrodAll enc Tryd.prog W 0 (fun _ => true) true Tryd.f9.params.toList args.toList ds p := hA0
  rw [Tryd.params9] at hA hval
  obtain ⟨v0, vs0, d0, ds0, p0, q0, hargs, rfl, rfl, h0, r0⟩ := trodAll_cons hA
  obtain ⟨v1, vs1, d1, ds1, p1, q1, rfl, rfl, rfl, h1, r1⟩ := trodAll_cons r0
  obtain ⟨v2, vs2, d2, ds2, p2, q2, rfl, rfl, rfl, h2, r2⟩ := trodAll_cons r1
  obtain ⟨v3, vs3, d3, ds3, p3, q3, rfl, rfl, rfl, h3, r3⟩ := trodAll_cons r2
  obtain ⟨rfl, rfl, rfl⟩ := trodAll_nil r3
  obtain rfl : args = #[v0, v1, v2, v3] := by cases args; simp_all
  obtain ⟨rfl, rfl⟩ := trodVars_none hV
  obtain ⟨R0, x0, g0, rfl⟩ := open_pk (hval 0 25 v0 rfl rfl) h0
  obtain ⟨R1, x1, g1, rfl⟩ := open_pk (hval 1 25 v1 rfl rfl) h1
  obtain ⟨A2, l2, c2, rfl, hc2, hm2, hs2⟩ := open_bytes (hval 2 42 v2 rfl rfl) h2
  obtain ⟨n3, CA3, PA3, cs3, ps3, cc3, pc3, rfl, hcl3, hcm3, hcn3, hpl3, hpm3, hpn3, hsc3, hsp3⟩ := open_sig (hval 3 31 v3 rfl rfl) h3
  refine (only7_true R0 g0 x0 R1 g1 x1 l2 A2 c2 hc2 hm2 n3 CA3 PA3 cs3 ps3 cc3 pc3 hcl3 hcm3 hcn3 hpl3 hpm3 hpn3 W hs2 hsc3 hsp3 env).mono fun e W' ⟨he, hg⟩ => ?_
  subst he
  exact ⟨_, rfl, law_post Tryd.laidOut (by kernel_rfl) (by kernel_rfl) hW' hg (trodAll_cons_mk (shut_bool Tryd.underlying4 _) trodAll_mk0) rfl rfl⟩
/-- the row -/
theorem only7_row : Rows.MerkleOnlySaid :=
  OpenClaim.holds_of_wide 9 Tryd.f9 rfl rfl rfl rfl rfl rfl rfl ⟨rfl, rfl, rfl, rfl, rfl⟩ rfl rfl rfl rfl rfl (by kernel_rfl) Tryd.func9 (by kernel_rfl)
    (of_decide_eq_true (by kernel_rfl)) (by unfold Func.isWrapper; rw [if_neg (of_decide_eq_false (by kernel_rfl))]; exact ⟨rfl, rfl⟩)
    (fun os started H enc _ => only7_lifted os started H enc)
/-- the statement -/
theorem only7_holds : Rows.MerkleOnlyCardSaid :=
  Claim7.holds_tied_plain_at .later [] [.data, .data] true (true, "5c5ef3e3a029439297996ab8412620a6e742b6df2095b9fbc6f4dac02e25c51a") false
    only7_row (fun _ h => by cases h) (by kernel_rfl) (fun _ h => by cases h) merkleOnly_row_tie rfl ⟨rfl, rfl⟩ (by kernel_rfl) rfl
    (fun f fn hf hfn => by
      obtain rfl : f = 9 := Option.some.inj ((show Tryd.prog.funcNamed "gatepath/gatepathlaw07.MerkleOnly" = some 9 by kernel_rfl).symm.trans hf) |>.symm
      obtain rfl : fn = Tryd.f9 := (Option.some.inj (Tryd.func9.symm.trans hfn)).symm
      exact ⟨by kernel_rfl, fun j t ht => by
        rw [Tryd.params9] at ht
        have hp : t = 25 ∨ t = 42 ∨ t = 31 := by
          rcases j with _ | _ | _ | _ | j
          · left; simpa using ht.symm
          · left; simpa using ht.symm
          · right; left; simpa using ht.symm
          · right; right; simpa using ht.symm
          · simp at ht
        rcases hp with rfl | rfl | rfl
        · exact (show Tryd.prog.wantsStandIn 25 = false by kernel_rfl)
        · exact (show Tryd.prog.wantsStandIn 42 = false by kernel_rfl)
        · exact (show Tryd.prog.wantsStandIn 31 = false by kernel_rfl)⟩)
    (by kernel_rfl)
#print axioms only7_holds
end Go.Proofs.YtgnemclpopjhoaaDoor
