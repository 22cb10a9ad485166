/- MerklePaths, for every input: the root that follows is computed from the key that follows and the path alone; where there is none, Root and Check answer with one error and an empty root. Condition: what the row lists of the program's tables (tied by the card). -/
import Derived.Test.YtgnemclpopjhoaaDoorMkP
import Derived.Test.YtgnemclpopjhoaaDoorLawKit
import Derived.Test.YtgnemclpopjhoaaDoorCards
namespace Go.Proofs.YtgnemclpopjhoaaDoor
open Go.ChangeShapes Go.WideShapes Go.ChangeAt Go.RowKit Sha Ots
open Go.WideMaps Go.WideElems
set_option linter.unusedVariables false
set_option linter.unusedSimpArgs false
theorem great_no (n : Int) (CA PA : Option Addr) (cl cc pl pc : Nat) (h : ¬ (100 < cl ∨ 100 < pl)) (w : World) :
    Calls Tryd.prog 23 #[.agg #[.int .i64 n, .slice CA cl cc, .slice PA pl pc]] w fun e w' => e = .returned (.bool false) ∧ Below w.heap.size w w' := by
  have h1 := great_any n CA PA cl cc pl pc w
  rw [decide_eq_false h] at h1
  exact h1
theorem great_yes (n : Int) (CA PA : Option Addr) (cl cc pl pc : Nat) (h : 100 < cl ∨ 100 < pl) (w : World) :
    Calls Tryd.prog 23 #[.agg #[.int .i64 n, .slice CA cl cc, .slice PA pl pc]] w fun e w' => e = .returned (.bool true) ∧ Below w.heap.size w w' := by
  have h1 := great_any n CA PA cl cc pl pc w
  rw [decide_eq_true h] at h1
  exact h1
theorem wp_append_u87 {w : World} {o : Oper} {a : Act} {K : Act → World → Prop} {Q : Exit → Act → World → Prop} (s x : Operand)
    (ho : o.op = .call { callee := .builtin .append, args := #[s, x], argTypes := #[42, 42] }) (base : Nat) (v : Value) (n : Nat) (xs : List Value) (hs : a.eval s = v) (hown : w.ownsRow base 5 1 v n xs)
    (ad : Addr) (m c : Nat) (L : List UInt8) (hx : a.eval x = .slice (some ad) m c) (hm : L.length = m) (hc : ∀ j u, (bvals L)[j]? = some u → w.cell? (ad.add j) = some u) (h63 : n + m ≤ 1000000) (hbase : base ≤ w.heap.size)
    (h : ∀ v' w', w'.ownsRow base 5 1 v' (n + m) (xs ++ bvals L) → w.grownBy w' v.ownBlock → K (a.put o.dst v') w') : o.wp Tryd.prog a w K Q := by
  obtain ⟨i0, hi, hz0, hz1, hz2⟩ := info_parts Tryd.info_byte
  exact wp_append_own _ s x 42 ho base 5 i0 (.int .u8 0) 1 1 Tryd.underlying42 hi hz0 hz1 hz2 rfl (by decide) v n xs hs hown ad m c (bvals L) hx (by rw [bvals_len, hm, Nat.mul_one]) hc (fun u hu => by
    unfold bvals at hu
    obtain ⟨x, _, rfl⟩ := List.mem_map.1 hu
    rfl) (by unfold maxLen; omega) (by omega) hbase (fun v' w' h1 h2 _ => h v' w' h1 h2)
theorem own_row1 {w : World} {Y : Nat} {x : UInt8} (hY : w.heap[Y]? = some (.cells (bcells [x]) 5 (0, 0))) : w.ownsRow Y 5 1 (.slice (some ⟨Y, 0, none⟩) 1 1) 1 (bvals [x]) :=
  ⟨rfl, .inr ⟨Y, 1, bcells [x], rfl, Nat.le_refl _, hY, Nat.le_refl _, by decide, rfl, rfl⟩⟩
theorem recover_some (l : List UInt8) (A : Option Addr) (c : Nat) (hl : l.length ≤ 100000) (hc : l.length ≤ c) (hcm : c ≤ maxLen) (CA : Option Addr) (cs : List (List UInt8)) (cc : Nat) (w : World) (hsrc : SrcAt A l w) (hsc : Shorts CA cs w) (env : DEnv w) :
    ∃ (K : List UInt8) (g : Int), K.length = 16 ∧ (cs.length = 35 → K = key l cs ∧ g = 0) ∧ ∀ V : World, Below w.heap.size w V → Calls Tryd.prog 27 #[.slice A l.length c, .slice CA cs.length cc] V fun e w' => e = .returned (.tuple #[.agg (bcells K), .int .i64 g]) ∧ Below V.heap.size V w' := by
  by_cases h : cs.length = 35
  · exact ⟨key l cs, 0, key_len _ _, fun _ => ⟨rfl, rfl⟩, fun V hb => recover_any l A c hl hc hcm cs CA cc h V (hsrc.on hb) (hsc.on hb) (env.on hb)⟩
  · exact ⟨List.replicate 16 0, 12, rfl, fun e => absurd e h, fun V _ => recover_bad _ cs CA cc h V⟩
/-- between two elements of the path -/
structure PL (w : World) (KB XB : Nat) (X G : List UInt8) (sg : Array Value) (V : World) : Prop where
  bl : Below w.heap.size w V
  ge : w.heap.size < KB ∧ w.heap.size < XB ∧ KB ≠ XB
  rk : V.heap[KB]? = some (.cells (bcells G) 23 (0, 0))
  rx : V.heap[XB]? = some (.cells (bcells X) 23 (0, 0))
  rg : V.heap[w.heap.size]? = some (.cells sg 31 (0, 0))
theorem PL.on {w V U : World} {KB XB : Nat} {X G : List UInt8} {sg : Array Value} (h : PL w KB XB X G sg V) (hb : Below V.heap.size V U) : PL w KB XB X G sg U :=
  ⟨chain h.bl hb, h.ge, row_on h.rk hb, row_on h.rx hb, row_on h.rg hb⟩
theorem PL.put {w V : World} {KB XB : Nat} {X G : List UInt8} {sg : Array Value} (h : PL w KB XB X G sg V) (F : List UInt8) (hs : (bcells G).size = (bcells F).size) : PL w KB XB X F sg (V.setCells KB 0 (bcells F).toList) :=
  ⟨below_setCells _ _ _ h.bl (Nat.le_of_lt h.ge.1), h.ge, row_setCells h.rk hs, (heap_setCells_other _ _ _ (Ne.symm h.ge.2.2)).trans h.rx, (heap_setCells_other _ _ _ (Nat.ne_of_lt h.ge.1)).trans h.rg⟩
set_option maxRecDepth 100000 in
set_option maxHeartbeats 8000000 in
theorem paths7_true (h : Int) (l : List UInt8) (A : Option Addr) (c : Nat) (hc : l.length ≤ c) (hcm : c ≤ maxLen) (n : Int) (CA PA : Option Addr) (cs ps : List (List UInt8)) (cc pc : Nat) (hcl : cs.length ≤ cc) (hclm : cc ≤ maxLen) (hcn : CA = none → cc = 0) (hpl : ps.length ≤ pc) (hplm : pc ≤ maxLen) (hpn : PA = none → pc = 0)
    (w : World) (hsrc : SrcAt A l w) (hsc : Shorts CA cs w) (hsp : Shorts PA ps w) (env : DEnv w) :
    Calls Tryd.prog 8 #[.int .i64 h, .slice A l.length c, .agg #[.int .i64 n, .slice CA cs.length cc, .slice PA ps.length pc]] w fun e w' => e = .returned (.bool true) ∧ Below w.heap.size w w' := by
  have hal : ∀ V : World, Below w.heap.size w V → Calls Tryd.prog 18 #[] V fun e w' => e = .returned (.bool true) ∧ Below V.heap.size V w' := fun V hb => alive7_any V (env.on hb)
  have hlm : l.length ≤ 9223372036854775807 := by unfold maxLen at hcm; omega
  have AL := Lib.hid hal
  clear hal
  by_cases h2 : l.length ≤ 2000
  · have h2i : ¬ (2000 : Int) < (l.length : Int) := by omega
    by_cases hg : 100 < cs.length ∨ 100 < ps.length
    · have GR := Lib.hid (fun V => great_yes n CA PA cs.length cc ps.length pc hg V)
      obtain ⟨m, hm⟩ : ∃ m, l.length = m := ⟨_, rfl⟩
      rw [hm] at h2i hlm ⊢
      clear h2 hg hm hsrc env hc hcm hsc hsp
      go_enter Tryd.func8, Tryd.ntmps8
      go_wp2_with fail
      refine (AL.out _ (below_new _ _)).mono ?_
      rintro e w1 ⟨rfl, hb1⟩
      have HG1 := Lib.hid (row_on (heap_alloc_new w _) hb1)
      have HB1 := Lib.hid (chain (below_new w _) hb1)
      clear hb1
      have hlt1 := (Array.getElem?_eq_some_iff.1 HG1.out).1
      obtain ⟨_, hc0, hc1, hc2⟩ := facts3 HG1.out
      go_wp2_with fail
      refine (GR.out _).mono ?_
      rintro e w2 ⟨rfl, hb2⟩
      have HB2 := Lib.hid (chain HB1.out hb2)
      clear hb2 hc0 hc1 hc2 hlt1
      go_wp2_with fail
      go_ret
      exact ⟨rfl, HB2.out⟩
    · have GR := Lib.hid (fun V => great_no n CA PA cs.length cc ps.length pc hg V)
      have hro := fun (V : World) (hb : Below w.heap.size w V) => root_all l A c (by omega) hc hcm n CA PA cs ps cc pc V (hsrc.on hb) (hsc.on hb) (hsp.on hb) (env.on hb) h
      have hck := fun (V : World) => check_any h n CA PA cs.length cc ps.length pc V
      obtain ⟨K, gg, hK16, hK35, hre⟩ := recover_some l A c (by omega) hc hcm CA cs cc w hsrc hsc env
      have hX16 := rtV_len l cs ps h n
      have hX0 : chkV h n cs.length ps.length = 0 → rtV l cs ps h n = fol (key l cs) n.toNat ps := fun e => by unfold rtV; rw [if_pos e]
      have hX1 : ¬ chkV h n cs.length ps.length = 0 → rtV l cs ps h n = List.replicate 16 0 := fun e => by unfold rtV; rw [if_neg e]
      have hsho : ∀ (x y : List UInt8), x.length = 16 → y.length = 16 → ∀ (V : World) (v : Value) (b : Nat), Below w.heap.size w V → V.ownsRow b 5 1 v 33 (bvals (([1] ++ x) ++ y)) → Calls Tryd.prog 28 #[v] V fun e w' => e = .returned (.agg (bcells (jn x y))) ∧ Below V.heap.size V w' := fun x y hx hy V v b hb ho => by
        have e33 : (([1] ++ x) ++ y).length = 33 := by rw [List.length_append, List.length_append, hx, hy]; rfl
        rw [← e33] at ho
        obtain ⟨A, c, rfl, h1, h2, h3, h4⟩ := own_rd2 ho
        exact short_any _ A c (by rw [e33]; decide) h1 h2 V h4 (env.on hb)
      by_cases he : chkV h n cs.length ps.length = 0
      · obtain ⟨z1, z2, z3, z4⟩ := chkV_zero he
        obtain ⟨hKk, rfl⟩ := hK35 z3
        have hXf := hX0 he
        rw [← hKk] at hXf
        obtain ⟨j, rfl⟩ : ∃ j : Nat, n = (j : Int) := ⟨n.toNat, by omega⟩
        rw [Int.toNat_natCast] at hXf
        have hj : j < 1000 := by
          have h9 := Nat.pow_le_pow_right (show 0 < 2 by decide) (show h.toNat ≤ 4 by omega)
          have h8 : 2 ^ 4 = 16 := rfl
          have h7 := z2.2
          have h6 : j < 2 ^ h.toNat := by exact_mod_cast h7
          omega
        obtain ⟨T, hT⟩ : ∃ T : Nat → List UInt8, ∀ k, T k = fol K j (ps.take k) := ⟨_, fun _ => rfl⟩
        obtain ⟨D, hD⟩ : ∃ D : Nat → Nat, ∀ k, D k = j / 2 ^ k := ⟨_, fun _ => rfl⟩
        have hT0 : T 0 = K := by rw [hT]; rfl
        have hD0 : D 0 = j := by rw [hD, Nat.pow_zero, Nat.div_one]
        have hTl : ∀ k, (T k).length = 16 := fun k => by rw [hT]; exact fol_len K hK16 _ _
        have hDl : ∀ k, D k ≤ 1000 := fun k => by rw [hD]; have := Nat.div_le_self j (2 ^ k); omega
        have hDs : ∀ k, D (k + 1) = D k / 2 := fun k => by rw [hD, hD, Nat.pow_succ, Nat.div_div_eq_div_mul]
        have hTs : ∀ k, k < ps.length → T (k + 1) = stq (T k) (D k) (ps.getD k []) := fun k hk => by rw [hT, hT, hD, fol_take K ps j k hk]
        have hTe : T ps.length = fol K j ps := by rw [hT, List.take_length]
        have hpa : ∀ k, k < ps.length → ∃ g o p, PA = some ⟨g, o, none⟩ ∧ ps.getD k [] = p ∧ p.length = 16 ∧ w.rangeAt g (o + k * 16) (bvals p) := fun k hk => by
          obtain ⟨g, o, e, hr⟩ := hsp.atS k hk
          exact ⟨g, o, _, e, rfl, getD_len16 hsp.len k hk, hr⟩
        have hX : rtV l cs ps h (j : Int) = T ps.length := by rw [hTe]; exact hXf
        rw [hX] at hro hX16
        rw [he] at hro hck
        have hps100 : ps.length ≤ 100 := by omega
        obtain ⟨m, hm⟩ : ∃ m, l.length = m := ⟨_, rfl⟩
        obtain ⟨cl, hcl2⟩ : ∃ cl, cs.length = cl := ⟨_, rfl⟩
        obtain ⟨pl, hpl2⟩ : ∃ pl, ps.length = pl := ⟨_, rfl⟩
        rw [hpl2] at hTs hpa hro hX16 hps100
        obtain ⟨X, hXX⟩ : ∃ X, T pl = X := ⟨_, rfl⟩
        rw [hXX] at hro hX16
        have HSZX := Lib.hid (sz16 X hX16)
        have hso : (16 : Nat) = (bcells X).size := by rw [bcells_size, hX16]
        have HSO := Lib.hid hso
        have HSZK := Lib.hid (sz16 K hK16)
        have hsok : (16 : Nat) = (bcells K).size := by rw [bcells_size, hK16]
        have HSOK := Lib.hid hsok
        have hqe : ∀ w, (binOp .eql 23 (.agg (bcells X)) (.agg (bcells X))).run Tryd.prog w = .ok (.bool true) w := fun w => by
          have h := eql_short X X hX16 hX16 w
          rw [show (X == X) = true by simp] at h
          exact h
        rw [hm] at h2i hlm hro hre ⊢
        rw [hcl2] at GR hro hck hre ⊢
        rw [hpl2] at GR hck ⊢
        obtain ⟨jI, hjI⟩ : ∃ jI : Int, (j : Int) = jI := ⟨_, rfl⟩
        have hjD : jI = (D 0 : Int) := by rw [← hjI, hD0]
        rw [hjI] at GR hro hck ⊢
        have RO := Lib.hid hro
        have CK := Lib.hid hck
        have RE := Lib.hid hre
        have SHO := Lib.hid hsho
        have HT0 := Lib.hid hT0
        have HJD := Lib.hid hjD
        have HTL := Lib.hid hTl
        have HDL := Lib.hid hDl
        have HDS := Lib.hid hDs
        have HTS := Lib.hid hTs
        have HPA := Lib.hid hpa
        have HXX := Lib.hid hXX
        have HQE := Lib.hid hqe
        have HP100 := Lib.hid hps100
        clear hro hck hre hX16 hXf hX0 hX1 hsho hX hXX hso hsok hm hcl2 hpl2 he hK16 hK35 hKk hj hT hD hT0 hD0 hTl hDl hDs hTs hTe hpa hqe hjI hjD hps100 z1 z2 z3 z4 h2 hg hcl hclm hcn hpl hplm hpn hsrc env hc hcm hsc hsp
        go_enter Tryd.func8, Tryd.ntmps8
        go_wp2_with fail
        refine (AL.out _ (below_new _ _)).mono ?_
        rintro e w1 ⟨rfl, hb1⟩
        have HG1 := Lib.hid (row_on (heap_alloc_new w _) hb1)
        have HB1 := Lib.hid (chain (below_new w _) hb1)
        clear hb1
        have hlt1 := (Array.getElem?_eq_some_iff.1 HG1.out).1
        obtain ⟨_, hc0, hc1, hc2⟩ := facts3 HG1.out
        go_wp2_with fail
        refine (GR.out _).mono ?_
        rintro e w2 ⟨rfl, hb2⟩
        have HB2 := Lib.hid (chain HB1.out hb2)
        have HG2 := Lib.hid (row_on HG1.out hb2)
        clear hb2 hc0 hc1 hc2 hlt1 HB1 HG1
        have hlt2 := (Array.getElem?_eq_some_iff.1 HG2.out).1
        obtain ⟨_, hc0, hc1, hc2⟩ := facts3 HG2.out
        go_wp2_with fail
        refine (RO.out _ HB2.out).mono ?_
        rintro e w3 ⟨rfl, hb3⟩
        have HB3 := Lib.hid (chain HB2.out hb3)
        have HG3 := Lib.hid (row_on HG2.out hb3)
        clear hb3 hc0 hc1 hc2 hlt2 HB2 HG2
        go_upto_region 5 with (refine wpList_store_row rfl 23 (.tmp 8) (.tmp 34) rfl w3.heap.size (bcells X) rfl rfl 23 _ (heap_alloc_new _ _) HSZX.out HSO.out (bcells_one _) ?_)
        rw [World.setRow_alloc_new]
        generalize hV : World.alloc w3 _ = V3
        have hbV : Below w3.heap.size w3 V3 := by rw [← hV]; exact below_new _ _
        have HX4 : RowKit.Hid (V3.heap[w3.heap.size]? = some (.cells (bcells X) 23 (0, 0))) := Lib.hid (by rw [← hV]; exact heap_alloc_new _ _)
        have hxb : w.heap.size < w3.heap.size := (Array.getElem?_eq_some_iff.1 HG3.out).1
        obtain ⟨XB, hXB⟩ : ∃ XB, w3.heap.size = XB := ⟨_, rfl⟩
        have HB4 := Lib.hid (chain HB3.out hbV)
        have HG4 := Lib.hid (row_on HG3.out hbV)
        rw [hXB] at HX4 hxb
        have HXB := Lib.hid hxb
        try simp only [hXB]
        clear hV hbV HB3 HG3 hXB hxb
        have hlt4 := (Array.getElem?_eq_some_iff.1 HG4.out).1
        obtain ⟨_, hc0, hc1, hc2⟩ := facts3 HG4.out
        go_wp2_with fail
        refine (CK.out _).mono ?_
        rintro e w5 ⟨rfl, hb5⟩
        have HB5 := Lib.hid (chain HB4.out hb5)
        have HG5 := Lib.hid (row_on HG4.out hb5)
        have HX5 := Lib.hid (row_on HX4.out hb5)
        clear hb5 hc0 hc1 hc2 hlt4 HB4 HG4 HX4
        have hlt5 := (Array.getElem?_eq_some_iff.1 HG5.out).1
        obtain ⟨_, hc0, hc1, hc2⟩ := facts3 HG5.out
        go_wp2_with fail
        refine (RE.out _ HB5.out).mono ?_
        rintro e w6 ⟨rfl, hb6⟩
        have HB6 := Lib.hid (chain HB5.out hb6)
        have HG6 := Lib.hid (row_on HG5.out hb6)
        have HX6 := Lib.hid (row_on HX5.out hb6)
        clear hb6 hc0 hc1 hc2 hlt5 HB5 HG5 HX5
        go_upto_region 9 with (refine wpList_store_row rfl 23 (.tmp 11) (.tmp 44) rfl w6.heap.size (bcells K) rfl rfl 23 _ (heap_alloc_new _ _) HSZK.out HSOK.out (bcells_one _) ?_)
        rw [World.setRow_alloc_new]
        generalize hV : World.alloc w6 _ = V6
        have hbV : Below w6.heap.size w6 V6 := by rw [← hV]; exact below_new _ _
        have hkb : XB < w6.heap.size := (Array.getElem?_eq_some_iff.1 HX6.out).1
        obtain ⟨KB, hKB⟩ : ∃ KB, w6.heap.size = KB := ⟨_, rfl⟩
        have hpl0 : PL w KB XB X (T 0) #[.int .i64 jI, .slice CA cl cc, .slice PA pl pc] V6 := by
          have h1 := HXB.out
          rw [HT0.out]
          exact ⟨chain HB6.out hbV, by omega, by rw [← hV, ← hKB]; exact heap_alloc_new _ _, row_on HX6.out hbV, row_on HG6.out hbV⟩
        have HPL := Lib.hid hpl0
        have hlt6 := (Array.getElem?_eq_some_iff.1 hpl0.rg).1
        obtain ⟨_, hc0, hc1, hc2⟩ := facts3 hpl0.rg
        try simp only [hKB]
        clear hV hbV hkb hpl0 HB6 HG6 HX6 hKB
        go_wp2_with fail
        clear hc0 hc1 hc2 hlt6
        go_loopw [13, 14, 15] (fun nn ix _ wr => ∃ k : Nat, k ≤ pl ∧ ix = .int .i64 (k : Int) ∧ nn = .int .i64 (D k : Int) ∧ RowKit.Hid (PL w KB XB X (T k) #[.int .i64 jI, .slice CA cl cc, .slice PA pl pc] wr)) (fun _ ix _ _ => pl - (intOf ix).toNat)
        case atStart => exact ⟨0, by omega, rfl, by rw [HJD.out], HPL⟩
        case round =>
          clear HPL
          obtain ⟨k, hk, rfl, rfl, HPL⟩ := hrel
          have hltg := (Array.getElem?_eq_some_iff.1 HPL.out.rg).1
          obtain ⟨_, hc0, hc1, hc2⟩ := facts3 HPL.out.rg
          by_cases hlt : k < pl
          · have hki : (k : Int) < (pl : Int) := by omega
            obtain ⟨g, o, p, rfl, hp, hp16, hr⟩ := HPA.out k hlt
            have HR := Lib.hid (rangeAt_on hr HPL.out.bl)
            have HXI : (Tryd.prog.info? 23).map (·.size) = some (bvals p).length := by rw [bvals_len, hp16]; kernel_rfl
            have HSZP := Lib.hid (sz16 p hp16)
            have hsop : (16 : Nat) = (bcells p).size := by rw [bcells_size, hp16]
            have HSOP := Lib.hid hsop
            have hts := HTS.out k hlt
            rw [hp] at hts
            have hg16 := HTL.out k
            have hf16 := HTL.out (k + 1)
            obtain ⟨G, hG⟩ : ∃ G, T k = G := ⟨_, rfl⟩
            obtain ⟨F, hF⟩ : ∃ F, T (k + 1) = F := ⟨_, rfl⟩
            rw [hG] at HPL hts hg16
            rw [hF] at hts hf16
            have HSZF := Lib.hid (sz16 F hf16)
            have hsgf : (bcells G).size = (bcells F).size := by rw [bcells_size, bcells_size, hg16, hf16]
            have HSGF := Lib.hid hsgf
            have HLT := Lib.hid hlt
            have HF := Lib.hid hF
            have HG16 := Lib.hid hg16
            have HP16 := Lib.hid hp16
            have hDk := HDL.out k
            have HDK := Lib.hid hDk
            by_cases hev : D k % 2 = 0
            · have hs1 := hts
              unfold stq at hs1
              rw [if_pos hev] at hs1
              have sh1 := SHO.out G p hg16 hp16
              rw [← hs1] at sh1
              have SH := Lib.hid sh1
              have hdi : (D k : Int) % 2 = 0 := by omega
              clear hp hp16 hr hsop hts hs1 hg16 hf16 hG hF hsgf hlt sh1 hev hDk
              go_upto_region 15 with (first | (refine wpList_load_mid rfl 23 (.tmp 79) rfl g (o + k * 16) rfl (bvals p) _ HR.out Tryd.underlying23 rfl HXI ?_) | (refine wpList_store_row rfl 23 (.tmp 15) (.tmp 80) rfl wr.heap.size (bcells p) rfl rfl 23 _ (heap_alloc_new _ _) HSZP.out HSOP.out (bcells_one _) ?_))
              rw [World.setRow_alloc_new]
              generalize hV : World.alloc wr _ = V7
              have hbV : Below wr.heap.size wr V7 := by rw [← hV]; exact below_new _ _
              have hrp : V7.heap[wr.heap.size]? = some (.cells (bcells p) 23 (0, 0)) := by rw [← hV]; exact heap_alloc_new _ _
              have HP7 := Lib.hid (HPL.out.on hbV)
              obtain ⟨PB, hPB⟩ : ∃ PB, wr.heap.size = PB := ⟨_, rfl⟩
              rw [hPB] at hrp
              have HRP := Lib.hid hrp
              try simp only [hPB]
              clear hV hbV hrp HPL hPB hc0 hc1 hc2 hltg HR
              have s1 := slice_short
              refine wp_region_held_drew (S := fun _ => True) (by kernel_rfl) trivial (fun hHeld => ?_)
              obtain ⟨U, hU⟩ : ∃ U, V7.drew = U := ⟨_, rfl⟩
              rw [hU]
              have hbU : Below V7.heap.size V7 U := by rw [← hU]; exact (Below.refl _ _).drew
              have HPU := Lib.hid (HP7.out.on hbU)
              have HRa := Lib.hid (HPU.out.rk)
              have HRb := Lib.hid (row_on HRP.out hbU)
              clear hU hHeld hbU HP7
              refine wpAnyH_take (i := 1) (oi := { dst := Option.some 85, op := Go.Op.slice 23 (Go.Operand.tmp 11) Option.none Option.none Option.none, type := 42, pos := "law.go:140", after := #[], guard := Option.none }) (v := ?_) rfl (by kernel_rfl) (by kernel_rfl) (by kernel_rfl) (fun _ _ _ h => h) (Or.inl ⟨by rfl, ?_⟩) trivial ?_
              rotate_left
              · intro w hSw
                clear hSw
                go_simp
                try with_reducible rfl
              try simp only [Act.put, List.setIfInBounds_toArray, List.set_cons_zero, List.set_cons_succ]
              refine wpAnyH_take (i := 3) (oi := { dst := Option.some 87, op := Go.Op.slice 23 (Go.Operand.tmp 15) Option.none Option.none Option.none, type := 42, pos := "law.go:140", after := #[], guard := Option.none }) (v := ?_) rfl (by kernel_rfl) (by kernel_rfl) (by kernel_rfl) (fun _ _ _ h => h) (Or.inl ⟨by rfl, ?_⟩) trivial ?_
              rotate_left
              · intro w hSw
                clear hSw
                go_simp
                try with_reducible rfl
              try simp only [Act.put, List.setIfInBounds_toArray, List.set_cons_zero, List.set_cons_succ]
              refine wpAnyH_ready (rs := [0]) (by kernel_rfl) (by simp) (AllReadyH.cons (o := { dst := Option.some 84, op := Go.Op.buildSlice 42 1 #[(0, Go.Operand.const (Go.Value.int Go.IntKind.u8 1))], type := 42, pos := "law.go:140", after := #[], guard := Option.none }) rfl (fun K hK => ?_) AllReadyH.nil)
              go_simp
              generalize hz : World.alloc U _ = z0
              have hr0 : z0.heap[U.heap.size]? = some (.cells (bcells [1]) 5 (0, 0)) := by rw [← hz]; exact heap_alloc_new _ _
              have hb0 : Below U.heap.size U z0 := by rw [← hz]; exact below_new _ _
              clear hz
              refine hK.out _ _ trivial (fun _ => ?_)
              clear hK K
              try simp only [Act.put, List.setIfInBounds_toArray, List.set_cons_zero, List.set_cons_succ]
              refine wpAnyH_ready (rs := [2]) (by kernel_rfl) (by simp) (AllReadyH.cons (o := { dst := Option.some 86, op := Go.Op.call { callee := Go.Callee.builtin Go.Builtin.append, args := #[Go.Operand.tmp 84, Go.Operand.tmp 85], argTypes := #[42, 42] }, type := 42, pos := "law.go:140", after := #[{ on := 0, ground := Go.Ground.data }, { on := 1, ground := Go.Ground.data }], guard := Option.none }) rfl (fun K hK => ?_) AllReadyH.nil)
              try rw [if_pos (by rfl)]
              refine wp_append_u87 (.tmp 84) (.tmp 85) rfl U.heap.size (.slice (some ⟨U.heap.size, 0, none⟩) 1 1) 1 (bvals [1]) rfl (own_row1 hr0) ⟨KB, 0, none⟩ 16 16 G rfl HG16.out (row_bvals (row_on HRa.out hb0)) (by omega) hb0.size ?_
              intro v1 z1 ho1 hg1
              have hb1 : Below U.heap.size U z1 := hb0.grown hg1 hb0.size (fun j hj => by have hj2 := Option.some.inj (show some U.heap.size = some j from hj); omega)
              refine hK.out _ _ trivial (fun _ => ?_)
              clear hK K
              try simp only [Act.put, List.setIfInBounds_toArray, List.set_cons_zero, List.set_cons_succ]
              refine wpAnyH_ready (rs := [4]) (by kernel_rfl) (by simp) (AllReadyH.cons (o := { dst := Option.some 88, op := Go.Op.call { callee := Go.Callee.builtin Go.Builtin.append, args := #[Go.Operand.tmp 86, Go.Operand.tmp 87], argTypes := #[42, 42] }, type := 42, pos := "law.go:140", after := #[{ on := 2, ground := Go.Ground.data }, { on := 3, ground := Go.Ground.data }, { on := 2, ground := Go.Ground.chain }], guard := Option.none }) rfl (fun K hK => ?_) AllReadyH.nil)
              try rw [if_pos (by rfl)]
              refine wp_append_u87 (.tmp 86) (.tmp 87) rfl U.heap.size v1 17 (bvals [1] ++ bvals G) rfl ho1 ⟨PB, 0, none⟩ 16 16 p rfl HP16.out (row_bvals (row_on HRb.out hb1)) (by omega) hb1.size ?_
              intro v2 z2 ho2 hg2
              have hb2 : Below U.heap.size U z2 := hb1.grown hg2 hb1.size (fun j hj => (own_ge ho1 hj).1)
              refine hK.out _ _ trivial (fun _ => ?_)
              clear hK K
              try simp only [Act.put, List.setIfInBounds_toArray, List.set_cons_zero, List.set_cons_succ]
              refine wpAnyH_ready (rs := [5]) (by kernel_rfl) (by simp) (AllReadyH.cons (o := { dst := Option.some 89, op := Go.Op.call { callee := Go.Callee.value (Go.Operand.func 28), args := #[Go.Operand.tmp 88], argTypes := #[42] }, type := 23, pos := "law.go:140", after := #[{ on := 4, ground := Go.Ground.data }, { on := 4, ground := Go.Ground.chain }], guard := Option.none }) rfl (fun K hK => ?_) AllReadyH.nil)
              go_simp
              have ho3 : z2.ownsRow U.heap.size 5 1 v2 33 (bvals (([1] ++ G) ++ p)) := by rw [bvals_app, bvals_app]; exact ho2
              refine (SH.out z2 v2 U.heap.size (chain HPU.out.bl hb2) ho3).mono ?_
              rintro e z3 ⟨rfl, hb3⟩
              have HP3 := Lib.hid ((HPU.out.on hb2).on hb3)
              go_simp
              refine hK.out _ _ trivial (fun _ => ?_)
              clear hK K
              try simp only [Act.put, List.setIfInBounds_toArray, List.set_cons_zero, List.set_cons_succ]
              refine wpAnyH_ready (rs := [6]) (by kernel_rfl) (by simp) (AllReadyH.cons (o := { dst := Option.none, op := Go.Op.store 23 (Go.Operand.tmp 11) (Go.Operand.tmp 89), type := 0, pos := "law.go:140", after := #[{ on := 5, ground := Go.Ground.data }, { on := 5, ground := Go.Ground.chain }, { on := 0, ground := Go.Ground.phase }, { on := 1, ground := Go.Ground.phase }, { on := 2, ground := Go.Ground.phase }, { on := 3, ground := Go.Ground.phase }, { on := 4, ground := Go.Ground.phase }, { on := 5, ground := Go.Ground.phase }], guard := Option.none }) rfl (fun K hK => ?_) AllReadyH.nil)
              try rw [if_pos (by rfl)]
              refine wp_store_mid 23 (.tmp 11) (.tmp 89) rfl KB 0 (bcells F) rfl rfl (there_row HP3.out.rk _ (by rw [HSGF.out]; exact Nat.le_refl _)) HSZF.out (bcells_one _) ?_
              have HP4 := Lib.hid (HP3.out.put F HSGF.out)
              refine hK.out _ _ trivial (fun _ => ?_)
              clear hK K
              try simp only [Act.put, List.setIfInBounds_toArray, List.set_cons_zero, List.set_cons_succ]
              refine wpAnyH_done (by kernel_rfl) ?_ _
              generalize World.setCells _ _ _ _ = z5 at HP4 ⊢
              rw [← HF.out] at HP4
              have h8 := HLT.out
              have h9 := HP100.out
              have h7 := HDS.out k
              have h6 := HDK.out
              clear hb0 hb1 hb2 hb3 ho1 ho2 ho3 hg1 hg2 hr0
              go_wp2_with fail
              refine ⟨⟨k + 1, by omega, by go_num, ?_, HP4⟩, by simp [intOf]; omega⟩
              have h5 : (D k : Int) / 2 = (D (k + 1) : Int) := by omega
              rw [h5]
            · have hs1 := hts
              unfold stq at hs1
              rw [if_neg hev] at hs1
              have sh1 := SHO.out p G hp16 hg16
              rw [← hs1] at sh1
              have SH := Lib.hid sh1
              have hdi : (D k : Int) % 2 = 1 := by omega
              clear hp hp16 hr hsop hts hs1 hg16 hf16 hG hF hsgf hlt sh1 hev hDk
              go_upto_region 16 with (first | (refine wpList_load_mid rfl 23 (.tmp 79) rfl g (o + k * 16) rfl (bvals p) _ HR.out Tryd.underlying23 rfl HXI ?_) | (refine wpList_store_row rfl 23 (.tmp 15) (.tmp 80) rfl wr.heap.size (bcells p) rfl rfl 23 _ (heap_alloc_new _ _) HSZP.out HSOP.out (bcells_one _) ?_))
              rw [World.setRow_alloc_new]
              generalize hV : World.alloc wr _ = V7
              have hbV : Below wr.heap.size wr V7 := by rw [← hV]; exact below_new _ _
              have hrp : V7.heap[wr.heap.size]? = some (.cells (bcells p) 23 (0, 0)) := by rw [← hV]; exact heap_alloc_new _ _
              have HP7 := Lib.hid (HPL.out.on hbV)
              obtain ⟨PB, hPB⟩ : ∃ PB, wr.heap.size = PB := ⟨_, rfl⟩
              rw [hPB] at hrp
              have HRP := Lib.hid hrp
              try simp only [hPB]
              clear hV hbV hrp HPL hPB hc0 hc1 hc2 hltg HR
              have s1 := slice_short
              refine wp_region_held_drew (S := fun _ => True) (by kernel_rfl) trivial (fun hHeld => ?_)
              obtain ⟨U, hU⟩ : ∃ U, V7.drew = U := ⟨_, rfl⟩
              rw [hU]
              have hbU : Below V7.heap.size V7 U := by rw [← hU]; exact (Below.refl _ _).drew
              have HPU := Lib.hid (HP7.out.on hbU)
              have HRa := Lib.hid (row_on HRP.out hbU)
              have HRb := Lib.hid (HPU.out.rk)
              clear hU hHeld hbU HP7
              refine wpAnyH_take (i := 1) (oi := { dst := Option.some 91, op := Go.Op.slice 23 (Go.Operand.tmp 15) Option.none Option.none Option.none, type := 42, pos := "law.go:142", after := #[], guard := Option.none }) (v := ?_) rfl (by kernel_rfl) (by kernel_rfl) (by kernel_rfl) (fun _ _ _ h => h) (Or.inl ⟨by rfl, ?_⟩) trivial ?_
              rotate_left
              · intro w hSw
                clear hSw
                go_simp
                try with_reducible rfl
              try simp only [Act.put, List.setIfInBounds_toArray, List.set_cons_zero, List.set_cons_succ]
              refine wpAnyH_take (i := 3) (oi := { dst := Option.some 93, op := Go.Op.slice 23 (Go.Operand.tmp 11) Option.none Option.none Option.none, type := 42, pos := "law.go:142", after := #[], guard := Option.none }) (v := ?_) rfl (by kernel_rfl) (by kernel_rfl) (by kernel_rfl) (fun _ _ _ h => h) (Or.inl ⟨by rfl, ?_⟩) trivial ?_
              rotate_left
              · intro w hSw
                clear hSw
                go_simp
                try with_reducible rfl
              try simp only [Act.put, List.setIfInBounds_toArray, List.set_cons_zero, List.set_cons_succ]
              refine wpAnyH_ready (rs := [0]) (by kernel_rfl) (by simp) (AllReadyH.cons (o := { dst := Option.some 90, op := Go.Op.buildSlice 42 1 #[(0, Go.Operand.const (Go.Value.int Go.IntKind.u8 1))], type := 42, pos := "law.go:142", after := #[], guard := Option.none }) rfl (fun K hK => ?_) AllReadyH.nil)
              go_simp
              generalize hz : World.alloc U _ = z0
              have hr0 : z0.heap[U.heap.size]? = some (.cells (bcells [1]) 5 (0, 0)) := by rw [← hz]; exact heap_alloc_new _ _
              have hb0 : Below U.heap.size U z0 := by rw [← hz]; exact below_new _ _
              clear hz
              refine hK.out _ _ trivial (fun _ => ?_)
              clear hK K
              try simp only [Act.put, List.setIfInBounds_toArray, List.set_cons_zero, List.set_cons_succ]
              refine wpAnyH_ready (rs := [2]) (by kernel_rfl) (by simp) (AllReadyH.cons (o := { dst := Option.some 92, op := Go.Op.call { callee := Go.Callee.builtin Go.Builtin.append, args := #[Go.Operand.tmp 90, Go.Operand.tmp 91], argTypes := #[42, 42] }, type := 42, pos := "law.go:142", after := #[{ on := 0, ground := Go.Ground.data }, { on := 1, ground := Go.Ground.data }], guard := Option.none }) rfl (fun K hK => ?_) AllReadyH.nil)
              try rw [if_pos (by rfl)]
              refine wp_append_u87 (.tmp 90) (.tmp 91) rfl U.heap.size (.slice (some ⟨U.heap.size, 0, none⟩) 1 1) 1 (bvals [1]) rfl (own_row1 hr0) ⟨PB, 0, none⟩ 16 16 p rfl HP16.out (row_bvals (row_on HRa.out hb0)) (by omega) hb0.size ?_
              intro v1 z1 ho1 hg1
              have hb1 : Below U.heap.size U z1 := hb0.grown hg1 hb0.size (fun j hj => by have hj2 := Option.some.inj (show some U.heap.size = some j from hj); omega)
              refine hK.out _ _ trivial (fun _ => ?_)
              clear hK K
              try simp only [Act.put, List.setIfInBounds_toArray, List.set_cons_zero, List.set_cons_succ]
              refine wpAnyH_ready (rs := [4]) (by kernel_rfl) (by simp) (AllReadyH.cons (o := { dst := Option.some 94, op := Go.Op.call { callee := Go.Callee.builtin Go.Builtin.append, args := #[Go.Operand.tmp 92, Go.Operand.tmp 93], argTypes := #[42, 42] }, type := 42, pos := "law.go:142", after := #[{ on := 2, ground := Go.Ground.data }, { on := 3, ground := Go.Ground.data }, { on := 2, ground := Go.Ground.chain }], guard := Option.none }) rfl (fun K hK => ?_) AllReadyH.nil)
              try rw [if_pos (by rfl)]
              refine wp_append_u87 (.tmp 92) (.tmp 93) rfl U.heap.size v1 17 (bvals [1] ++ bvals p) rfl ho1 ⟨KB, 0, none⟩ 16 16 G rfl HG16.out (row_bvals (row_on HRb.out hb1)) (by omega) hb1.size ?_
              intro v2 z2 ho2 hg2
              have hb2 : Below U.heap.size U z2 := hb1.grown hg2 hb1.size (fun j hj => (own_ge ho1 hj).1)
              refine hK.out _ _ trivial (fun _ => ?_)
              clear hK K
              try simp only [Act.put, List.setIfInBounds_toArray, List.set_cons_zero, List.set_cons_succ]
              refine wpAnyH_ready (rs := [5]) (by kernel_rfl) (by simp) (AllReadyH.cons (o := { dst := Option.some 95, op := Go.Op.call { callee := Go.Callee.value (Go.Operand.func 28), args := #[Go.Operand.tmp 94], argTypes := #[42] }, type := 23, pos := "law.go:142", after := #[{ on := 4, ground := Go.Ground.data }, { on := 4, ground := Go.Ground.chain }], guard := Option.none }) rfl (fun K hK => ?_) AllReadyH.nil)
              go_simp
              have ho3 : z2.ownsRow U.heap.size 5 1 v2 33 (bvals (([1] ++ p) ++ G)) := by rw [bvals_app, bvals_app]; exact ho2
              refine (SH.out z2 v2 U.heap.size (chain HPU.out.bl hb2) ho3).mono ?_
              rintro e z3 ⟨rfl, hb3⟩
              have HP3 := Lib.hid ((HPU.out.on hb2).on hb3)
              go_simp
              refine hK.out _ _ trivial (fun _ => ?_)
              clear hK K
              try simp only [Act.put, List.setIfInBounds_toArray, List.set_cons_zero, List.set_cons_succ]
              refine wpAnyH_ready (rs := [6]) (by kernel_rfl) (by simp) (AllReadyH.cons (o := { dst := Option.none, op := Go.Op.store 23 (Go.Operand.tmp 11) (Go.Operand.tmp 95), type := 0, pos := "law.go:142", after := #[{ on := 5, ground := Go.Ground.data }, { on := 5, ground := Go.Ground.chain }, { on := 0, ground := Go.Ground.phase }, { on := 1, ground := Go.Ground.phase }, { on := 2, ground := Go.Ground.phase }, { on := 3, ground := Go.Ground.phase }, { on := 4, ground := Go.Ground.phase }, { on := 5, ground := Go.Ground.phase }], guard := Option.none }) rfl (fun K hK => ?_) AllReadyH.nil)
              try rw [if_pos (by rfl)]
              refine wp_store_mid 23 (.tmp 11) (.tmp 95) rfl KB 0 (bcells F) rfl rfl (there_row HP3.out.rk _ (by rw [HSGF.out]; exact Nat.le_refl _)) HSZF.out (bcells_one _) ?_
              have HP4 := Lib.hid (HP3.out.put F HSGF.out)
              refine hK.out _ _ trivial (fun _ => ?_)
              clear hK K
              try simp only [Act.put, List.setIfInBounds_toArray, List.set_cons_zero, List.set_cons_succ]
              refine wpAnyH_done (by kernel_rfl) ?_ _
              generalize World.setCells _ _ _ _ = z5 at HP4 ⊢
              rw [← HF.out] at HP4
              have h8 := HLT.out
              have h9 := HP100.out
              have h7 := HDS.out k
              have h6 := HDK.out
              clear hb0 hb1 hb2 hb3 ho1 ho2 ho3 hg1 hg2 hr0
              go_wp2_with fail
              refine ⟨⟨k + 1, by omega, by go_num, ?_, HP4⟩, by simp [intOf]; omega⟩
              have h5 : (D k : Int) / 2 = (D (k + 1) : Int) := by omega
              rw [h5]
          · have hkk : k = pl := by omega
            subst hkk
            have hge : ¬ (k : Int) < (k : Int) := by omega
            rw [HXX.out] at HPL
            have hqe := HQE.out
            clear hlt
            go_wp2_with (first | (refine wpList_load_wantedR (by rfl) 23 (.tmp 8) rfl XB rfl 23 (bcells X) (0, 0) _ _ HPL.out.rx Tryd.underlying23 HSZX.out ?_) | (refine wpList_load_wantedR (by rfl) 23 (.tmp 11) rfl KB rfl 23 (bcells X) (0, 0) _ _ HPL.out.rk Tryd.underlying23 HSZX.out ?_))
            go_ret
            exact ⟨rfl, HPL.out.bl⟩
      · have hXz := hX1 he
        have hz16 : ∀ w, (binOp .eql 23 (.agg (bcells (List.replicate 16 0))) (.agg #[.int .u8 0, .int .u8 0, .int .u8 0, .int .u8 0, .int .u8 0, .int .u8 0, .int .u8 0, .int .u8 0, .int .u8 0, .int .u8 0, .int .u8 0, .int .u8 0, .int .u8 0, .int .u8 0, .int .u8 0, .int .u8 0])).run Tryd.prog w = .ok (.bool true) w := fun w => by
          have h := eql_short (List.replicate 16 0) (List.replicate 16 0) rfl rfl w
          rw [show ((List.replicate 16 (0 : UInt8)) == (List.replicate 16 (0 : UInt8))) = true by simp] at h
          exact h
        obtain ⟨X, hX⟩ : ∃ X, rtV l cs ps h n = X := ⟨_, rfl⟩
        rw [hX] at hro hX16 hXz
        have HSZX := Lib.hid (sz16 X hX16)
        have hso : (16 : Nat) = (bcells X).size := by rw [bcells_size, hX16]
        have HSO := Lib.hid hso
        have HSZK := Lib.hid (sz16 K hK16)
        have hsok : (16 : Nat) = (bcells K).size := by rw [bcells_size, hK16]
        have HSOK := Lib.hid hsok
        obtain ⟨m, hm⟩ : ∃ m, l.length = m := ⟨_, rfl⟩
        obtain ⟨cl, hcl2⟩ : ∃ cl, cs.length = cl := ⟨_, rfl⟩
        obtain ⟨pl, hpl2⟩ : ∃ pl, ps.length = pl := ⟨_, rfl⟩
        rw [← hXz] at hz16
        obtain ⟨ea, hea⟩ : ∃ ea, chkV h n cs.length ps.length = ea := ⟨_, rfl⟩
        rw [hea] at hro hck he
        have hd : (ea != 0) = true := by simp [he]
        rw [hm] at h2i hlm hro hre ⊢
        rw [hcl2] at GR hro hck hre ⊢
        rw [hpl2] at GR hro hck ⊢
        have RO := Lib.hid hro
        have CK := Lib.hid hck
        have RE := Lib.hid hre
        have HZ := Lib.hid hz16
        clear hro hck hre hX16 hXz hX0 hX1 hsho hX hso hsok hm hcl2 hpl2 hea he hK16 hK35 hz16 h2 hg hcl hclm hcn hpl hplm hpn hsrc env hc hcm hsc hsp
        go_enter Tryd.func8, Tryd.ntmps8
        go_wp2_with fail
        refine (AL.out _ (below_new _ _)).mono ?_
        rintro e w1 ⟨rfl, hb1⟩
        have HG1 := Lib.hid (row_on (heap_alloc_new w _) hb1)
        have HB1 := Lib.hid (chain (below_new w _) hb1)
        clear hb1
        have hlt1 := (Array.getElem?_eq_some_iff.1 HG1.out).1
        obtain ⟨_, hc0, hc1, hc2⟩ := facts3 HG1.out
        go_wp2_with fail
        refine (GR.out _).mono ?_
        rintro e w2 ⟨rfl, hb2⟩
        have HB2 := Lib.hid (chain HB1.out hb2)
        have HG2 := Lib.hid (row_on HG1.out hb2)
        clear hb2 hc0 hc1 hc2 hlt1 HB1 HG1
        have hlt2 := (Array.getElem?_eq_some_iff.1 HG2.out).1
        obtain ⟨_, hc0, hc1, hc2⟩ := facts3 HG2.out
        go_wp2_with fail
        refine (RO.out _ HB2.out).mono ?_
        rintro e w3 ⟨rfl, hb3⟩
        have HB3 := Lib.hid (chain HB2.out hb3)
        have HG3 := Lib.hid (row_on HG2.out hb3)
        clear hb3 hc0 hc1 hc2 hlt2 HB2 HG2
        go_upto_region 5 with (refine wpList_store_row rfl 23 (.tmp 8) (.tmp 34) rfl w3.heap.size (bcells X) rfl rfl 23 _ (heap_alloc_new _ _) HSZX.out HSO.out (bcells_one _) ?_)
        rw [World.setRow_alloc_new]
        generalize hV : World.alloc w3 _ = V3
        have hbV : Below w3.heap.size w3 V3 := by rw [← hV]; exact below_new _ _
        have HX4 : RowKit.Hid (V3.heap[w3.heap.size]? = some (.cells (bcells X) 23 (0, 0))) := Lib.hid (by rw [← hV]; exact heap_alloc_new _ _)
        have hxb : w.heap.size < w3.heap.size := (Array.getElem?_eq_some_iff.1 HG3.out).1
        obtain ⟨XB, hXB⟩ : ∃ XB, w3.heap.size = XB := ⟨_, rfl⟩
        have HB4 := Lib.hid (chain HB3.out hbV)
        have HG4 := Lib.hid (row_on HG3.out hbV)
        rw [hXB] at HX4 hxb
        have HXB := Lib.hid hxb
        try simp only [hXB]
        clear hV hbV HB3 HG3 hXB hxb
        have hlt4 := (Array.getElem?_eq_some_iff.1 HG4.out).1
        obtain ⟨_, hc0, hc1, hc2⟩ := facts3 HG4.out
        go_wp2_with fail
        refine (CK.out _).mono ?_
        rintro e w5 ⟨rfl, hb5⟩
        have HB5 := Lib.hid (chain HB4.out hb5)
        have HG5 := Lib.hid (row_on HG4.out hb5)
        have HX5 := Lib.hid (row_on HX4.out hb5)
        clear hb5 hc0 hc1 hc2 hlt4 HB4 HG4 HX4
        have hlt5 := (Array.getElem?_eq_some_iff.1 HG5.out).1
        obtain ⟨_, hc0, hc1, hc2⟩ := facts3 HG5.out
        go_wp2_with fail
        refine (RE.out _ HB5.out).mono ?_
        rintro e w6 ⟨rfl, hb6⟩
        have HB6 := Lib.hid (chain HB5.out hb6)
        have HG6 := Lib.hid (row_on HG5.out hb6)
        have HX6 := Lib.hid (row_on HX5.out hb6)
        clear hb6 hc0 hc1 hc2 hlt5 HB5 HG5 HX5
        have hq := HZ.out
        go_wp2_with (first | (refine wpList_store_row rfl 23 (.tmp 11) (.tmp 44) rfl w6.heap.size (bcells K) rfl rfl 23 _ (heap_alloc_new _ _) HSZK.out HSOK.out (bcells_one _) ?_) | (refine wpList_load_wantedR (by rfl) 23 (.tmp 8) rfl XB rfl 23 (bcells X) (0, 0) _ _ (by rw [World.setRow_alloc_new]; exact row_on HX6.out (below_new _ _)) Tryd.underlying23 HSZX.out ?_))
        go_ret
        exact ⟨rfl, by rw [World.setRow_alloc_new]; exact HB6.out.alloc HB6.out.size _⟩
  · have h6 : (2000 : Int) < (l.length : Int) := by omega
    obtain ⟨m, hm⟩ : ∃ m, l.length = m := ⟨_, rfl⟩
    rw [hm] at h6 hlm ⊢
    clear h2 hm hsrc env hc hcm hsc hsp
    go_enter Tryd.func8, Tryd.ntmps8
    go_wp2_with fail
    refine (AL.out _ (below_new _ _)).mono ?_
    rintro e w1 ⟨rfl, hb1⟩
    have HG1 := Lib.hid (row_on (heap_alloc_new w _) hb1)
    have HB1 := Lib.hid (chain (below_new w _) hb1)
    clear hb1
    go_wp2_with fail
    go_ret
    exact ⟨rfl, HB1.out⟩
set_option maxRecDepth 100000 in
theorem paths7_lifted (os : Os) (started : os.Started) (H : Type) (enc : TypeId × Value → H) :
    ReturnsInHanded {} Tryd.checked os 8 .any (fun w args => (Rows.merklePathsSpec.pre enc Tryd.prog Tryd.f8 Rows.merklePathsRow.domain false w args ∧ laidMet Tryd.prog laidDig w) ∧ sizedMet enc Tryd.prog Tryd.f8 (OpenSpec.ofChange Rows.merklePathsSpec) false w args)
      (Rows.merklePathsSpec.post enc Tryd.prog Tryd.f8 false true false false) := by
  refine returns_laid (C := Tryd.checked) (X := fun w => laidMet Tryd.prog laidDig w) (fun _ _ hh h => h.of_heap hh) Tryd.own started (by kernel_rfl) Tryd.func8
    (ChangeSpec.witness_at (enc := enc) (C := Tryd.checked) (os := os) (X := fun w _ => laidMet Tryd.prog laidDig w) false (laidWorldD os) #[.int .i64 0, .slice none 0 0, .agg #[.int .i64 0, .slice none 0 0, .slice none 0 0]] 8 rfl (by kernel_rfl) (by kernel_rfl) (by kernel_rfl) (by kernel_rfl) (by kernel_rfl) (laidWorldD_met os _)) ?_
  intro W base args ds gs before hval0 hW hL hsh
  have hval : ∀ (j : Nat) t v, Tryd.f8.params[j]? = some t → args[j]? = some v → Value.okWide Tryd.prog W .any base t v := hval0
  have env := denv_of_laid hL
  have hW' := hW
  obtain ⟨p, q, hA0, hV, rfl, hfz, hnd⟩ := hW
  have hA : DataW.TrodAll enc Tryd.prog W 0 (fun _ => true) true Tryd.f8.params.toList args.toList ds p := hA0
  rw [Tryd.params8] at hA hval
  obtain ⟨v0, vs0, d0, ds0, p0, q0, hargs, rfl, rfl, h0, r0⟩ := trodAll_cons hA
  obtain ⟨v1, vs1, d1, ds1, p1, q1, rfl, rfl, rfl, h1, r1⟩ := trodAll_cons r0
  obtain ⟨v2, vs2, d2, ds2, p2, q2, rfl, rfl, rfl, h2, r2⟩ := trodAll_cons r1
  obtain ⟨rfl, rfl, rfl⟩ := trodAll_nil r2
  obtain rfl : args = #[v0, v1, v2] := by cases args; simp_all
  obtain ⟨rfl, rfl⟩ := trodVars_none hV
  obtain ⟨a0, rfl, e0, f0, w0⟩ := open_int Tryd.underlying3 (hval 0 3 v0 rfl rfl) h0
  obtain ⟨A1, l1, c1, rfl, hc1, hm1, hs1⟩ := open_bytes (hval 1 42 v1 rfl rfl) h1
  obtain ⟨n2, CA2, PA2, cs2, ps2, cc2, pc2, rfl, hcl2, hcm2, hcn2, hpl2, hpm2, hpn2, hsc2, hsp2⟩ := open_sig (hval 2 31 v2 rfl rfl) h2
  refine (paths7_true a0 l1 A1 c1 hc1 hm1 n2 CA2 PA2 cs2 ps2 cc2 pc2 hcl2 hcm2 hcn2 hpl2 hpm2 hpn2 W hs1 hsc2 hsp2 env).mono fun e W' ⟨he, hg⟩ => ?_
  subst he
  exact ⟨_, rfl, law_post Tryd.laidOut (by kernel_rfl) (by kernel_rfl) hW' hg (trodAll_cons_mk (shut_bool Tryd.underlying4 _) trodAll_mk0) rfl rfl⟩
/-- the row -/
theorem paths7_row : Rows.MerklePathsSaid :=
  OpenClaim.holds_of_wide 8 Tryd.f8 rfl rfl rfl rfl rfl rfl rfl ⟨rfl, rfl, rfl, rfl, rfl⟩ rfl rfl rfl rfl rfl (by kernel_rfl) Tryd.func8 (by kernel_rfl)
    (of_decide_eq_true (by kernel_rfl)) (by unfold Func.isWrapper; rw [if_neg (of_decide_eq_false (by kernel_rfl))]; exact ⟨rfl, rfl⟩)
    (fun os started H enc _ => paths7_lifted os started H enc)
/-- the statement -/
theorem paths7_holds : Rows.MerklePathsCardSaid :=
  Claim7.holds_tied_plain_at .later [] [.data, .data] true (true, "5c5ef3e3a029439297996ab8412620a6e742b6df2095b9fbc6f4dac02e25c51a") false
    paths7_row (fun _ h => by cases h) (by kernel_rfl) (fun _ h => by cases h) merklePaths_row_tie rfl ⟨rfl, rfl⟩ (by kernel_rfl) rfl
    (fun f fn hf hfn => by
      obtain rfl : f = 8 := Option.some.inj ((show Tryd.prog.funcNamed "gatepath/gatepathlaw07.MerklePaths" = some 8 by kernel_rfl).symm.trans hf) |>.symm
      obtain rfl : fn = Tryd.f8 := (Option.some.inj (Tryd.func8.symm.trans hfn)).symm
      exact ⟨by kernel_rfl, fun j t ht => by
        rw [Tryd.params8] at ht
        have hp : t = 3 ∨ t = 42 ∨ t = 31 := by
          rcases j with _ | _ | _ | j
          · left; simpa using ht.symm
          · right; left; simpa using ht.symm
          · right; right; simpa using ht.symm
          · simp at ht
        rcases hp with rfl | rfl | rfl
        · exact (show Tryd.prog.wantsStandIn 3 = false by kernel_rfl)
        · exact (show Tryd.prog.wantsStandIn 42 = false by kernel_rfl)
        · exact (show Tryd.prog.wantsStandIn 31 = false by kernel_rfl)⟩)
    (by kernel_rfl)
#print axioms paths7_holds
end Go.Proofs.YtgnemclpopjhoaaDoor
