/-
  OctetChecks: Check, Same, Twin of both sides. Written by wip/gen-oc23.py.
-/
import Derived.Test.YtlbchefdkdngnaaOcRL
import Derived.Test.YtlbchefdkdngnaaRows
namespace Go.Proofs.Ytlbchefdkdngnaa
open Go.ChangeShapes Go.WideShapes Go.ChangeAt Go.RowKit Sha Oc
set_option linter.unusedVariables false
set_option linter.unusedSimpArgs false
set_option maxRecDepth 100000
set_option maxHeartbeats 8000000 in
theorem checks8_true (w : World) (o1 : Oct) (x1 y1 : Value) (h1 : At (fun _ => True) w o1 x1 y1) (o2 : Oct) (x2 y2 : Value) (h2 : At (fun _ => True) w o2 x2 y2) :
    Calls Try.prog 4 #[.agg (cell3 o1 x1 y1), .agg (cell3 o2 x2 y2)] w (fun e w' => e = .returned (.bool true) ∧ Below w.heap.size w w') := by
  have HG1 := Lib.hid (fun (V : World) (hb : Below w.heap.size w V) => great8_any o1 V x1 y1 (h1.on hb))
  have HG2 := Lib.hid (fun (V : World) (hb : Below w.heap.size w V) => great8_any o2 V x2 y2 (h2.on hb))
  have HTR := Lib.hid (fun (q1 : cnt o1 ≤ 5000) (q2 : tot o1 ≤ 100000) (V : World) (hb : Below w.heap.size w V) => twin_ref8 5000 o1 q1 (Nat.le_refl _) q2 V x1 y1 (h1.on hb))
  have HTP := Lib.hid (fun (q1 : cnt o1 ≤ 5000) (q2 : tot o1 ≤ 100000) (V : World) (hb : Below w.heap.size w V) => twin_all 5000 o1 q1 (Nat.le_refl _) q2 V x1 y1 (h1.on hb))
  have HCP := Lib.hid (fun (q1 : cnt o1 ≤ 900000) (q2 : tot o1 ≤ 400000) (V : World) (hb : Below w.heap.size w V) => check_any8 o1 q1 q2 V x1 y1 (h1.on hb))
  have HCR := Lib.hid (fun (q1 : cnt o1 ≤ 4200) (q2 : tot o1 ≤ 80000) (V : World) (hb : Below w.heap.size w V) => check_ref8 o1 (by omega) (by omega) V x1 y1 (h1.on hb))
  have HPS := Lib.hid (fun (o' : Oct) (q1 : cnt o1 ≤ 10000) (q2 : cnt o' ≤ 10000) (q3 : tot o1 ≤ 1000000) (q4 : tot o' ≤ 1000000) (V : World) (hb : Below w.heap.size w V) (x' y' : Value) (h' : At (fun _ => True) V o' x' y') => psame_any 10000 o1 o' q1 (Nat.le_refl _) q2 q3 q4 V x1 y1 x' y' (h1.on hb) h')
  have HRS := Lib.hid (fun (o' : Oct) (q1 : cnt o1 ≤ 10000) (q2 : cnt o' ≤ 10000) (q3 : tot o1 ≤ 1000000) (q4 : tot o' ≤ 1000000) (V : World) (hb : Below w.heap.size w V) (x' y' : Value) (h' : At (fun _ => True) V o' x' y') => rsame_any 10000 o1 o' q1 (Nat.le_refl _) q2 q3 q4 V x1 y1 x' y' (h1.on hb) h')
  unfold GtPost at HG1 HG2
  unfold TwPost at HTR HTP
  unfold EqPost at HPS HRS
  obtain ⟨A1, m1, c1, B1, n1, d1, rfl, rfl⟩ := h1.slices
  obtain ⟨A2, m2, c2, B2, n2, d2, rfl, rfl⟩ := h2.slices
  have HA2 := Lib.hid h2
  have HA1 := Lib.hid h1
  obtain ⟨t1, ht1⟩ : ∃ t1 : Int, ((tagO o1).toNat : Int) = t1 := ⟨_, rfl⟩
  obtain ⟨t2, ht2⟩ : ∃ t2 : Int, ((tagO o2).toNat : Int) = t2 := ⟨_, rfl⟩
  have HT1 := Lib.hid ht1
  have HT2 := Lib.hid ht2
  unfold cell3 at HG1 HG2 HTR HTP HCP HCR HPS HRS
  show Calls Try.prog 4 #[.agg #[.int .u8 ((tagO o1).toNat : Int), .slice A1 m1 c1, .slice B1 n1 d1], .agg #[.int .u8 ((tagO o2).toNat : Int), .slice A2 m2 c2, .slice B2 n2 d2]] w _
  rw [ht1] at HG1 HTR HTP HCP HCR HPS HRS ⊢
  rw [ht2] at HG2 ⊢
  have hr1 := heap_alloc2_old8 w (.cells #[.int .u8 t1, .slice A1 m1 c1, .slice B1 n1 d1] 28) (.cells #[.int .u8 t2, .slice A2 m2 c2, .slice B2 n2 d2] 28)
  have hr2 := heap_alloc2_new8 w (.cells #[.int .u8 t1, .slice A1 m1 c1, .slice B1 n1 d1] 28) (.cells #[.int .u8 t2, .slice A2 m2 c2, .slice B2 n2 d2] 28)
  have hb0 : Below w.heap.size w ((w.alloc (.cells #[.int .u8 t1, .slice A1 m1 c1, .slice B1 n1 d1] 28)).alloc (.cells #[.int .u8 t2, .slice A2 m2 c2, .slice B2 n2 d2] 28)) := ((Below.refl _ w).alloc (Nat.le_refl _) _).alloc (by simp) _
  have HR1 := Lib.hid hr1
  have HR2 := Lib.hid hr2
  have HB0 := Lib.hid hb0
  clear ht1 ht2 h1 h2 hr1 hr2 hb0
  go_enter Try.func4, Try.ntmps4
  go_upto_region 1 with (fail)
  try rw [World.size_alloc]
  generalize hV : World.alloc (World.alloc w _) _ = V at HR1 HR2 HB0 ⊢
  clear hV
  have hlp := (Array.getElem?_eq_some_iff.1 (HR1.out)).1
  obtain ⟨_, p0, p1, p2⟩ := facts3 (HR1.out)
  have hrp := range3o p0 p1 p2
  go_wp2_with fail
  refine (HG1.out V HB0.out).mono ?_
  rintro e w1 ⟨g1, rfl, hgt1, hb1⟩
  have HP1 := Lib.hid (row_on HR1.out hb1)
  have HQ1 := Lib.hid (row_on HR2.out hb1)
  have HB1 := Lib.hid (chain HB0.out hb1)
  clear hb1 HR1 HR2 HB0 HG1
  clear hlp p0 p1 p2 hrp
  cases g1 with
  | true =>
    clear hgt1
    go_wp2_with fail
    go_ret
    exact ⟨rfl, HB1.out⟩
  | false =>
    have hlq := (Array.getElem?_eq_some_iff.1 (HQ1.out)).1
    obtain ⟨_, q0, q1, q2⟩ := facts3 (HQ1.out)
    have hrq := range3o q0 q1 q2
    go_wp2_with fail
    refine (HG2.out w1 HB1.out).mono ?_
    rintro e w2 ⟨g2, rfl, hgt2, hb2⟩
    have HP2 := Lib.hid (row_on HP1.out hb2)
    have HQ2 := Lib.hid (row_on HQ1.out hb2)
    have HB2 := Lib.hid (chain HB1.out hb2)
    clear hb2 HP1 HQ1 HG2 HB1
    clear hlq q0 q1 q2 hrq
    cases g2 with
    | true =>
      clear hgt1 hgt2
      go_wp2_with fail
      go_ret
      exact ⟨rfl, HB2.out⟩
    | false =>
      obtain ⟨ca, _, ta⟩ := hgt1 (by first | rfl | trivial)
      obtain ⟨cb, _, tb⟩ := hgt2 (by first | rfl | trivial)
      have HCT := Lib.hid (show cnt o1 ≤ 4200 ∧ tot o1 ≤ 80000 ∧ cnt o2 ≤ 4200 ∧ tot o2 ≤ 80000 from ⟨ca, ta, cb, tb⟩)
      have HTR2 := Lib.hid (HTR.out (by omega) (by omega) w2 HB2.out)
      have HTP2 := Lib.hid (HTP.out (by omega) (by omega))
      clear ca ta cb tb hgt1 hgt2 HTR HTP
      have hlp := (Array.getElem?_eq_some_iff.1 (HP2.out)).1
      obtain ⟨_, p0, p1, p2⟩ := facts3 (HP2.out)
      have hrp := range3o p0 p1 p2
      go_wp2_with fail
      refine HTR2.out.mono ?_
      rintro e w3 ⟨xw, yw, rfl, hwas, hb3⟩
      obtain ⟨A3, m3, c3, B3, n3, d3, rfl, rfl⟩ := hwas.slices
      have hb4 := below_new w3 (.cells #[.int .u8 t1, .slice A3 m3 c3, .slice B3 n3 d3] 28)
      have hr4 := heap_alloc_new w3 (.cells #[.int .u8 t1, .slice A3 m3 c3, .slice B3 n3 d3] 28)
      have hwas4 := hwas.any.on hb4
      obtain ⟨SB, hSB⟩ : ∃ SB, w3.heap.size = SB := ⟨_, rfl⟩
      rw [hSB] at hr4
      have HB4 := Lib.hid (chain HB2.out (chain hb3 hb4))
      have HP4 := Lib.hid (row_on HP2.out (chain hb3 hb4))
      have HQ4 := Lib.hid (row_on HQ2.out (chain hb3 hb4))
      have HW4 := Lib.hid hr4
      have HAW4 := Lib.hid hwas4
      clear hb3 hb4 hr4 hwas hwas4 HP2 HQ2 HB2 HTR2
      clear hlp p0 p1 p2 hrp
      try unfold cell3
      try simp only [HT1.out]
      go_upto_region 4 with (fail)
      try rw [hSB]
      generalize World.alloc w3 _ = w4 at HB4 HP4 HQ4 HW4 HAW4 ⊢
      clear hSB
      have HTP4 := Lib.hid (HTP2.out w4 HB4.out)
      clear HTP2
      have hlp := (Array.getElem?_eq_some_iff.1 (HP4.out)).1
      obtain ⟨_, p0, p1, p2⟩ := facts3 (HP4.out)
      have hrp := range3o p0 p1 p2
      go_wp2_with fail
      refine HTP4.out.mono ?_
      rintro e w5 ⟨xc, yc, rfl, hatc, hb5⟩
      obtain ⟨A4, m4, c4, B4, n4, d4, rfl, rfl⟩ := hatc.slices
      have hb6 := below_new w5 (.cells #[.int .u8 t1, .slice A4 m4 c4, .slice B4 n4 d4] 28)
      have hr6 := heap_alloc_new w5 (.cells #[.int .u8 t1, .slice A4 m4 c4, .slice B4 n4 d4] 28)
      have hatc6 := hatc.own (b' := w4.heap.size) hb6 (Nat.le_refl _)
      obtain ⟨CBX, hCB⟩ : ∃ CBX, w5.heap.size = CBX := ⟨_, rfl⟩
      rw [hCB] at hr6
      have HB6 := Lib.hid (chain HB4.out (chain hb5 hb6))
      have HP6 := Lib.hid (row_on HP4.out (chain hb5 hb6))
      have HQ6 := Lib.hid (row_on HQ4.out (chain hb5 hb6))
      have HW6 := Lib.hid (row_on HW4.out (chain hb5 hb6))
      have HAW6 := Lib.hid (HAW4.out.on (chain hb5 hb6))
      have HC6 := Lib.hid hr6
      have HAC6 := Lib.hid hatc6
      have H46 := Lib.hid (chain hb5 hb6)
      clear hb5 hb6 hr6 hatc hatc6 HTP4
      clear hlp p0 p1 p2 hrp
      try unfold cell3
      try simp only [HT1.out]
      go_upto_region 5 with (fail)
      try rw [hCB]
      generalize World.alloc w5 _ = w6 at HB6 HP6 HQ6 HW6 HAW6 HC6 HAC6 H46 ⊢
      clear hCB
      obtain ⟨U, hU⟩ : ∃ U, w6.drew = U := ⟨_, rfl⟩
      have hbU : Below w6.heap.size w6 U := by rw [← hU]; exact (Below.refl _ _).drew
      have H6U := Lib.hid hbU
      have HBU := Lib.hid (chain HB6.out hbU)
      have HPU := Lib.hid (row_on HP6.out hbU)
      have HQU := Lib.hid (row_on HQ6.out hbU)
      have HWU := Lib.hid (row_on HW6.out hbU)
      have HCU := Lib.hid (row_on HC6.out hbU)
      have HAWU := Lib.hid (HAW6.out.on hbU)
      have HACU := Lib.hid (HAC6.out.own (b' := w4.heap.size) hbU (Nat.le_refl _))
      have H4U := Lib.hid (chain H46.out hbU)
      have hct := HCT.out
      have CK1 := Lib.hid (fun (V : World) (hb : Below U.heap.size U V) => HCP.out (by omega) (by omega) V (chain HBU.out hb))
      have CK2 := Lib.hid (fun (V : World) (hb : Below U.heap.size U V) => HCR.out hct.1 hct.2.1 V (chain HBU.out hb))
      have ps1 := fun (V : World) (hb : Below U.heap.size U V) => HPS.out o2 (by omega) (by omega) (by omega) (by omega) V (chain HBU.out hb) _ _ (HA2.out.on (chain HBU.out hb))
      have rs1 := fun (V : World) (hb : Below U.heap.size U V) => HRS.out o2 (by omega) (by omega) (by omega) (by omega) V (chain HBU.out hb) _ _ (HA2.out.on (chain HBU.out hb))
      have ps2 := fun (V : World) (hb : Below U.heap.size U V) => HPS.out o1 (by omega) (by omega) (by omega) (by omega) V (chain HBU.out hb) _ _ (HAWU.out.on hb)
      have rs2 := fun (V : World) (hb : Below U.heap.size U V) => HRS.out o1 (by omega) (by omega) (by omega) (by omega) V (chain HBU.out hb) _ _ (HACU.out.any.on hb)
      rw [HT2.out] at ps1 rs1
      rw [HT1.out, eqO_self] at ps2 rs2
      obtain ⟨eb, heb⟩ : ∃ eb, eqO o1 o2 = eb := ⟨_, rfl⟩
      rw [heb] at ps1 rs1
      have PS1 := Lib.hid ps1
      have RS1 := Lib.hid rs1
      have PS2 := Lib.hid ps2
      have RS2 := Lib.hid rs2
      clear ps1 rs1 ps2 rs2 heb hct
      obtain ⟨E0, hE0⟩ : ∃ E0, ckV o1 = E0 := ⟨_, rfl⟩
      rw [hE0] at CK1 CK2
      clear hE0
      have mkS : ∀ z, Below U.heap.size U z → (z.rangeAt w.heap.size 0 [Value.int .u8 t1, .slice A1 m1 c1, .slice B1 n1 d1] ∧ z.rangeAt (w.heap.size + 1) 0 [Value.int .u8 t2, .slice A2 m2 c2, .slice B2 n2 d2] ∧ z.rangeAt SB 0 [Value.int .u8 t1, .slice A3 m3 c3, .slice B3 n3 d3] ∧ z.rangeAt CBX 0 [Value.int .u8 t1, .slice A4 m4 c4, .slice B4 n4 d4]) := fun z hz => by
        have r1 := (facts3 (row_on HPU.out hz)).2
        have r2 := (facts3 (row_on HQU.out hz)).2
        have r3 := (facts3 (row_on HWU.out hz)).2
        have r4 := (facts3 (row_on HCU.out hz)).2
        exact ⟨range3o r1.1 r1.2.1 r1.2.2, range3o r2.1 r2.2.1 r2.2.2, range3o r3.1 r3.2.1 r3.2.2, range3o r4.1 r4.2.1 r4.2.2⟩
      have hS0 : (w6.drew.rangeAt w.heap.size 0 [Value.int .u8 t1, .slice A1 m1 c1, .slice B1 n1 d1] ∧ w6.drew.rangeAt (w.heap.size + 1) 0 [Value.int .u8 t2, .slice A2 m2 c2, .slice B2 n2 d2] ∧ w6.drew.rangeAt SB 0 [Value.int .u8 t1, .slice A3 m3 c3, .slice B3 n3 d3] ∧ w6.drew.rangeAt CBX 0 [Value.int .u8 t1, .slice A4 m4 c4, .slice B4 n4 d4]) := by rw [hU]; exact mkS _ (Below.refl _ _)
      clear hbU HQ4 HP6 HQ6 HW6 HAW6 HC6 HAC6 HB6 H46
      refine wp_region_held_drew (S := fun z => (z.rangeAt w.heap.size 0 [Value.int .u8 t1, .slice A1 m1 c1, .slice B1 n1 d1] ∧ z.rangeAt (w.heap.size + 1) 0 [Value.int .u8 t2, .slice A2 m2 c2, .slice B2 n2 d2] ∧ z.rangeAt SB 0 [Value.int .u8 t1, .slice A3 m3 c3, .slice B3 n3 d3] ∧ z.rangeAt CBX 0 [Value.int .u8 t1, .slice A4 m4 c4, .slice B4 n4 d4])) (by kernel_rfl) hS0 (fun hHeld => ?_)
      rw [hU] at hHeld ⊢
      clear hS0 hU
      have Z0 := Lib.hid (Below.refl U.heap.size U)
      refine wpAnyH_take (i := 0) (oi := { dst := Option.some 18, op := Go.Op.load 28 (Go.Operand.tmp 2), type := 28, pos := "law.go:28", after := #[], guard := Option.none }) (v := .agg [Value.int .u8 t1, .slice A1 m1 c1, .slice B1 n1 d1].toArray) rfl (by kernel_rfl) (by kernel_rfl) (by kernel_rfl) (fun _ _ _ h => h) (yieldsIf_load_mid (by rfl) _ _ rfl _ _ rfl [Value.int .u8 t1, .slice A1 m1 c1, .slice B1 n1 d1] _ (fun w hSw => hSw.1) Try.underlying28 rfl (sz3o _ _ _)) hHeld ?_
      try simp only [Act.put, List.setIfInBounds_toArray, List.set_cons_zero, List.set_cons_succ]
      refine wpAnyH_take (i := 2) (oi := { dst := Option.some 20, op := Go.Op.load 28 (Go.Operand.tmp 2), type := 28, pos := "law.go:28", after := #[], guard := Option.none }) (v := .agg [Value.int .u8 t1, .slice A1 m1 c1, .slice B1 n1 d1].toArray) rfl (by kernel_rfl) (by kernel_rfl) (by kernel_rfl) (fun _ _ _ h => h) (yieldsIf_load_mid (by rfl) _ _ rfl _ _ rfl [Value.int .u8 t1, .slice A1 m1 c1, .slice B1 n1 d1] _ (fun w hSw => hSw.1) Try.underlying28 rfl (sz3o _ _ _)) hHeld ?_
      try simp only [Act.put, List.setIfInBounds_toArray, List.set_cons_zero, List.set_cons_succ]
      refine wpAnyH_ready (rs := [1]) (by kernel_rfl) (by simp) (AllReadyH.cons (o := { dst := Option.some 19, op := Go.Op.call { callee := Go.Callee.value (Go.Operand.func 13), args := #[Go.Operand.tmp 18], argTypes := #[28] }, type := 23, pos := "law.go:28", after := #[{ on := 0, ground := Go.Ground.data }], guard := Option.none }) rfl (fun K hK => ?_) AllReadyH.nil)
      try rw [if_pos (by rfl)]
      go_simp
      refine (CK1.out U Z0.out).mono ?_
      rintro e z1 ⟨rfl, hb⟩
      have Z1 := Lib.hid (chain Z0.out hb)
      clear hb
      go_simp
      refine hK.out _ _ (mkS _ Z1.out) (fun hHeld2 => ?_)
      clear hK K hHeld
      have hHeld := hHeld2
      clear hHeld2
      try simp only [Act.put, List.setIfInBounds_toArray, List.set_cons_zero, List.set_cons_succ]
      refine wpAnyH_ready (rs := [3]) (by kernel_rfl) (by simp) (AllReadyH.cons (o := { dst := Option.some 21, op := Go.Op.call { callee := Go.Callee.value (Go.Operand.func 27), args := #[Go.Operand.tmp 20], argTypes := #[28] }, type := 3, pos := "law.go:28", after := #[{ on := 2, ground := Go.Ground.data }, { on := 1, ground := Go.Ground.chain }], guard := Option.none }) rfl (fun K hK => ?_) AllReadyH.nil)
      try rw [if_pos (by rfl)]
      go_simp
      refine (CK2.out z1 Z1.out).mono ?_
      rintro e z2 ⟨rfl, hb⟩
      have Z2 := Lib.hid (chain Z1.out hb)
      clear hb
      go_simp
      refine hK.out _ _ (mkS _ Z2.out) (fun hHeld2 => ?_)
      clear hK K hHeld
      have hHeld := hHeld2
      clear hHeld2
      try simp only [Act.put, List.setIfInBounds_toArray, List.set_cons_zero, List.set_cons_succ]
      refine wpAnyH_take (i := 4) (oi := { dst := Option.some 22, op := Go.Op.binOp Go.BinOp.eql 3 (Go.Operand.tmp 19) (Go.Operand.tmp 21) 3, type := 4, pos := "law.go:28", after := #[{ on := 1, ground := Go.Ground.data }, { on := 3, ground := Go.Ground.data }], guard := Option.none }) (v := ?_) rfl (by kernel_rfl) (by kernel_rfl) (by kernel_rfl) (fun _ _ _ h => h) (Or.inl ⟨by rfl, ?_⟩) hHeld ?_
      rotate_left
      · intro w hSw
        clear hSw
        go_simp
        try with_reducible rfl
      try simp only [Act.put, List.setIfInBounds_toArray, List.set_cons_zero, List.set_cons_succ]
      refine wpAnyH_take (i := 5) (oi := { dst := Option.some 23, op := Go.Op.move (Go.Operand.tmp 22), type := 4, pos := "law.go:28", after := #[{ on := 4, ground := Go.Ground.data }, { on := 3, ground := Go.Ground.chain }], guard := Option.none }) (v := ?_) rfl (by kernel_rfl) (by kernel_rfl) (by kernel_rfl) (fun _ _ _ h => h) (Or.inl ⟨by rfl, ?_⟩) hHeld ?_
      rotate_left
      · intro w hSw
        clear hSw
        go_simp
        try with_reducible rfl
      try simp only [Act.put, List.setIfInBounds_toArray, List.set_cons_zero, List.set_cons_succ]
      refine wpAnyH_take (i := 6) (oi := { dst := Option.some 24, op := Go.Op.load 28 (Go.Operand.tmp 2), type := 28, pos := "law.go:28", after := #[{ on := 5, ground := Go.Ground.guard }], guard := Option.some (5, Bool.true) }) (v := .agg [Value.int .u8 t1, .slice A1 m1 c1, .slice B1 n1 d1].toArray) rfl (by kernel_rfl) (by kernel_rfl) (by kernel_rfl) (fun _ _ _ h => h) (yieldsIf_load_mid (by rfl) _ _ rfl _ _ rfl [Value.int .u8 t1, .slice A1 m1 c1, .slice B1 n1 d1] _ (fun w hSw => hSw.1) Try.underlying28 rfl (sz3o _ _ _)) hHeld ?_
      try simp only [Act.put, List.setIfInBounds_toArray, List.set_cons_zero, List.set_cons_succ]
      refine wpAnyH_take (i := 7) (oi := { dst := Option.some 25, op := Go.Op.load 28 (Go.Operand.tmp 3), type := 28, pos := "law.go:28", after := #[{ on := 5, ground := Go.Ground.guard }], guard := Option.some (5, Bool.true) }) (v := .agg [Value.int .u8 t2, .slice A2 m2 c2, .slice B2 n2 d2].toArray) rfl (by kernel_rfl) (by kernel_rfl) (by kernel_rfl) (fun _ _ _ h => h) (yieldsIf_load_mid (by rfl) _ _ rfl _ _ rfl [Value.int .u8 t2, .slice A2 m2 c2, .slice B2 n2 d2] _ (fun w hSw => hSw.2.1) Try.underlying28 rfl (sz3o _ _ _)) hHeld ?_
      try simp only [Act.put, List.setIfInBounds_toArray, List.set_cons_zero, List.set_cons_succ]
      refine wpAnyH_take (i := 9) (oi := { dst := Option.some 27, op := Go.Op.load 28 (Go.Operand.tmp 2), type := 28, pos := "law.go:28", after := #[{ on := 5, ground := Go.Ground.guard }], guard := Option.some (5, Bool.true) }) (v := .agg [Value.int .u8 t1, .slice A1 m1 c1, .slice B1 n1 d1].toArray) rfl (by kernel_rfl) (by kernel_rfl) (by kernel_rfl) (fun _ _ _ h => h) (yieldsIf_load_mid (by rfl) _ _ rfl _ _ rfl [Value.int .u8 t1, .slice A1 m1 c1, .slice B1 n1 d1] _ (fun w hSw => hSw.1) Try.underlying28 rfl (sz3o _ _ _)) hHeld ?_
      try simp only [Act.put, List.setIfInBounds_toArray, List.set_cons_zero, List.set_cons_succ]
      refine wpAnyH_take (i := 10) (oi := { dst := Option.some 28, op := Go.Op.load 28 (Go.Operand.tmp 3), type := 28, pos := "law.go:28", after := #[{ on := 5, ground := Go.Ground.guard }], guard := Option.some (5, Bool.true) }) (v := .agg [Value.int .u8 t2, .slice A2 m2 c2, .slice B2 n2 d2].toArray) rfl (by kernel_rfl) (by kernel_rfl) (by kernel_rfl) (fun _ _ _ h => h) (yieldsIf_load_mid (by rfl) _ _ rfl _ _ rfl [Value.int .u8 t2, .slice A2 m2 c2, .slice B2 n2 d2] _ (fun w hSw => hSw.2.1) Try.underlying28 rfl (sz3o _ _ _)) hHeld ?_
      try simp only [Act.put, List.setIfInBounds_toArray, List.set_cons_zero, List.set_cons_succ]
      refine wpAnyH_ready (rs := [8]) (by kernel_rfl) (by simp) (AllReadyH.cons (o := { dst := Option.some 26, op := Go.Op.call { callee := Go.Callee.value (Go.Operand.func 28), args := #[Go.Operand.tmp 24, Go.Operand.tmp 25], argTypes := #[28, 28] }, type := 4, pos := "law.go:28", after := #[{ on := 6, ground := Go.Ground.data }, { on := 7, ground := Go.Ground.data }, { on := 5, ground := Go.Ground.chain }, { on := 5, ground := Go.Ground.guard }], guard := Option.some (5, Bool.true) }) rfl (fun K hK => ?_) AllReadyH.nil)
      try rw [if_pos (by rfl)]
      go_simp
      refine (PS1.out z2 Z2.out).mono ?_
      rintro e z3 ⟨rfl, hb⟩
      have Z3 := Lib.hid (chain Z2.out hb)
      clear hb
      go_simp
      refine hK.out _ _ (mkS _ Z3.out) (fun hHeld2 => ?_)
      clear hK K hHeld
      have hHeld := hHeld2
      clear hHeld2
      try simp only [Act.put, List.setIfInBounds_toArray, List.set_cons_zero, List.set_cons_succ]
      refine wpAnyH_ready (rs := [11]) (by kernel_rfl) (by simp) (AllReadyH.cons (o := { dst := Option.some 29, op := Go.Op.call { callee := Go.Callee.value (Go.Operand.func 29), args := #[Go.Operand.tmp 27, Go.Operand.tmp 28], argTypes := #[28, 28] }, type := 4, pos := "law.go:28", after := #[{ on := 9, ground := Go.Ground.data }, { on := 10, ground := Go.Ground.data }, { on := 8, ground := Go.Ground.chain }, { on := 5, ground := Go.Ground.guard }], guard := Option.some (5, Bool.true) }) rfl (fun K hK => ?_) AllReadyH.nil)
      try rw [if_pos (by rfl)]
      go_simp
      refine (RS1.out z3 Z3.out).mono ?_
      rintro e z4 ⟨rfl, hb⟩
      have Z4 := Lib.hid (chain Z3.out hb)
      clear hb
      go_simp
      refine hK.out _ _ (mkS _ Z4.out) (fun hHeld2 => ?_)
      clear hK K hHeld
      have hHeld := hHeld2
      clear hHeld2
      try simp only [Act.put, List.setIfInBounds_toArray, List.set_cons_zero, List.set_cons_succ]
      refine wpAnyH_take (i := 12) (oi := { dst := Option.some 30, op := Go.Op.binOp Go.BinOp.eql 4 (Go.Operand.tmp 26) (Go.Operand.tmp 29) 4, type := 4, pos := "law.go:28", after := #[{ on := 8, ground := Go.Ground.data }, { on := 11, ground := Go.Ground.data }, { on := 5, ground := Go.Ground.guard }], guard := Option.some (5, Bool.true) }) (v := ?_) rfl (by kernel_rfl) (by kernel_rfl) (by kernel_rfl) (fun _ _ _ h => h) (Or.inl ⟨by rfl, ?_⟩) hHeld ?_
      rotate_left
      · intro w hSw
        clear hSw
        go_simp
        try with_reducible rfl
      try simp only [Act.put, List.setIfInBounds_toArray, List.set_cons_zero, List.set_cons_succ]
      refine wpAnyH_take (i := 13) (oi := { dst := Option.some 31, op := Go.Op.pick (Go.Operand.tmp 23) (Go.Operand.tmp 30) (Go.Operand.const (Go.Value.bool Bool.false)), type := 4, pos := "law.go:28", after := #[{ on := 5, ground := Go.Ground.data }, { on := 12, ground := Go.Ground.data }], guard := Option.none }) (v := ?_) rfl (by kernel_rfl) (by kernel_rfl) (by kernel_rfl) (fun _ _ _ h => h) (Or.inl ⟨by rfl, ?_⟩) hHeld ?_
      rotate_left
      · intro w hSw
        clear hSw
        go_simp
        try with_reducible rfl
      try simp only [Act.put, List.setIfInBounds_toArray, List.set_cons_zero, List.set_cons_succ]
      refine wpAnyH_take (i := 14) (oi := { dst := Option.some 32, op := Go.Op.move (Go.Operand.tmp 31), type := 4, pos := "law.go:28", after := #[{ on := 13, ground := Go.Ground.data }, { on := 11, ground := Go.Ground.chain }], guard := Option.none }) (v := ?_) rfl (by kernel_rfl) (by kernel_rfl) (by kernel_rfl) (fun _ _ _ h => h) (Or.inl ⟨by rfl, ?_⟩) hHeld ?_
      rotate_left
      · intro w hSw
        clear hSw
        go_simp
        try with_reducible rfl
      try simp only [Act.put, List.setIfInBounds_toArray, List.set_cons_zero, List.set_cons_succ]
      refine wpAnyH_take (i := 15) (oi := { dst := Option.some 33, op := Go.Op.load 28 (Go.Operand.tmp 2), type := 28, pos := "law.go:28", after := #[{ on := 14, ground := Go.Ground.guard }], guard := Option.some (14, Bool.true) }) (v := .agg [Value.int .u8 t1, .slice A1 m1 c1, .slice B1 n1 d1].toArray) rfl (by kernel_rfl) (by kernel_rfl) (by kernel_rfl) (fun _ _ _ h => h) (yieldsIf_load_mid (by rfl) _ _ rfl _ _ rfl [Value.int .u8 t1, .slice A1 m1 c1, .slice B1 n1 d1] _ (fun w hSw => hSw.1) Try.underlying28 rfl (sz3o _ _ _)) hHeld ?_
      try simp only [Act.put, List.setIfInBounds_toArray, List.set_cons_zero, List.set_cons_succ]
      refine wpAnyH_take (i := 16) (oi := { dst := Option.some 34, op := Go.Op.load 28 (Go.Operand.tmp 5), type := 28, pos := "law.go:28", after := #[{ on := 14, ground := Go.Ground.guard }], guard := Option.some (14, Bool.true) }) (v := .agg [Value.int .u8 t1, .slice A3 m3 c3, .slice B3 n3 d3].toArray) rfl (by kernel_rfl) (by kernel_rfl) (by kernel_rfl) (fun _ _ _ h => h) (yieldsIf_load_mid (by rfl) _ _ rfl _ _ rfl [Value.int .u8 t1, .slice A3 m3 c3, .slice B3 n3 d3] _ (fun w hSw => hSw.2.2.1) Try.underlying28 rfl (sz3o _ _ _)) hHeld ?_
      try simp only [Act.put, List.setIfInBounds_toArray, List.set_cons_zero, List.set_cons_succ]
      refine wpAnyH_ready (rs := [17]) (by kernel_rfl) (by simp) (AllReadyH.cons (o := { dst := Option.some 35, op := Go.Op.call { callee := Go.Callee.value (Go.Operand.func 28), args := #[Go.Operand.tmp 33, Go.Operand.tmp 34], argTypes := #[28, 28] }, type := 4, pos := "law.go:28", after := #[{ on := 15, ground := Go.Ground.data }, { on := 16, ground := Go.Ground.data }, { on := 14, ground := Go.Ground.chain }, { on := 14, ground := Go.Ground.guard }], guard := Option.some (14, Bool.true) }) rfl (fun K hK => ?_) AllReadyH.nil)
      try rw [if_pos (by rfl)]
      go_simp
      refine (PS2.out z4 Z4.out).mono ?_
      rintro e z5 ⟨rfl, hb⟩
      have Z5 := Lib.hid (chain Z4.out hb)
      clear hb
      go_simp
      refine hK.out _ _ (mkS _ Z5.out) (fun hHeld2 => ?_)
      clear hK K hHeld
      have hHeld := hHeld2
      clear hHeld2
      try simp only [Act.put, List.setIfInBounds_toArray, List.set_cons_zero, List.set_cons_succ]
      refine wpAnyH_take (i := 18) (oi := { dst := Option.some 36, op := Go.Op.pick (Go.Operand.tmp 32) (Go.Operand.tmp 35) (Go.Operand.const (Go.Value.bool Bool.false)), type := 4, pos := "law.go:28", after := #[{ on := 14, ground := Go.Ground.data }, { on := 17, ground := Go.Ground.data }], guard := Option.none }) (v := ?_) rfl (by kernel_rfl) (by kernel_rfl) (by kernel_rfl) (fun _ _ _ h => h) (Or.inl ⟨by rfl, ?_⟩) hHeld ?_
      rotate_left
      · intro w hSw
        clear hSw
        go_simp
        try with_reducible rfl
      try simp only [Act.put, List.setIfInBounds_toArray, List.set_cons_zero, List.set_cons_succ]
      refine wpAnyH_take (i := 19) (oi := { dst := Option.some 37, op := Go.Op.move (Go.Operand.tmp 36), type := 4, pos := "law.go:28", after := #[{ on := 18, ground := Go.Ground.data }, { on := 17, ground := Go.Ground.chain }], guard := Option.none }) (v := ?_) rfl (by kernel_rfl) (by kernel_rfl) (by kernel_rfl) (fun _ _ _ h => h) (Or.inl ⟨by rfl, ?_⟩) hHeld ?_
      rotate_left
      · intro w hSw
        clear hSw
        go_simp
        try with_reducible rfl
      try simp only [Act.put, List.setIfInBounds_toArray, List.set_cons_zero, List.set_cons_succ]
      refine wpAnyH_take (i := 20) (oi := { dst := Option.some 38, op := Go.Op.load 28 (Go.Operand.tmp 2), type := 28, pos := "law.go:28", after := #[{ on := 19, ground := Go.Ground.guard }], guard := Option.some (19, Bool.true) }) (v := .agg [Value.int .u8 t1, .slice A1 m1 c1, .slice B1 n1 d1].toArray) rfl (by kernel_rfl) (by kernel_rfl) (by kernel_rfl) (fun _ _ _ h => h) (yieldsIf_load_mid (by rfl) _ _ rfl _ _ rfl [Value.int .u8 t1, .slice A1 m1 c1, .slice B1 n1 d1] _ (fun w hSw => hSw.1) Try.underlying28 rfl (sz3o _ _ _)) hHeld ?_
      try simp only [Act.put, List.setIfInBounds_toArray, List.set_cons_zero, List.set_cons_succ]
      refine wpAnyH_take (i := 21) (oi := { dst := Option.some 39, op := Go.Op.load 28 (Go.Operand.tmp 6), type := 28, pos := "law.go:28", after := #[{ on := 19, ground := Go.Ground.guard }], guard := Option.some (19, Bool.true) }) (v := .agg [Value.int .u8 t1, .slice A4 m4 c4, .slice B4 n4 d4].toArray) rfl (by kernel_rfl) (by kernel_rfl) (by kernel_rfl) (fun _ _ _ h => h) (yieldsIf_load_mid (by rfl) _ _ rfl _ _ rfl [Value.int .u8 t1, .slice A4 m4 c4, .slice B4 n4 d4] _ (fun w hSw => hSw.2.2.2) Try.underlying28 rfl (sz3o _ _ _)) hHeld ?_
      try simp only [Act.put, List.setIfInBounds_toArray, List.set_cons_zero, List.set_cons_succ]
      refine wpAnyH_ready (rs := [22]) (by kernel_rfl) (by simp) (AllReadyH.cons (o := { dst := Option.some 40, op := Go.Op.call { callee := Go.Callee.value (Go.Operand.func 29), args := #[Go.Operand.tmp 38, Go.Operand.tmp 39], argTypes := #[28, 28] }, type := 4, pos := "law.go:28", after := #[{ on := 20, ground := Go.Ground.data }, { on := 21, ground := Go.Ground.data }, { on := 19, ground := Go.Ground.chain }, { on := 19, ground := Go.Ground.guard }], guard := Option.some (19, Bool.true) }) rfl (fun K hK => ?_) AllReadyH.nil)
      try rw [if_pos (by rfl)]
      go_simp
      refine (RS2.out z5 Z5.out).mono ?_
      rintro e z6 ⟨rfl, hb⟩
      have Z6 := Lib.hid (chain Z5.out hb)
      clear hb
      go_simp
      refine hK.out _ _ (mkS _ Z6.out) (fun hHeld2 => ?_)
      clear hK K hHeld
      have hHeld := hHeld2
      clear hHeld2
      try simp only [Act.put, List.setIfInBounds_toArray, List.set_cons_zero, List.set_cons_succ]
      refine wpAnyH_take (i := 23) (oi := { dst := Option.some 41, op := Go.Op.pick (Go.Operand.tmp 37) (Go.Operand.tmp 40) (Go.Operand.const (Go.Value.bool Bool.false)), type := 4, pos := "law.go:28", after := #[{ on := 19, ground := Go.Ground.data }, { on := 22, ground := Go.Ground.data }], guard := Option.none }) (v := ?_) rfl (by kernel_rfl) (by kernel_rfl) (by kernel_rfl) (fun _ _ _ h => h) (Or.inl ⟨by rfl, ?_⟩) hHeld ?_
      rotate_left
      · intro w hSw
        clear hSw
        go_simp
        try with_reducible rfl
      try simp only [Act.put, List.setIfInBounds_toArray, List.set_cons_zero, List.set_cons_succ]
      refine wpAnyH_take (i := 24) (oi := { dst := Option.some 7, op := Go.Op.assign (Go.Operand.tmp 41), type := 4, pos := "law.go:28", after := #[{ on := 23, ground := Go.Ground.data }, { on := 22, ground := Go.Ground.chain }, { on := 0, ground := Go.Ground.phase }, { on := 1, ground := Go.Ground.phase }, { on := 2, ground := Go.Ground.phase }, { on := 3, ground := Go.Ground.phase }, { on := 4, ground := Go.Ground.phase }, { on := 5, ground := Go.Ground.phase }, { on := 6, ground := Go.Ground.phase }, { on := 7, ground := Go.Ground.phase }, { on := 8, ground := Go.Ground.phase }, { on := 9, ground := Go.Ground.phase }, { on := 10, ground := Go.Ground.phase }, { on := 11, ground := Go.Ground.phase }, { on := 12, ground := Go.Ground.phase }, { on := 13, ground := Go.Ground.phase }, { on := 14, ground := Go.Ground.phase }, { on := 15, ground := Go.Ground.phase }, { on := 16, ground := Go.Ground.phase }, { on := 17, ground := Go.Ground.phase }, { on := 18, ground := Go.Ground.phase }, { on := 19, ground := Go.Ground.phase }, { on := 20, ground := Go.Ground.phase }, { on := 21, ground := Go.Ground.phase }, { on := 22, ground := Go.Ground.phase }, { on := 23, ground := Go.Ground.phase }], guard := Option.none }) (v := ?_) rfl (by kernel_rfl) (by kernel_rfl) (by kernel_rfl) (fun _ _ _ h => h) (Or.inl ⟨by rfl, ?_⟩) hHeld ?_
      rotate_left
      · intro w hSw
        clear hSw
        go_simp
        try with_reducible rfl
      try simp only [Act.put, List.setIfInBounds_toArray, List.set_cons_zero, List.set_cons_succ]
      refine wpAnyH_done (by kernel_rfl) ?_ _
      clear mkS hHeld
      have HBZ := Lib.hid (chain HBU.out Z6.out)
      have hct := HCT.out
      have hsp := spoil_all 10000 (Nat.le_refl _) w4.heap.size o1 (by omega) (by omega) z6 _ _ (by have h1 := H4U.out.size; have h2 := Z6.out.size; omega) (HACU.out.own (b' := w4.heap.size) Z6.out (Nat.le_refl _))
      unfold cell3 at hsp
      rw [HT1.out] at hsp
      have HSP := Lib.hid hsp
      have HCZ := Lib.hid (row_on HCU.out Z6.out)
      clear hsp hct HPU HQU HWU HCU HAWU HACU
      have hlq := (Array.getElem?_eq_some_iff.1 (HCZ.out)).1
      obtain ⟨_, q0, q1, q2⟩ := facts3 (HCZ.out)
      have hrq := range3o q0 q1 q2
      go_wp2_with fail
      refine HSP.out.mono ?_
      rintro e wz ⟨rfl, hsp⟩
      have h4z : Below w4.heap.size w4 wz := (chain H4U.out Z6.out).trans (hsp.below (Nat.le_refl _))
      have hct := HCT.out
      have hsm := HRS.out o1 (by omega) (by omega) (by omega) (by omega) wz (chain HB4.out h4z) _ _ (HAW4.out.on h4z)
      rw [HT1.out, eqO_self] at hsm
      have HSM := Lib.hid hsm
      have HEND := Lib.hid (chain HB4.out h4z)
      have HPE := Lib.hid (row_on HP4.out h4z)
      have HWE := Lib.hid (row_on HW4.out h4z)
      clear hct hsm h4z hsp hlq q0 q1 q2 hrq
      have hlp := (Array.getElem?_eq_some_iff.1 (HPE.out)).1
      obtain ⟨_, p0, p1, p2⟩ := facts3 (HPE.out)
      have hrp := range3o p0 p1 p2
      have hlr := (Array.getElem?_eq_some_iff.1 (HWE.out)).1
      obtain ⟨_, r0, r1, r2⟩ := facts3 (HWE.out)
      have hrr := range3o r0 r1 r2
      go_wp2_with fail
      refine HSM.out.mono ?_
      rintro e wy ⟨rfl, hby⟩
      have HEN2 := Lib.hid (chain HEND.out hby)
      clear hby hlp p0 p1 p2 hrp hlr r0 r1 r2 hrr
      go_wp2_with fail
      go_ret
      exact ⟨rfl, HEN2.out⟩
/-! The row -/
set_option maxRecDepth 100000 in
theorem checks8_lifted (os : Os) (started : os.Started) (H : Type) (enc : TypeId × Value → H) :
    ReturnsInHanded {} Try.checked os 4 .any (Rows.octetChecksSpec.pre6 enc Try.prog Try.f4 Rows.octetChecksRow.domain false) (Rows.octetChecksSpec.post enc Try.prog Try.f4 false true false false) := by
  refine sized_of_change (C := Try.checked) Try.own started (by kernel_rfl) Try.func4 rfl
    (ChangeSpec.witness6 (enc := enc) (C := Try.checked) false ⟨#[], #[.agg #[.int .u8 0, .slice none 0 0, .slice none 0 0], .agg #[.int .u8 0, .slice none 0 0, .slice none 0 0]], []⟩ 8 (by kernel_rfl) (by kernel_rfl) (by kernel_rfl) (by kernel_rfl)) ?_
  intro W base args ds gs before hval0 hW hwts
  have hval : ∀ (j : Nat) t v, Try.f4.params[j]? = some t → args[j]? = some v → Value.okWide Try.prog W .any base t v := hval0
  have hW' := hW
  obtain ⟨p, q, hA0, hV, rfl, hfz, hnd⟩ := hW
  have hA : DataW.TrodAll enc Try.prog W 0 (fun _ => true) true Try.f4.params.toList args.toList ds p := hA0
  have hwt : ∀ n ∈ DataW.weightsEach Try.prog Try.f4.params.toList ds, n ≤ 140737488355328 := hwts
  rw [Try.params4] at hA hval hwt
  obtain ⟨v0, vs0, d0, ds0, p0, q0, hargs, rfl, rfl, h0, r0⟩ := trodAll_cons hA
  obtain ⟨v1, vs1, d1, ds1, p1, q1, rfl, rfl, rfl, h1, r1⟩ := trodAll_cons r0
  obtain ⟨rfl, rfl, rfl⟩ := trodAll_nil r1
  obtain rfl : args = #[v0, v1] := by cases args; simp_all
  obtain ⟨rfl, rfl⟩ := trodVars_none hV
  obtain ⟨o0, x0, y0, rfl, hat0⟩ := open_oct (hval 0 28 v0 rfl rfl) h0 (fun n hn => hwt n (List.mem_append_left _ hn))
  obtain ⟨o1, x1, y1, rfl, hat1⟩ := open_oct (hval 1 28 v1 rfl rfl) h1 (fun n hn => hwt n (List.mem_append_right _ (List.mem_append_left _ hn)))
  refine (checks8_true W o0 x0 y0 hat0 o1 x1 y1 hat1).mono fun e W' ⟨he, hg⟩ => ?_
  subst he
  exact ⟨_, rfl, law_post Try.laidOut (by kernel_rfl) (by kernel_rfl) hW' hg (trodAll_cons_mk (shut_bool Try.underlying4 _) trodAll_mk0) rfl rfl⟩

/-- the statement -/
theorem checks8_holds : Rows.OctetChecksSaid :=
  OpenClaim.holds_of_wide 4 Try.f4 rfl rfl rfl rfl rfl rfl rfl ⟨rfl, rfl, rfl, rfl, rfl⟩ rfl rfl rfl rfl rfl (by kernel_rfl) Try.func4 (by kernel_rfl)
    (of_decide_eq_true (by kernel_rfl)) (by unfold Func.isWrapper; rw [if_neg (of_decide_eq_false (by kernel_rfl))]; exact ⟨rfl, rfl⟩)
    (fun os started H enc _ => checks8_lifted os started H enc)
#print axioms checks8_holds
end Go.Proofs.Ytlbchefdkdngnaa
