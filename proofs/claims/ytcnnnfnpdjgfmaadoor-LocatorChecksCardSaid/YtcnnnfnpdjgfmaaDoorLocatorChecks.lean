/- LocatorChecks: Check and Text answer as the document says, and leave the locator as it was. For every locator. No condition. -/
import Derived.Test.YtcnnnfnpdjgfmaaDoorLocRG
import Derived.Test.YtcnnnfnpdjgfmaaDoorLocDoor
import Derived.Test.YtcnnnfnpdjgfmaaDoorLocWrap
import Derived.Test.YtcnnnfnpdjgfmaaDoorLocOpenB
namespace Go.Proofs.YtcnnnfnpdjgfmaaDoor
open Go.ChangeShapes Go.WideShapes Go.ChangeAt Go.RowKit Lo
open Go.WideMaps Go.WideElems
open Go.ChangeMaps (open_string shut_string)
set_option linter.unusedVariables false
set_option linter.unusedSimpArgs false
theorem LocAt.great {l : Lc} {A : Option Addr} {c : Nat} {w : World} (hs : l.sch < 256) (ha : StrsAt A l.parts w) (hc : l.parts.length ≤ c) (hg : greatB l = false) : LocAt l A c w := by
  unfold greatB at hg
  simp only [Bool.or_eq_false_iff, decide_eq_false_iff_not, List.any_eq_false, decide_eq_true_eq] at hg
  exact ⟨hs, by omega, ha, hc, fun p hp => by have := hg.2 p hp; omega⟩
theorem great_len {l : Lc} (hg : greatB l = false) : l.parts.length ≤ 30 := by
  unfold greatB at hg
  simp only [Bool.or_eq_false_iff, decide_eq_false_iff_not] at hg
  omega
set_option maxRecDepth 100000 in
set_option maxHeartbeats 16000000 in
theorem checks_true (l : Lc) (A : Option Addr) (c : Nat) (w : World) (env : LEnv false w) (hs : l.sch < 256) (ha : StrsAt A l.parts w) (hc : l.parts.length ≤ c) (hn : A = none → c = 0) :
    Calls Tryd.prog 4 #[locV l A c] w fun e w' => e = .returned (.bool true) ∧ Below w.heap.size w w' := by
  have hG := env.big
  have HE := Lib.hid env
  have HGR := Lib.hid (fun (V : World) (hb : Below w.heap.size w V) => great_any l A c V (ha.on hb) hc)
  have hrow := heap_alloc_new w (.cells #[.int .u8 l.sch, .string (str l.host), .int .i64 l.port, .slice A l.parts.length c, .bool l.dir] 24)
  have hbel := below_new w (.cells #[.int .u8 l.sch, .string (str l.host), .int .i64 l.port, .slice A l.parts.length c, .bool l.dir] 24)
  clear env
  cases hg : greatB l with
  | true =>
    rw [hg] at HGR
    obtain ⟨S, H, p, L, d⟩ := l
    unfold locV at HGR ⊢
    simp only at HGR hrow hbel ⊢
    clear hg
    go_enter Tryd.func4, Tryd.ntmps4
    go_upto_region 1 with (fail)
    generalize hw1 : World.alloc w _ = w1
    have HR1 := Lib.hid (show w1.heap[w.heap.size]? = some (.cells #[.int .u8 S, .string (str H), .int .i64 p, .slice A L.length c, .bool d] 24 (0, 0)) by rw [← hw1]; exact hrow)
    have HB1 := Lib.hid (show Below w.heap.size w w1 by rw [← hw1]; exact hbel)
    clear hw1 hrow hbel
    obtain ⟨hz, m0, m1, m2, m3, m4, -, -, -, -, -⟩ := locfacts HR1.out
    go_wp2_with fail
    refine (HGR.out w1 HB1.out).mono ?_
    rintro e w2 ⟨rfl, hb2⟩
    have HB2 := Lib.hid (HB1.out.trans (hb2.mono HB1.out.size))
    have HR2 := Lib.hid (row_on HR1.out hb2)
    clear hb2 hz m0 m1 m2 m3 m4
    obtain ⟨hz, m0, m1, m2, m3, m4, -, -, -, -, -⟩ := locfacts HR2.out
    go_wp2_with fail
    go_ret
    exact ⟨rfl, HB2.out⟩
  | false =>
    rw [hg] at HGR
    have hat := LocAt.great hs ha hc hg
    have HT := Lib.hid (fun (V : World) (ev : LEnv false V) (hb : Below w.heap.size w V) => Text_any l A c V ev (hat.on hb))
    have HRT := Lib.hid (fun (V : World) (hb : Below w.heap.size w V) => rText_any l A c V (hat.on hb))
    have HCK := Lib.hid (fun (V : World) (ev : LEnv false V) (hb : Below w.heap.size w V) => check_any l A c V ev (hat.on hb))
    have HRC := Lib.hid (fun (V : World) (hb : Below w.heap.size w V) => rcheck_any l A c V (hat.on hb))
    have HTW := Lib.hid (fun (V : World) (hb : Below w.heap.size w V) => twin9_any l A c V (ha.on hb) hn (by have := great_len hg; omega))
    have HSM := Lib.hid (fun (A2 : Option Addr) (c2 : Nat) (V : World) (hb : Below w.heap.size w V) (h2 : StrsAt A2 l.parts V) (hc2 : l.parts.length ≤ c2) => same_any l l A c A2 c2 V (ha.on hb) h2 (by have := great_len hg; omega) hc hc2)
    rw [show sameB l l = true by unfold sameB; exact decide_eq_true rfl] at HSM
    generalize (textL l).1 = T1 at HT HRT
    generalize (textL l).2 = T2 at HT HRT
    generalize chk l = CK at HCK HRC
    have ieq : ((str T1).toList == (str T1).toList) = true := beq_self_eq_true _
    obtain ⟨S, H, p, L, d⟩ := l
    unfold locV at HGR HT HRT HCK HRC HTW HSM ⊢
    simp only at HGR HT HRT HCK HRC HTW HSM hrow hbel ⊢
    clear hg hat ha hc hn hs
    go_enter Tryd.func4, Tryd.ntmps4
    go_upto_region 1 with (fail)
    generalize hw1 : World.alloc w _ = w1
    have HR1 := Lib.hid (show w1.heap[w.heap.size]? = some (.cells #[.int .u8 S, .string (str H), .int .i64 p, .slice A L.length c, .bool d] 24 (0, 0)) by rw [← hw1]; exact hrow)
    have HB1 := Lib.hid (show Below w.heap.size w w1 by rw [← hw1]; exact hbel)
    clear hw1 hrow hbel
    obtain ⟨hz, m0, m1, m2, m3, m4, -, -, -, -, -⟩ := locfacts HR1.out
    go_wp2_with fail
    refine (HGR.out w1 HB1.out).mono ?_
    rintro e w2 ⟨rfl, hb2⟩
    have HB2 := Lib.hid (HB1.out.trans (hb2.mono HB1.out.size))
    have HR2 := Lib.hid (row_on HR1.out hb2)
    clear hb2 hz m0 m1 m2 m3 m4
    obtain ⟨hz, m0, m1, m2, m3, m4, -, -, -, -, -⟩ := locfacts HR2.out
    go_wp2_with fail
    refine (HTW.out w2 HB2.out).mono ?_
    rintro e w3 ⟨A2, c2, rfl, hsa, hc2, hb3⟩
    have HC2 := Lib.hid hc2
    have HB3 := Lib.hid (HB2.out.trans (hb3.mono HB2.out.size))
    have HR3 := Lib.hid (row_on HR2.out hb3)
    clear hb3 hc2 hz m0 m1 m2 m3 m4
    go_upto_region 4 with (fail)
    generalize hw4 : World.alloc w3 _ = w4
    have b4 : Below w3.heap.size w3 w4 := by rw [← hw4]; exact below_new _ _
    have HM4 := Lib.hid (show w4.heap[w3.heap.size]? = some (.cells #[.int .u8 S, .string (str H), .int .i64 p, .slice A2 L.length c2, .bool d] 24 (0, 0)) by rw [← hw4]; exact heap_alloc_new _ _)
    have HB4 := Lib.hid (HB3.out.trans (b4.mono HB3.out.size))
    have HR4 := Lib.hid (row_on HR3.out b4)
    have SA4 := Lib.hid (hsa.on b4)
    clear b4 hw4 hsa
    generalize w3.heap.size = M at HM4 ⊢
    obtain ⟨hz, m0, m1, m2, m3, m4, -, -, -, -, -⟩ := locfacts HR4.out
    go_wp2_with fail
    refine (HT.out w4 (HE.out.below HB4.out hG) HB4.out).mono ?_
    rintro e w5 ⟨rfl, hb⟩
    have HB5 := Lib.hid (HB4.out.trans (hb.mono HB4.out.size))
    have HR5 := Lib.hid (row_on HR4.out hb)
    have HM5 := Lib.hid (row_on HM4.out hb)
    have SA5 := Lib.hid (SA4.out.on hb)
    clear hb hz m0 m1 m2 m3 m4
    obtain ⟨hz, m0, m1, m2, m3, m4, -, -, -, -, -⟩ := locfacts HR5.out
    go_wp2_with fail
    refine (HRT.out w5 HB5.out).mono ?_
    rintro e v6 ⟨rfl, hb⟩
    have HB6 := Lib.hid (HB5.out.trans (hb.mono HB5.out.size))
    have HR6 := Lib.hid (row_on HR5.out hb)
    have HM6 := Lib.hid (row_on HM5.out hb)
    have SA := Lib.hid (SA5.out.on hb)
    clear hb hz m0 m1 m2 m3 m4
    go_upto_region 6 with (fail)
    have HCH := Lib.hid (fun (z : World) (h : Below v6.heap.size v6 z) => HB6.out.trans (h.mono HB6.out.size))
    obtain ⟨N, hN⟩ : ∃ N, w.heap.size = N := ⟨_, rfl⟩
    rw [hN] at HR6
    try simp only [hN]
    clear HR1 HR2 HR3 HR4 HR5 HM4 HM5 SA4 SA5
    have mkS : ∀ z, Below v6.heap.size v6 z → Below v6.heap.size v6 z ∧ (z.cell? ⟨N, 0, none⟩ = some (.int .u8 S) ∧ z.cell? ⟨N, 1, none⟩ = some (.string (str H)) ∧ z.cell? ⟨N, 2, none⟩ = some (.int .i64 p) ∧ z.cell? ⟨N, 3, none⟩ = some (.slice A L.length c) ∧ z.cell? ⟨N, 4, none⟩ = some (.bool d)) ∧ (z.cell? ⟨M, 0, none⟩ = some (.int .u8 S) ∧ z.cell? ⟨M, 1, none⟩ = some (.string (str H)) ∧ z.cell? ⟨M, 2, none⟩ = some (.int .i64 p) ∧ z.cell? ⟨M, 3, none⟩ = some (.slice A2 L.length c2) ∧ z.cell? ⟨M, 4, none⟩ = some (.bool d)) := fun z hz => by
      obtain ⟨_, a0, a1, a2, a3, a4, _⟩ := locfacts (row_on HR6.out hz)
      obtain ⟨_, b0, b1, b2, b3, b4, _⟩ := locfacts (row_on HM6.out hz)
      exact ⟨hz, ⟨a0, a1, a2, a3, a4⟩, b0, b1, b2, b3, b4⟩
    refine wp_region_held_drew (S := fun z => Below v6.heap.size v6 z ∧ (z.cell? ⟨N, 0, none⟩ = some (.int .u8 S) ∧ z.cell? ⟨N, 1, none⟩ = some (.string (str H)) ∧ z.cell? ⟨N, 2, none⟩ = some (.int .i64 p) ∧ z.cell? ⟨N, 3, none⟩ = some (.slice A L.length c) ∧ z.cell? ⟨N, 4, none⟩ = some (.bool d)) ∧ (z.cell? ⟨M, 0, none⟩ = some (.int .u8 S) ∧ z.cell? ⟨M, 1, none⟩ = some (.string (str H)) ∧ z.cell? ⟨M, 2, none⟩ = some (.int .i64 p) ∧ z.cell? ⟨M, 3, none⟩ = some (.slice A2 L.length c2) ∧ z.cell? ⟨M, 4, none⟩ = some (.bool d))) (by kernel_rfl) (mkS _ (Below.refl _ _).drew) (fun hHeld => ?_)
    refine wpAnyH_take (i := 0) (oi := { dst := Option.some 22, op := Go.Op.move (Go.Operand.tmp 4), type := 9, pos := "law.go:18", after := #[], guard := Option.none }) (v := ?_) rfl (by kernel_rfl) (by kernel_rfl) (by kernel_rfl) (fun _ _ _ h => h) (Or.inl ⟨by rfl, ?_⟩) hHeld ?_
    rotate_left
    · intro w hSw
      clear hSw
      go_simp
      try with_reducible rfl
    try simp only [Act.put, List.setIfInBounds_toArray, List.set_cons_zero, List.set_cons_succ]
    refine wpAnyH_take (i := 1) (oi := { dst := Option.some 23, op := Go.Op.move (Go.Operand.tmp 6), type := 9, pos := "law.go:18", after := #[], guard := Option.none }) (v := ?_) rfl (by kernel_rfl) (by kernel_rfl) (by kernel_rfl) (fun _ _ _ h => h) (Or.inl ⟨by rfl, ?_⟩) hHeld ?_
    rotate_left
    · intro w hSw
      clear hSw
      go_simp
      try with_reducible rfl
    try simp only [Act.put, List.setIfInBounds_toArray, List.set_cons_zero, List.set_cons_succ]
    refine wpAnyH_take (i := 2) (oi := { dst := Option.some 24, op := Go.Op.binOp Go.BinOp.eql 9 (Go.Operand.tmp 22) (Go.Operand.tmp 23) 9, type := 4, pos := "law.go:18", after := #[{ on := 0, ground := Go.Ground.data }, { on := 1, ground := Go.Ground.data }], guard := Option.none }) (v := ?_) rfl (by kernel_rfl) (by kernel_rfl) (by kernel_rfl) (fun _ _ _ h => h) (Or.inl ⟨by rfl, ?_⟩) hHeld ?_
    rotate_left
    · intro w hSw
      clear hSw
      go_simp
      try with_reducible rfl
    try simp only [Act.put, List.setIfInBounds_toArray, List.set_cons_zero, List.set_cons_succ]
    refine wpAnyH_take (i := 3) (oi := { dst := Option.some 25, op := Go.Op.move (Go.Operand.tmp 24), type := 4, pos := "law.go:18", after := #[{ on := 2, ground := Go.Ground.data }], guard := Option.none }) (v := ?_) rfl (by kernel_rfl) (by kernel_rfl) (by kernel_rfl) (fun _ _ _ h => h) (Or.inl ⟨by rfl, ?_⟩) hHeld ?_
    rotate_left
    · intro w hSw
      clear hSw
      go_simp
      try with_reducible rfl
    try simp only [Act.put, List.setIfInBounds_toArray, List.set_cons_zero, List.set_cons_succ]
    refine wpAnyH_take (i := 4) (oi := { dst := Option.some 26, op := Go.Op.move (Go.Operand.tmp 5), type := 25, pos := "law.go:18", after := #[{ on := 3, ground := Go.Ground.guard }], guard := Option.some (3, Bool.true) }) (v := ?_) rfl (by kernel_rfl) (by kernel_rfl) (by kernel_rfl) (fun _ _ _ h => h) (Or.inl ⟨by rfl, ?_⟩) hHeld ?_
    rotate_left
    · intro w hSw
      clear hSw
      go_simp
      try with_reducible rfl
    try simp only [Act.put, List.setIfInBounds_toArray, List.set_cons_zero, List.set_cons_succ]
    refine wpAnyH_take (i := 5) (oi := { dst := Option.some 27, op := Go.Op.move (Go.Operand.tmp 7), type := 3, pos := "law.go:18", after := #[{ on := 3, ground := Go.Ground.guard }], guard := Option.some (3, Bool.true) }) (v := ?_) rfl (by kernel_rfl) (by kernel_rfl) (by kernel_rfl) (fun _ _ _ h => h) (Or.inl ⟨by rfl, ?_⟩) hHeld ?_
    rotate_left
    · intro w hSw
      clear hSw
      go_simp
      try with_reducible rfl
    try simp only [Act.put, List.setIfInBounds_toArray, List.set_cons_zero, List.set_cons_succ]
    refine wpAnyH_take (i := 6) (oi := { dst := Option.some 28, op := Go.Op.binOp Go.BinOp.eql 3 (Go.Operand.tmp 26) (Go.Operand.tmp 27) 3, type := 4, pos := "law.go:18", after := #[{ on := 4, ground := Go.Ground.data }, { on := 5, ground := Go.Ground.data }, { on := 3, ground := Go.Ground.guard }], guard := Option.some (3, Bool.true) }) (v := ?_) rfl (by kernel_rfl) (by kernel_rfl) (by kernel_rfl) (fun _ _ _ h => h) (Or.inl ⟨by rfl, ?_⟩) hHeld ?_
    rotate_left
    · intro w hSw
      clear hSw
      go_simp
      try with_reducible rfl
    try simp only [Act.put, List.setIfInBounds_toArray, List.set_cons_zero, List.set_cons_succ]
    refine wpAnyH_take (i := 7) (oi := { dst := Option.some 29, op := Go.Op.pick (Go.Operand.tmp 25) (Go.Operand.tmp 28) (Go.Operand.const (Go.Value.bool Bool.false)), type := 4, pos := "law.go:18", after := #[{ on := 3, ground := Go.Ground.data }, { on := 6, ground := Go.Ground.data }], guard := Option.none }) (v := ?_) rfl (by kernel_rfl) (by kernel_rfl) (by kernel_rfl) (fun _ _ _ h => h) (Or.inl ⟨by rfl, ?_⟩) hHeld ?_
    rotate_left
    · intro w hSw
      clear hSw
      go_simp
      try with_reducible rfl
    try simp only [Act.put, List.setIfInBounds_toArray, List.set_cons_zero, List.set_cons_succ]
    refine wpAnyH_take (i := 8) (oi := { dst := Option.some 30, op := Go.Op.move (Go.Operand.tmp 29), type := 4, pos := "law.go:18", after := #[{ on := 7, ground := Go.Ground.data }, { on := 3, ground := Go.Ground.chain }], guard := Option.none }) (v := ?_) rfl (by kernel_rfl) (by kernel_rfl) (by kernel_rfl) (fun _ _ _ h => h) (Or.inl ⟨by rfl, ?_⟩) hHeld ?_
    rotate_left
    · intro w hSw
      clear hSw
      go_simp
      try with_reducible rfl
    try simp only [Act.put, List.setIfInBounds_toArray, List.set_cons_zero, List.set_cons_succ]
    refine wpAnyH_take (i := 9) (oi := { dst := Option.some 31, op := Go.Op.load 24 (Go.Operand.tmp 1), type := 24, pos := "law.go:18", after := #[{ on := 8, ground := Go.Ground.guard }], guard := Option.some (8, Bool.true) }) (v := ?_) rfl (by kernel_rfl) (by kernel_rfl) (by kernel_rfl) (fun _ _ _ h => h) (Or.inl ⟨by rfl, ?_⟩) hHeld ?_
    rotate_left
    · intro w hSw
      have hfc0 := hSw.2.1.1
      have hfc1 := hSw.2.1.2.1
      have hfc2 := hSw.2.1.2.2.1
      have hfc3 := hSw.2.1.2.2.2.1
      have hfc4 := hSw.2.1.2.2.2.2
      clear hSw
      go_simp
      try with_reducible rfl
    try simp only [Act.put, List.setIfInBounds_toArray, List.set_cons_zero, List.set_cons_succ]
    refine wpAnyH_take (i := 11) (oi := { dst := Option.some 33, op := Go.Op.load 24 (Go.Operand.tmp 1), type := 24, pos := "law.go:18", after := #[{ on := 8, ground := Go.Ground.guard }], guard := Option.some (8, Bool.true) }) (v := ?_) rfl (by kernel_rfl) (by kernel_rfl) (by kernel_rfl) (fun _ _ _ h => h) (Or.inl ⟨by rfl, ?_⟩) hHeld ?_
    rotate_left
    · intro w hSw
      have hfc0 := hSw.2.1.1
      have hfc1 := hSw.2.1.2.1
      have hfc2 := hSw.2.1.2.2.1
      have hfc3 := hSw.2.1.2.2.2.1
      have hfc4 := hSw.2.1.2.2.2.2
      clear hSw
      go_simp
      try with_reducible rfl
    try simp only [Act.put, List.setIfInBounds_toArray, List.set_cons_zero, List.set_cons_succ]
    refine wpAnyH_ready (rs := [10]) (by kernel_rfl) (by simp) (AllReadyH.cons (o := { dst := Option.some 32, op := Go.Op.call { callee := Go.Callee.value (Go.Operand.func 14), args := #[Go.Operand.tmp 31], argTypes := #[24] }, type := 25, pos := "law.go:18", after := #[{ on := 9, ground := Go.Ground.data }, { on := 8, ground := Go.Ground.chain }, { on := 8, ground := Go.Ground.guard }], guard := Option.some (8, Bool.true) }) rfl (fun K hK => ?_) AllReadyH.nil)
    go_simp
    refine (HCK.out _ (HE.out.below (HCH.out _ hHeld.1) hG) (HCH.out _ hHeld.1)).mono ?_
    rintro e w8 ⟨rfl, hb8⟩
    go_simp
    refine hK.out _ _ (mkS _ (hHeld.1.trans (hb8.mono hHeld.1.size))) (fun hHeld2 => ?_)
    clear hK K hHeld hb8
    have hHeld := hHeld2
    clear hHeld2
    try simp only [Act.put, List.setIfInBounds_toArray, List.set_cons_zero, List.set_cons_succ]
    refine wpAnyH_ready (rs := [12]) (by kernel_rfl) (by simp) (AllReadyH.cons (o := { dst := Option.some 34, op := Go.Op.call { callee := Go.Callee.value (Go.Operand.func 24), args := #[Go.Operand.tmp 33], argTypes := #[24] }, type := 3, pos := "law.go:18", after := #[{ on := 11, ground := Go.Ground.data }, { on := 10, ground := Go.Ground.chain }, { on := 8, ground := Go.Ground.guard }], guard := Option.some (8, Bool.true) }) rfl (fun K hK => ?_) AllReadyH.nil)
    go_simp
    refine (HRC.out _ (HCH.out _ hHeld.1)).mono ?_
    rintro e w8 ⟨rfl, hb8⟩
    go_simp
    refine hK.out _ _ (mkS _ (hHeld.1.trans (hb8.mono hHeld.1.size))) (fun hHeld2 => ?_)
    clear hK K hHeld hb8
    have hHeld := hHeld2
    clear hHeld2
    try simp only [Act.put, List.setIfInBounds_toArray, List.set_cons_zero, List.set_cons_succ]
    refine wpAnyH_take (i := 13) (oi := { dst := Option.some 35, op := Go.Op.binOp Go.BinOp.eql 3 (Go.Operand.tmp 32) (Go.Operand.tmp 34) 3, type := 4, pos := "law.go:18", after := #[{ on := 10, ground := Go.Ground.data }, { on := 12, ground := Go.Ground.data }, { on := 8, ground := Go.Ground.guard }], guard := Option.some (8, Bool.true) }) (v := ?_) rfl (by kernel_rfl) (by kernel_rfl) (by kernel_rfl) (fun _ _ _ h => h) (Or.inl ⟨by rfl, ?_⟩) hHeld ?_
    rotate_left
    · intro w hSw
      clear hSw
      go_simp
      try with_reducible rfl
    try simp only [Act.put, List.setIfInBounds_toArray, List.set_cons_zero, List.set_cons_succ]
    refine wpAnyH_take (i := 14) (oi := { dst := Option.some 36, op := Go.Op.pick (Go.Operand.tmp 30) (Go.Operand.tmp 35) (Go.Operand.const (Go.Value.bool Bool.false)), type := 4, pos := "law.go:18", after := #[{ on := 8, ground := Go.Ground.data }, { on := 13, ground := Go.Ground.data }], guard := Option.none }) (v := ?_) rfl (by kernel_rfl) (by kernel_rfl) (by kernel_rfl) (fun _ _ _ h => h) (Or.inl ⟨by rfl, ?_⟩) hHeld ?_
    rotate_left
    · intro w hSw
      clear hSw
      go_simp
      try with_reducible rfl
    try simp only [Act.put, List.setIfInBounds_toArray, List.set_cons_zero, List.set_cons_succ]
    refine wpAnyH_take (i := 15) (oi := { dst := Option.some 37, op := Go.Op.move (Go.Operand.tmp 36), type := 4, pos := "law.go:18", after := #[{ on := 14, ground := Go.Ground.data }, { on := 12, ground := Go.Ground.chain }], guard := Option.none }) (v := ?_) rfl (by kernel_rfl) (by kernel_rfl) (by kernel_rfl) (fun _ _ _ h => h) (Or.inl ⟨by rfl, ?_⟩) hHeld ?_
    rotate_left
    · intro w hSw
      clear hSw
      go_simp
      try with_reducible rfl
    try simp only [Act.put, List.setIfInBounds_toArray, List.set_cons_zero, List.set_cons_succ]
    refine wpAnyH_take (i := 16) (oi := { dst := Option.some 38, op := Go.Op.load 24 (Go.Operand.tmp 1), type := 24, pos := "law.go:18", after := #[{ on := 15, ground := Go.Ground.guard }], guard := Option.some (15, Bool.true) }) (v := ?_) rfl (by kernel_rfl) (by kernel_rfl) (by kernel_rfl) (fun _ _ _ h => h) (Or.inl ⟨by rfl, ?_⟩) hHeld ?_
    rotate_left
    · intro w hSw
      have hfc0 := hSw.2.1.1
      have hfc1 := hSw.2.1.2.1
      have hfc2 := hSw.2.1.2.2.1
      have hfc3 := hSw.2.1.2.2.2.1
      have hfc4 := hSw.2.1.2.2.2.2
      clear hSw
      go_simp
      try with_reducible rfl
    try simp only [Act.put, List.setIfInBounds_toArray, List.set_cons_zero, List.set_cons_succ]
    refine wpAnyH_take (i := 17) (oi := { dst := Option.some 39, op := Go.Op.load 24 (Go.Operand.tmp 3), type := 24, pos := "law.go:18", after := #[{ on := 15, ground := Go.Ground.guard }], guard := Option.some (15, Bool.true) }) (v := ?_) rfl (by kernel_rfl) (by kernel_rfl) (by kernel_rfl) (fun _ _ _ h => h) (Or.inl ⟨by rfl, ?_⟩) hHeld ?_
    rotate_left
    · intro w hSw
      have hfc0 := hSw.2.2.1
      have hfc1 := hSw.2.2.2.1
      have hfc2 := hSw.2.2.2.2.1
      have hfc3 := hSw.2.2.2.2.2.1
      have hfc4 := hSw.2.2.2.2.2.2
      clear hSw
      go_simp
      try with_reducible rfl
    try simp only [Act.put, List.setIfInBounds_toArray, List.set_cons_zero, List.set_cons_succ]
    refine wpAnyH_ready (rs := [18]) (by kernel_rfl) (by simp) (AllReadyH.cons (o := { dst := Option.some 40, op := Go.Op.call { callee := Go.Callee.value (Go.Operand.func 25), args := #[Go.Operand.tmp 38, Go.Operand.tmp 39], argTypes := #[24, 24] }, type := 4, pos := "law.go:18", after := #[{ on := 16, ground := Go.Ground.data }, { on := 17, ground := Go.Ground.data }, { on := 15, ground := Go.Ground.chain }, { on := 15, ground := Go.Ground.guard }], guard := Option.some (15, Bool.true) }) rfl (fun K hK => ?_) AllReadyH.nil)
    go_simp
    refine (HSM.out A2 c2 _ (HCH.out _ hHeld.1) (SA.out.on hHeld.1) HC2.out).mono ?_
    rintro e w8 ⟨rfl, hb8⟩
    go_simp
    refine hK.out _ _ (mkS _ (hHeld.1.trans (hb8.mono hHeld.1.size))) (fun hHeld2 => ?_)
    clear hK K hHeld hb8
    have hHeld := hHeld2
    clear hHeld2
    try simp only [Act.put, List.setIfInBounds_toArray, List.set_cons_zero, List.set_cons_succ]
    refine wpAnyH_take (i := 19) (oi := { dst := Option.some 41, op := Go.Op.pick (Go.Operand.tmp 37) (Go.Operand.tmp 40) (Go.Operand.const (Go.Value.bool Bool.false)), type := 4, pos := "law.go:18", after := #[{ on := 15, ground := Go.Ground.data }, { on := 18, ground := Go.Ground.data }], guard := Option.none }) (v := ?_) rfl (by kernel_rfl) (by kernel_rfl) (by kernel_rfl) (fun _ _ _ h => h) (Or.inl ⟨by rfl, ?_⟩) hHeld ?_
    rotate_left
    · intro w hSw
      clear hSw
      go_simp
      try with_reducible rfl
    try simp only [Act.put, List.setIfInBounds_toArray, List.set_cons_zero, List.set_cons_succ]
    refine wpAnyH_take (i := 20) (oi := { dst := Option.some 2, op := Go.Op.assign (Go.Operand.tmp 41), type := 4, pos := "law.go:18", after := #[{ on := 19, ground := Go.Ground.data }, { on := 18, ground := Go.Ground.chain }, { on := 0, ground := Go.Ground.phase }, { on := 1, ground := Go.Ground.phase }, { on := 2, ground := Go.Ground.phase }, { on := 3, ground := Go.Ground.phase }, { on := 4, ground := Go.Ground.phase }, { on := 5, ground := Go.Ground.phase }, { on := 6, ground := Go.Ground.phase }, { on := 7, ground := Go.Ground.phase }, { on := 8, ground := Go.Ground.phase }, { on := 9, ground := Go.Ground.phase }, { on := 10, ground := Go.Ground.phase }, { on := 11, ground := Go.Ground.phase }, { on := 12, ground := Go.Ground.phase }, { on := 13, ground := Go.Ground.phase }, { on := 14, ground := Go.Ground.phase }, { on := 15, ground := Go.Ground.phase }, { on := 16, ground := Go.Ground.phase }, { on := 17, ground := Go.Ground.phase }, { on := 18, ground := Go.Ground.phase }, { on := 19, ground := Go.Ground.phase }], guard := Option.none }) (v := ?_) rfl (by kernel_rfl) (by kernel_rfl) (by kernel_rfl) (fun _ _ _ h => h) (Or.inl ⟨by rfl, ?_⟩) hHeld ?_
    rotate_left
    · intro w hSw
      clear hSw
      go_simp
      try with_reducible rfl
    try simp only [Act.put, List.setIfInBounds_toArray, List.set_cons_zero, List.set_cons_succ]
    refine wpAnyH_done (by kernel_rfl) ?_ _
    have HBE := Lib.hid (HCH.out _ hHeld.1)
    go_wp2_with fail
    go_ret
    exact ⟨rfl, hN ▸ HBE.out⟩
set_option maxRecDepth 100000 in
theorem checks9_lifted (os : Os) (started : os.Started) (H : Type) (enc : TypeId × Value → H) :
    ReturnsInHanded {} Tryd.checked os 4 .any (fun w args => (Rows.locatorChecksSpec.pre enc Tryd.prog Tryd.f4 Rows.locatorChecksRow.domain false w args ∧ laidMet Tryd.prog laidSmall w) ∧ sizedMet enc Tryd.prog Tryd.f4 (OpenSpec.ofChange Rows.locatorChecksSpec) false w args)
      (Rows.locatorChecksSpec.post enc Tryd.prog Tryd.f4 false true false false) := by
  refine returns_laid (C := Tryd.checked) (X := fun w => laidMet Tryd.prog laidSmall w) (fun _ _ hh h => h.of_heap hh) Tryd.own started (by kernel_rfl) Tryd.func4
    (ChangeSpec.witness_at (enc := enc) (C := Tryd.checked) (os := os) (X := fun w _ => laidMet Tryd.prog laidSmall w) false (laidWorld os) #[.agg #[.int .u8 0, .string ⟨#[]⟩, .int .i64 0, .slice none 0 0, .bool false]] 8 rfl (by kernel_rfl) (by kernel_rfl) (by kernel_rfl) (by kernel_rfl) (by kernel_rfl) (laidWorld_small os _)) ?_
  intro W base args ds gs before hval0 hW hL hsh
  have hval : ∀ (j : Nat) t v, Tryd.f4.params[j]? = some t → args[j]? = some v → Value.okWide Tryd.prog W .any base t v := hval0
  have env := env_of_small hL hsh
  have hW' := hW
  obtain ⟨p, q, hA0, hV, rfl, hfz, hnd⟩ := hW
  have hA : DataW.TrodAll enc Tryd.prog W 0 (fun _ => true) true Tryd.f4.params.toList args.toList ds p := hA0
  rw [Tryd.params4] at hA hval
  obtain ⟨v0, vs0, d0, ds0, p0, q0, hargs, rfl, rfl, h0, r0⟩ := trodAll_cons hA
  obtain ⟨rfl, rfl, rfl⟩ := trodAll_nil r0
  obtain rfl : args = #[v0] := by cases args; simp_all
  obtain ⟨rfl, rfl⟩ := trodVars_none hV
  obtain ⟨l0, A0, c0, rfl, hs0, ha0, hc0, hn0⟩ := open_loc2 (hval 0 24 v0 rfl rfl) h0
  refine (checks_true l0 A0 c0 W env hs0 ha0 hc0 hn0).mono fun e W' ⟨he, hg⟩ => ?_
  subst he
  exact ⟨_, rfl, law_post Tryd.laidOut (by kernel_rfl) (by kernel_rfl) hW' hg (trodAll_cons_mk (shut_bool Tryd.underlying4 _) trodAll_mk0) rfl rfl⟩
/-- the row -/
theorem checks9_row : Rows.LocatorChecksSaid :=
  OpenClaim.holds_of_wide 4 Tryd.f4 rfl rfl rfl rfl rfl rfl rfl ⟨rfl, rfl, rfl, rfl, rfl⟩ rfl rfl rfl rfl rfl (by kernel_rfl) Tryd.func4 (by kernel_rfl)
    (of_decide_eq_true (by kernel_rfl)) (by unfold Func.isWrapper; rw [if_neg (of_decide_eq_false (by kernel_rfl))]; exact ⟨rfl, rfl⟩)
    (fun os started H enc _ => checks9_lifted os started H enc)
/-- the statement -/
theorem checks9_holds : Rows.LocatorChecksCardSaid :=
  Claim7.holds_tied_plain_at .later [] [.data, .data, .data, .data, .data, .data, .pinned] true (true, "e11af721ae8c6e5129fd735740f1445bd35404deed9d82c6da72676743633320") true
    checks9_row (fun _ h => by cases h) (by kernel_rfl) (fun _ h => by cases h) locatorChecks_row_tie rfl ⟨rfl, rfl⟩ (by kernel_rfl) rfl
    (fun f fn hf hfn => by
      obtain rfl : f = 4 := Option.some.inj ((show Tryd.prog.funcNamed "gatepath/gatepathlaw09.LocatorChecks" = some 4 by kernel_rfl).symm.trans hf) |>.symm
      obtain rfl : fn = Tryd.f4 := (Option.some.inj (Tryd.func4.symm.trans hfn)).symm
      exact ⟨by kernel_rfl, fun j t ht => by
        rw [Tryd.params4] at ht
        have hp : t = 24 := by
          rcases j with _ | j
          · simpa using ht.symm
          · simp at ht
        rcases hp with rfl
        · exact (show Tryd.prog.wantsStandIn 24 = false by kernel_rfl)⟩)
    (by kernel_rfl)
#print axioms checks9_holds
end Go.Proofs.YtcnnnfnpdjgfmaaDoor
