/-
  THE WALK over SpanSteps.
-/
import Derived.Test.YtikhklnjjicfgaaDoorSpanI
import Derived.Deep.DeepCutAuto
namespace Go.Proofs.YtikhklnjjicfgaaDoor
open Go.RowKit Adr Spn
set_option linter.unusedVariables false
set_option linter.unusedSimpArgs false
variable {fl : Bool}
set_option maxRecDepth 100000 in
set_option maxHeartbeats 4000000 in
theorem steps_core (f H L pf ph pl pn : Int) (w : World) (env : Env fl w) (hpn : IntKind.i64.wrap (pn + 1) = pn + 1 ∨ True)
    (is : Bool) (bH bL : Int)
    (h1 : ∀ w, Calls Tryd.prog 24 #[.int .u8 f, .agg #[.int .u64 H, .int .u64 L]] w fun e w' => e = .returned (.tuple #[.agg #[.int .u64 bH, .int .u64 bL], .bool is]) ∧ Below w.heap.size w w')
    (k1 : (is = true ∧ (∀ w, Calls Tryd.prog 25 #[.agg #[.int .u64 bH, .int .u64 bL]] w fun e w' => e = .returned (.tuple #[.agg #[.int .u64 H, .int .u64 L], .bool true]) ∧ Below w.heap.size w w') ∧ (∀ w, Calls Tryd.prog 30 #[.agg #[.int .u64 H, .int .u64 L], .agg #[.int .u64 bH, .int .u64 bL]] w fun e w' => e = .returned (.int .i64 (-1)) ∧ Below w.heap.size w w') ∧ (∀ w, Calls Tryd.prog 19 #[.int .u8 f, .agg #[.int .u64 bH, .int .u64 bL]] w fun e w' => e = .returned (.bool true) ∧ Below w.heap.size w w')) ∨ (is = false ∧ bH = 0 ∧ bL = 0))
    (xa xb xc xd e4 : Int)
    (h4 : ∀ w, Calls Tryd.prog 26 #[.agg #[.int .u8 pf, .int .u64 ph, .int .u64 pl, .int .i64 pn]] w fun e w' => e = .returned (.tuple #[.agg #[.int .u64 xa, .int .u64 xb, .int .u64 xc, .int .u64 xd], .int .i64 e4]) ∧ Below w.heap.size w w')
    (of oh ol on g1 qf qh ql qn g2 ma mb na nb : Int)
    (k4 : ((e4 != 0) = true ∧ (∀ w, Calls Tryd.prog 15 #[.agg #[.int .u8 pf, .int .u64 ph, .int .u64 pl, .int .i64 pn]] w fun e w' => e = .returned (.int .i64 e4) ∧ Below w.heap.size w w')) ∨
      (e4 = 0 ∧ IntKind.i64.wrap (pn + 1) = pn + 1 ∧ (∀ w, Calls Tryd.prog 14 #[.int .u8 pf, .agg #[.int .u64 ph, .int .u64 pl], .int .i64 (pn + 1)] w fun e w' => e = .returned (.tuple #[.agg #[.int .u8 of, .int .u64 oh, .int .u64 ol, .int .i64 on], .int .i64 g1]) ∧ Below w.heap.size w w') ∧
        (∀ w, Calls Tryd.prog 14 #[.int .u8 pf, .agg #[.int .u64 xc, .int .u64 xd], .int .i64 (pn + 1)] w fun e w' => e = .returned (.tuple #[.agg #[.int .u8 qf, .int .u64 qh, .int .u64 ql, .int .i64 qn], .int .i64 g2]) ∧ Below w.heap.size w w') ∧
        ((g1 = 2 ∧ g2 = 2 ∧ xa = xc ∧ xb = xd) ∨
          (g1 = 0 ∧ g2 = 0 ∧ (∀ w, Calls Tryd.prog 26 #[.agg #[.int .u8 of, .int .u64 oh, .int .u64 ol, .int .i64 on]] w fun e w' => e = .returned (.tuple #[.agg #[.int .u64 xa, .int .u64 xb, .int .u64 ma, .int .u64 mb], .int .i64 0]) ∧ Below w.heap.size w w') ∧
            (∀ w, Calls Tryd.prog 26 #[.agg #[.int .u8 qf, .int .u64 qh, .int .u64 ql, .int .i64 qn]] w fun e w' => e = .returned (.tuple #[.agg #[.int .u64 na, .int .u64 nb, .int .u64 xc, .int .u64 xd], .int .i64 0]) ∧ Below w.heap.size w w') ∧
            (∀ w, Calls Tryd.prog 24 #[.int .u8 pf, .agg #[.int .u64 ma, .int .u64 mb]] w fun e w' => e = .returned (.tuple #[.agg #[.int .u64 na, .int .u64 nb], .bool true]) ∧ Below w.heap.size w w'))))) :
    Calls Tryd.prog 8 #[.int .u8 f, .agg #[.int .u64 H, .int .u64 L], .agg #[.int .u8 pf, .int .u64 ph, .int .u64 pl, .int .i64 pn]] w fun e w' => e = .returned (.bool true) ∧ Below w.heap.size w w' := by
  have hG := env.big
  have HE := Lib.hid env
  have H1 := Lib.hid h1
  have K1 := Lib.hid k1
  have H4 := Lib.hid h4
  have K4 := Lib.hid k4
  clear env h1 k1 h4 k4 hpn
  go_enter Tryd.func8, Tryd.ntmps8
  go_wp2_with fail
  generalize hv : World.alloc (World.alloc _ _) _ = v
  have TA : RowKit.Hid (Ad2 w.heap.size v H L) := Lib.hid (by rw [← hv]; exact (Ad2.new w H L _).on (below_new _ _))
  have TP : RowKit.Hid (Pf4 (w.heap.size + 1) v pf ph pl pn) := Lib.hid (by
    rw [← hv]
    have := Pf4.new (w.alloc (.cells #[.int .u64 H, .int .u64 L] 27)) pf ph pl pn 34
    simpa using this)
  have HB := Lib.hid (show Below w.heap.size w v by rw [← hv]; exact ((Below.refl _ _).alloc (Nat.le_refl _) _).alloc (by simp) _)
  clear hv
  refine (alive2_any v (HE.out.below HB.out hG)).mono ?_
  rintro e w1 ⟨rfl, hb1⟩
  have HB1 := Lib.hid (HB.out.trans (hb1.mono HB.out.size))
  have TA1 := Lib.hid (TA.out.on hb1)
  have TP1 := Lib.hid (TP.out.on hb1)
  clear hb1 HB TA TP
  obtain ⟨a0, a1, _, _⟩ := TA1.out
  go_wp2_with fail
  refine (H1.out w1).mono ?_
  rintro e w2 ⟨rfl, hb2⟩
  have HB2 := Lib.hid (HB1.out.trans (hb2.mono HB1.out.size))
  have TA2 := Lib.hid (TA1.out.on hb2)
  have TP2 := Lib.hid (TP1.out.on hb2)
  clear hb2 HB1 TA1 TP1 a0 a1
  go_upto_region 3 with fail
  obtain ⟨N, hN⟩ : ∃ N, w2.heap.size = N := ⟨_, rfl⟩
  generalize hv : World.alloc _ _ = v3
  have TB3 : RowKit.Hid (Ad2 N v3 bH bL) := Lib.hid (by rw [← hv, ← hN]; exact Ad2.new w2 bH bL _)
  have TA4 : RowKit.Hid (Ad2 w.heap.size v3 H L) := Lib.hid (by rw [← hv]; exact TA2.out.on (below_new _ _))
  have TP4 : RowKit.Hid (Pf4 (w.heap.size + 1) v3 pf ph pl pn) := Lib.hid (by rw [← hv]; exact TP2.out.on (below_new _ _))
  have HB4 := Lib.hid (show Below w.heap.size w v3 by rw [← hv]; exact HB2.out.alloc HB2.out.size _)
  have hNw : w.heap.size ≤ N := by have := HB2.out.size; omega
  clear hv HB2 TA2 TP2
  try rw [hN]
  clear hN
  go_upto_if 34 with fail
  go_cut [34] (fun s34 wx => Below v3.heap.size v3 wx)
  case first =>
    obtain ⟨a0, a1, _, _⟩ := TA4.out
    obtain ⟨b0, b1, _, _⟩ := TB3.out
    rcases K1.out with ⟨rfl, k2, k3, k4⟩ | ⟨rfl, rfl, rfl⟩
    · have az := TA4.out.lt
      have bz := TB3.out.lt
      have K2 := Lib.hid k2
      have K3 := Lib.hid k3
      have K5 := Lib.hid k4
      clear k2 k3 k4
      go_wp2_with fail
      refine (K2.out v3).mono ?_
      rintro e w5 ⟨rfl, hb5⟩
      have TA5 := Lib.hid (TA4.out.on hb5)
      have TB5 := Lib.hid (TB3.out.on hb5)
      obtain ⟨a0', a1', _, _⟩ := TA5.out
      obtain ⟨b0', b1', _, _⟩ := TB5.out
      have HC5 := Lib.hid hb5
      clear hb5 a0 a1 b0 b1
      go_upto_region 7 with fail
      obtain ⟨M, hM⟩ : ∃ M, w5.heap.size = M := ⟨_, rfl⟩
      generalize hv : World.alloc _ _ = v6
      have TC6 : RowKit.Hid (Ad2 M v6 H L) := Lib.hid (by rw [← hv, ← hM]; exact Ad2.new w5 H L _)
      have TA6 : RowKit.Hid (Ad2 w.heap.size v6 H L) := Lib.hid (by rw [← hv]; exact TA5.out.on (below_new _ _))
      have TB6 : RowKit.Hid (Ad2 N v6 bH bL) := Lib.hid (by rw [← hv]; exact TB5.out.on (below_new _ _))
      have HC6 : RowKit.Hid (Below v3.heap.size v3 v6) := Lib.hid (by rw [← hv]; exact HC5.out.trans ((below_new _ _).mono HC5.out.size))
      clear hv HC5 TA5 TB5 a0' a1' b0' b1'
      try rw [hM]
      clear hM
      obtain ⟨a0, a1, _, _⟩ := TA6.out
      obtain ⟨b0, b1, _, _⟩ := TB6.out
      obtain ⟨c0, c1, _, _⟩ := TC6.out
      have az := TA6.out.lt
      have bz := TB6.out.lt
      have cz := TC6.out.lt
      go_wp2_with fail
      refine (K3.out v6).mono ?_
      rintro e w7 ⟨rfl, hb7⟩
      have HC7 := Lib.hid (HC6.out.trans (hb7.mono HC6.out.size))
      obtain ⟨b0', b1', _, _⟩ := TB6.out.on hb7
      clear hb7 HC6
      go_wp2_with fail
      refine (K5.out w7).mono ?_
      rintro e w8 ⟨rfl, hb8⟩
      have HC8 := Lib.hid (HC7.out.trans (hb8.mono HC7.out.size))
      clear hb8 HC7
      go_wp2_with fail
      go_meet
      exact HC8.out
    · go_wp2_with fail
      go_meet
      exact Below.refl _ _
  case rest =>
    have hb5 := hcut
    have HB5 := Lib.hid (HB4.out.trans (hb5.mono HB4.out.size))
    have TP5 := Lib.hid (TP4.out.on hb5)
    clear hcut hb5 HB4 TB3 TP4 TA4 K1 H1
    obtain ⟨p0, p1, p2, p3, _, _, _, _⟩ := TP5.out
    go_wp2_with fail
    refine (H4.out wc).mono ?_
    rintro e w6 ⟨rfl, hb6⟩
    have HB6 := Lib.hid (HB5.out.trans (hb6.mono HB5.out.size))
    have TP6 := Lib.hid (TP5.out.on hb6)
    clear hb6 HB5 TP5 p0 p1 p2 p3
    go_upto_region 12 with fail
    obtain ⟨X, hX⟩ : ∃ X, w6.heap.size = X := ⟨_, rfl⟩
    generalize hv : World.alloc _ _ = v7
    have TX7 : RowKit.Hid (Sp4 X v7 xa xb xc xd) := Lib.hid (by rw [← hv, ← hX]; exact Sp4.new w6 xa xb xc xd _)
    have TP7 : RowKit.Hid (Pf4 (w.heap.size + 1) v7 pf ph pl pn) := Lib.hid (by rw [← hv]; exact TP6.out.on (below_new _ _))
    have HB7 := Lib.hid (show Below w.heap.size w v7 by rw [← hv]; exact HB6.out.alloc HB6.out.size _)
    clear hv HB6 TP6
    try rw [hX]
    clear hX
    obtain ⟨p0, p1, p2, p3, _, _, _, _⟩ := TP7.out
    rcases K4.out with ⟨k0, k1⟩ | ⟨rfl, kw, k1, k2, k3⟩
    · have K1 := Lib.hid k1
      clear k1
      go_wp2_with fail
      refine (K1.out v7).mono ?_
      rintro e w8 ⟨rfl, hb8⟩
      have HB8 := Lib.hid (HB7.out.trans (hb8.mono HB7.out.size))
      clear hb8 HB7
      go_wp2_with fail
      go_ret
      exact ⟨by simp, HB8.out⟩
    · have K1 := Lib.hid k1
      have K2 := Lib.hid k2
      have K3 := Lib.hid k3
      clear k1 k2 k3 K4
      go_wp2_with fail
      refine (K1.out v7).mono ?_
      rintro e w8 ⟨rfl, hb8⟩
      have HB8 := Lib.hid (HB7.out.trans (hb8.mono HB7.out.size))
      have TP8 := Lib.hid (TP7.out.on hb8)
      have TX8 := Lib.hid (TX7.out.on hb8)
      clear hb8 HB7 TP7 TX7 p0 p1 p2 p3
      go_upto_region 15 with fail
      obtain ⟨O, hO⟩ : ∃ O, w8.heap.size = O := ⟨_, rfl⟩
      generalize hv : World.alloc _ _ = v9
      have TO9 : RowKit.Hid (Pf4 O v9 of oh ol on) := Lib.hid (by rw [← hv, ← hO]; exact Pf4.new w8 of oh ol on _)
      have TP9 : RowKit.Hid (Pf4 (w.heap.size + 1) v9 pf ph pl pn) := Lib.hid (by rw [← hv]; exact TP8.out.on (below_new _ _))
      have TX9 : RowKit.Hid (Sp4 X v9 xa xb xc xd) := Lib.hid (by rw [← hv]; exact TX8.out.on (below_new _ _))
      have HB9 := Lib.hid (show Below w.heap.size w v9 by rw [← hv]; exact HB8.out.alloc HB8.out.size _)
      clear hv HB8 TP8 TX8
      try rw [hO]
      clear hO
      obtain ⟨p0, p1, p2, p3, _, _, _, _⟩ := TP9.out
      obtain ⟨x0, x1, x2, x3, _⟩ := TX9.out
      go_wp2_with fail
      refine (K2.out v9).mono ?_
      rintro e w10 ⟨rfl, hb10⟩
      have HB10 := Lib.hid (HB9.out.trans (hb10.mono HB9.out.size))
      have TP10 := Lib.hid (TP9.out.on hb10)
      have TX10 := Lib.hid (TX9.out.on hb10)
      have TO10 := Lib.hid (TO9.out.on hb10)
      clear hb10 HB9 TP9 TX9 TO9 p0 p1 p2 p3 x0 x1 x2 x3
      go_upto_region 16 with fail
      obtain ⟨Q, hQ⟩ : ∃ Q, w10.heap.size = Q := ⟨_, rfl⟩
      generalize hv : World.alloc _ _ = v11
      have TQ11 : RowKit.Hid (Pf4 Q v11 qf qh ql qn) := Lib.hid (by rw [← hv, ← hQ]; exact Pf4.new w10 qf qh ql qn _)
      have TP11 : RowKit.Hid (Pf4 (w.heap.size + 1) v11 pf ph pl pn) := Lib.hid (by rw [← hv]; exact TP10.out.on (below_new _ _))
      have TX11 : RowKit.Hid (Sp4 X v11 xa xb xc xd) := Lib.hid (by rw [← hv]; exact TX10.out.on (below_new _ _))
      have TO11 : RowKit.Hid (Pf4 O v11 of oh ol on) := Lib.hid (by rw [← hv]; exact TO10.out.on (below_new _ _))
      have HB11 := Lib.hid (show Below w.heap.size w v11 by rw [← hv]; exact HB10.out.alloc HB10.out.size _)
      clear hv HB10 TP10 TX10 TO10 K1 K2
      try rw [hQ]
      clear hQ
      rcases K3.out with ⟨rfl, rfl, rfl, rfl⟩ | ⟨rfl, rfl, k1, k2, k3⟩
      · clear K3
        obtain ⟨x0, x1, x2, x3, _⟩ := TX11.out
        go_wp2_with fail
        go_ret
        exact ⟨by simp, HB11.out⟩
      · have K1 := Lib.hid k1
        have K2 := Lib.hid k2
        have K4 := Lib.hid k3
        clear k1 k2 k3 K3
        obtain ⟨o0, o1, o2, o3, _, _, _, _⟩ := TO11.out
        go_wp2_with fail
        refine (K1.out v11).mono ?_
        rintro e w12 ⟨rfl, hb12⟩
        have HB12 := Lib.hid (HB11.out.trans (hb12.mono HB11.out.size))
        have TP12 := Lib.hid (TP11.out.on hb12)
        have TX12 := Lib.hid (TX11.out.on hb12)
        have TQ12 := Lib.hid (TQ11.out.on hb12)
        clear hb12 HB11 TP11 TX11 TQ11 TO11 o0 o1 o2 o3
        go_upto_region 19 with fail
        obtain ⟨U, hU⟩ : ∃ U, w12.heap.size = U := ⟨_, rfl⟩
        generalize hv : World.alloc _ _ = v13
        have TU13 : RowKit.Hid (Sp4 U v13 xa xb ma mb) := Lib.hid (by rw [← hv, ← hU]; exact Sp4.new w12 xa xb ma mb _)
        have TP13 : RowKit.Hid (Pf4 (w.heap.size + 1) v13 pf ph pl pn) := Lib.hid (by rw [← hv]; exact TP12.out.on (below_new _ _))
        have TX13 : RowKit.Hid (Sp4 X v13 xa xb xc xd) := Lib.hid (by rw [← hv]; exact TX12.out.on (below_new _ _))
        have TQ13 : RowKit.Hid (Pf4 Q v13 qf qh ql qn) := Lib.hid (by rw [← hv]; exact TQ12.out.on (below_new _ _))
        have HB13 := Lib.hid (show Below w.heap.size w v13 by rw [← hv]; exact HB12.out.alloc HB12.out.size _)
        clear hv HB12 TP12 TX12 TQ12
        try rw [hU]
        clear hU
        obtain ⟨q0, q1, q2, q3, _, _, _, _⟩ := TQ13.out
        go_wp2_with fail
        refine (K2.out v13).mono ?_
        rintro e w14 ⟨rfl, hb14⟩
        have HB14 := Lib.hid (HB13.out.trans (hb14.mono HB13.out.size))
        have TP14 := Lib.hid (TP13.out.on hb14)
        have TX14 := Lib.hid (TX13.out.on hb14)
        have TU14 := Lib.hid (TU13.out.on hb14)
        clear hb14 HB13 TP13 TX13 TQ13 TU13 q0 q1 q2 q3
        go_upto_region 20 with fail
        obtain ⟨V, hV⟩ : ∃ V, w14.heap.size = V := ⟨_, rfl⟩
        generalize hv : World.alloc _ _ = v15
        have TV15 : RowKit.Hid (Sp4 V v15 na nb xc xd) := Lib.hid (by rw [← hv, ← hV]; exact Sp4.new w14 na nb xc xd _)
        have TP15 : RowKit.Hid (Pf4 (w.heap.size + 1) v15 pf ph pl pn) := Lib.hid (by rw [← hv]; exact TP14.out.on (below_new _ _))
        have TX15 : RowKit.Hid (Sp4 X v15 xa xb xc xd) := Lib.hid (by rw [← hv]; exact TX14.out.on (below_new _ _))
        have TU15 : RowKit.Hid (Sp4 U v15 xa xb ma mb) := Lib.hid (by rw [← hv]; exact TU14.out.on (below_new _ _))
        have HB15 := Lib.hid (show Below w.heap.size w v15 by rw [← hv]; exact HB14.out.alloc HB14.out.size _)
        clear hv HB14 TP14 TX14 TU14
        try rw [hV]
        clear hV
        obtain ⟨p0, p1, p2, p3, _, _, _, _⟩ := TP15.out
        obtain ⟨u0, u1, u2, u3, _⟩ := TU15.out
        go_wp2_with fail
        refine (K4.out v15).mono ?_
        rintro e w16 ⟨rfl, hb16⟩
        have HB16 := Lib.hid (HB15.out.trans (hb16.mono HB15.out.size))
        have TX16 := Lib.hid (TX15.out.on hb16)
        have TU16 := Lib.hid (TU15.out.on hb16)
        have TV16 := Lib.hid (TV15.out.on hb16)
        clear hb16 HB15 TP15 TX15 TU15 TV15 p0 p1 p2 p3 u0 u1 u2 u3
        go_upto_region 21 with fail
        obtain ⟨Z, hZ⟩ : ∃ Z, w16.heap.size = Z := ⟨_, rfl⟩
        generalize hv : World.alloc _ _ = v17
        have TZ17 : RowKit.Hid (Ad2 Z v17 na nb) := Lib.hid (by rw [← hv, ← hZ]; exact Ad2.new w16 na nb _)
        have TX17 : RowKit.Hid (Sp4 X v17 xa xb xc xd) := Lib.hid (by rw [← hv]; exact TX16.out.on (below_new _ _))
        have TU17 : RowKit.Hid (Sp4 U v17 xa xb ma mb) := Lib.hid (by rw [← hv]; exact TU16.out.on (below_new _ _))
        have TV17 : RowKit.Hid (Sp4 V v17 na nb xc xd) := Lib.hid (by rw [← hv]; exact TV16.out.on (below_new _ _))
        have HB17 := Lib.hid (show Below w.heap.size w v17 by rw [← hv]; exact HB16.out.alloc HB16.out.size _)
        clear hv HB16 TX16 TU16 TV16
        try rw [hZ]
        clear hZ
        obtain ⟨x0, x1, x2, x3, _⟩ := TX17.out
        obtain ⟨u0, u1, u2, u3, _⟩ := TU17.out
        obtain ⟨y0, y1, y2, y3, _⟩ := TV17.out
        obtain ⟨z0, z1, _, _⟩ := TZ17.out
        go_wp2_with fail
        go_ret
        exact ⟨by simp, HB17.out⟩
end Go.Proofs.YtikhklnjjicfgaaDoor
