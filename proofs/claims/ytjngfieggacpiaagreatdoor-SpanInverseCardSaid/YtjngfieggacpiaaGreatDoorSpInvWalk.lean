/-
  THE WALK over SpanInverse; it is true at every input.
-/
import Derived.Test.YtjngfieggacpiaaGreatDoorSpanL
import Derived.Test.YtjngfieggacpiaaGreatDoorNumRefC
import Derived.Deep.DeepCutAuto
import Derived.Deep.RegionHeld3
namespace Go.Proofs.YtjngfieggacpiaaGreatDoor
open Go.RowKit Adr Spn
set_option linter.unusedVariables false
set_option linter.unusedSimpArgs false
set_option maxRecDepth 100000 in
set_option maxHeartbeats 8000000 in
theorem spinv_core (f a b c d pf ph pl pn : Int) (s : ByteArray) (w : World) (env : Env true w) (hs : s.size ≤ 1000)
    (X1 : ByteArray) (E1 xf xa xb xc xd xe : Int)
    (h1 : ∀ w, Env true w → Calls Tryz.prog 18 #[.int .u8 f, .agg #[.int .u64 a, .int .u64 b, .int .u64 c, .int .u64 d]] w fun e w' => e = .returned (.tuple #[.string X1, .int .i64 E1]) ∧ Below w.heap.size w w')
    (h2 : ∀ w, Env true w → Calls Tryz.prog 20 #[.string X1] w fun e w' => e = .returned (.tuple #[.int .u8 xf, .agg #[.int .u64 xa, .int .u64 xb, .int .u64 xc, .int .u64 xd], .int .i64 xe]) ∧ Below w.heap.size w w')
    (h3 : ∀ w, Calls Tryz.prog 23 #[.int .u8 f, .agg #[.int .u64 a, .int .u64 b, .int .u64 c, .int .u64 d]] w fun e w' => e = .returned (.int .i64 E1) ∧ Below w.heap.size w w')
    (k1 : (E1 = 0 ∧ xe = 0 ∧ xf = f ∧ xa = a ∧ xb = b ∧ xc = c ∧ xd = d) ∨ (E1 == 0) = false)
    (yf ya yb yc yd ye : Int) (X2 : ByteArray) (E2 : Int)
    (h4 : ∀ w, Env true w → Calls Tryz.prog 20 #[.string s] w fun e w' => e = .returned (.tuple #[.int .u8 yf, .agg #[.int .u64 ya, .int .u64 yb, .int .u64 yc, .int .u64 yd], .int .i64 ye]) ∧ Below w.heap.size w w')
    (h5 : ∀ w, Env true w → Calls Tryz.prog 18 #[.int .u8 yf, .agg #[.int .u64 ya, .int .u64 yb, .int .u64 yc, .int .u64 yd]] w fun e w' => e = .returned (.tuple #[.string X2, .int .i64 E2]) ∧ Below w.heap.size w w')
    (k2 : (ye = 0 ∧ E2 = 0 ∧ X2 = s) ∨ ye = 12)
    (za zb zc zd oe : Int)
    (h6 : ∀ w, Calls Tryz.prog 24 #[.agg #[.int .u8 pf, .int .u64 ph, .int .u64 pl, .int .i64 pn]] w fun e w' => e = .returned (.tuple #[.agg #[.int .u64 za, .int .u64 zb, .int .u64 zc, .int .u64 zd], .int .i64 oe]) ∧ Below w.heap.size w w')
    (k3 : (oe = 0 ∧ (∀ w, Calls Tryz.prog 25 #[.int .u8 pf, .agg #[.int .u64 za, .int .u64 zb, .int .u64 zc, .int .u64 zd]] w fun e w' => ∃ v, e = .returned (.tuple #[v, .int .i64 0]) ∧ w'.ownsRow w.heap.size 26 4 v 1 [.int .u8 pf, .int .u64 ph, .int .u64 pl, .int .i64 pn] ∧ Below w.heap.size w w') ∧ (∀ w, Calls Tryz.prog 26 #[.agg #[.int .u8 pf, .int .u64 ph, .int .u64 pl, .int .i64 pn]] w fun e w' => e = .returned (.int .i64 0) ∧ Below w.heap.size w w')) ∨ (oe != 0) = true) :
    Calls Tryz.prog 5 #[.int .u8 f, .agg #[.int .u64 a, .int .u64 b, .int .u64 c, .int .u64 d], .agg #[.int .u8 pf, .int .u64 ph, .int .u64 pl, .int .i64 pn], .string s] w fun e w' => e = .returned (.bool true) ∧ Below w.heap.size w w' := by
  have hG := env.big
  have HE := Lib.hid env
  have H1 := Lib.hid h1
  have H2 := Lib.hid h2
  have H3 := Lib.hid h3
  have K1 := Lib.hid k1
  have hs1 : ¬ (1000 : Int) < (s.size : Int) := by omega
  have H4 := Lib.hid h4
  have H5 := Lib.hid h5
  have K2 := Lib.hid k2
  have H6 := Lib.hid h6
  have K3 := Lib.hid k3
  clear env h1 h2 h3 k1 hs h4 h5 k2 h6 k3
  go_enter Tryz.func5, Tryz.ntmps5
  go_wp2_with fail
  generalize hv : World.alloc (World.alloc _ _) _ = v
  have TS : RowKit.Hid (Sp4 w.heap.size v a b c d) := Lib.hid (by rw [← hv]; exact (Sp4.new w a b c d _).on (below_new _ _))
  have TP : RowKit.Hid (Pf4 (w.heap.size + 1) v pf ph pl pn) := Lib.hid (by
    rw [← hv]
    have := Pf4.new (w.alloc (.cells #[.int .u64 a, .int .u64 b, .int .u64 c, .int .u64 d] 50)) pf ph pl pn 26
    simpa using this)
  have HB := Lib.hid (show Below w.heap.size w v by rw [← hv]; exact ((Below.refl _ _).alloc (Nat.le_refl _) _).alloc (by simp) _)
  clear hv
  refine (alive2_any v (HE.out.below HB.out hG)).mono ?_
  rintro e w1 ⟨rfl, hb1⟩
  have HB1 := Lib.hid (HB.out.trans (hb1.mono HB.out.size))
  have TS1 := Lib.hid (TS.out.on hb1)
  have TP1 := Lib.hid (TP.out.on hb1)
  clear hb1 HB TS TP
  obtain ⟨s0, s1, s2, s3, _⟩ := TS1.out
  go_wp2_with fail
  refine (H1.out w1 (HE.out.below HB1.out hG)).mono ?_
  rintro e w2 ⟨rfl, hb2⟩
  have HB2 := Lib.hid (HB1.out.trans (hb2.mono HB1.out.size))
  have TS2 := Lib.hid (TS1.out.on hb2)
  have TP2 := Lib.hid (TP1.out.on hb2)
  clear hb2 HB1 TS1 TP1 s0 s1 s2 s3
  go_wp2_with fail
  refine (H2.out w2 (HE.out.below HB2.out hG)).mono ?_
  rintro e w3 ⟨rfl, hb3⟩
  have HB3 := Lib.hid (HB2.out.trans (hb3.mono HB2.out.size))
  have TS3 := Lib.hid (TS2.out.on hb3)
  have TP3 := Lib.hid (TP2.out.on hb3)
  clear hb3 HB2 TS2 TP2
  go_upto_region 6 with fail
  obtain ⟨N, hN⟩ : ∃ N, w3.heap.size = N := ⟨_, rfl⟩
  generalize hv : World.alloc _ _ = v3
  have TY3 : RowKit.Hid (Sp4 N v3 xa xb xc xd) := Lib.hid (by rw [← hv, ← hN]; exact Sp4.new w3 xa xb xc xd _)
  have TS4 : RowKit.Hid (Sp4 w.heap.size v3 a b c d) := Lib.hid (by rw [← hv]; exact TS3.out.on (below_new _ _))
  have HC4 : RowKit.Hid (Below N w3 v3) := Lib.hid (by rw [← hv, ← hN]; exact below_new _ _)
  clear hv TS3
  try rw [hN]
  go_cut [60] (fun s60 wx => s60 = .bool false ∧ Below v3.heap.size v3 wx)
  case first =>
    obtain ⟨s0, s1, s2, s3, _⟩ := TS4.out
    obtain ⟨y0, y1, y2, y3, _⟩ := TY3.out
    rcases K1.out with ⟨rfl, rfl, rfl, rfl, rfl, rfl, rfl⟩ | h0
    · have sz := TS4.out.lt
      have yz := TY3.out.lt
      go_wp2_with fail
      refine (H3.out v3).mono ?_
      rintro e w5 ⟨rfl, hb5⟩
      have s0' := (hb5.cell (p := ⟨w.heap.size, 0, none⟩) sz).trans s0
      have s1' := (hb5.cell (p := ⟨w.heap.size, 1, none⟩) sz).trans s1
      have s2' := (hb5.cell (p := ⟨w.heap.size, 2, none⟩) sz).trans s2
      have s3' := (hb5.cell (p := ⟨w.heap.size, 3, none⟩) sz).trans s3
      have y0' := (hb5.cell (p := ⟨N, 0, none⟩) yz).trans y0
      have y1' := (hb5.cell (p := ⟨N, 1, none⟩) yz).trans y1
      have y2' := (hb5.cell (p := ⟨N, 2, none⟩) yz).trans y2
      have y3' := (hb5.cell (p := ⟨N, 3, none⟩) yz).trans y3
      go_wp2_with fail
      go_meet
      exact ⟨rfl, hb5⟩
    · go_wp2_with fail
      refine (H3.out v3).mono ?_
      rintro e w5 ⟨rfl, hb5⟩
      go_wp2_with fail
      go_meet
      exact ⟨rfl, hb5⟩
  case rest =>
    obtain ⟨rfl, hb5⟩ := hcut
    have hNs : N ≤ v3.heap.size := HC4.out.size |> fun h => by omega
    have HC5 := Lib.hid (HC4.out.trans (hb5.mono hNs))
    have TY5 := Lib.hid (TY3.out.on hb5)
    clear hb5 HC4 TY3 TS4
    have HB5 := Lib.hid (HB3.out.trans (HC5.out.mono (show w.heap.size ≤ N by have := HB3.out.size; omega)))
    go_wp2_with fail
    refine (H4.out wc (HE.out.below HB5.out hG)).mono ?_
    rintro e w6 ⟨rfl, hb6⟩
    have HC6 := Lib.hid (HC5.out.trans (hb6.mono (show N ≤ wc.heap.size by have := HC5.out.size; omega)))
    have TY6 := Lib.hid (TY5.out.on hb6)
    clear hb6 HB5 HC5 TY5
    obtain ⟨y0, y1, y2, y3, fz⟩ := TY6.out
    have g0 := fz 0
    have g1 := fz 1
    have g2 := fz 2
    have g3 := fz 3
    clear fz
    go_wp2_with fail
    have A7 := Lib.hid (sp_set (a' := ya) (b' := yb) (c' := yc) (d' := yd) TY6.out)
    have HC7 := Lib.hid (pf_below (v0 := .int .u64 ya) (v1 := .int .u64 yb) (v2 := .int .u64 yc) (v3 := .int .u64 yd) HC6.out (Nat.le_refl _))
    generalize hW7 : World.setCell (World.setCell (World.setCell (World.setCell w6 _ _) _ _) _ _) _ _ = W7 at A7 HC7 ⊢
    clear hW7 y0 y1 y2 y3 g0 g1 g2 g3 TY6 HC6
    have HB7 := Lib.hid (HB3.out.trans (HC7.out.mono (show w.heap.size ≤ N by have := HB3.out.size; omega)))
    try
      obtain ⟨y0, y1, y2, y3, _⟩ := A7.out
      go_wp2_with fail
    refine (H5.out W7 (HE.out.below HB7.out hG)).mono ?_
    rintro e w8 ⟨rfl, hb8⟩
    have HC8 := Lib.hid (HC7.out.trans (hb8.mono (show N ≤ W7.heap.size by have := HC7.out.size; omega)))
    clear hb8 HC7 HB7 A7
    try clear y0 y1 y2 y3
    go_upto_region 10 with fail
    go_cut [83] (fun s83 wx => s83 = .bool false ∧ wx = w8)
    case first =>
      rcases K2.out with ⟨rfl, rfl, rfl⟩ | rfl
      · go_wp2_with fail
        go_meet
        exact ⟨rfl, rfl⟩
      · go_wp2_with fail
        go_meet
        exact ⟨rfl, rfl⟩
    case rest =>
      obtain ⟨rfl, rfl⟩ := hcut
      have TP8 := Lib.hid (TP3.out.on (by rw [hN]; exact HC8.out))
      have HB8 := Lib.hid (HB3.out.trans (HC8.out.mono (show w.heap.size ≤ N by have := HB3.out.size; omega)))
      clear HC8 TP3 HB3 hN
      obtain ⟨p0, p1, p2, p3, _, _, _, _⟩ := TP8.out
      go_wp2_with fail
      refine (H6.out _).mono ?_
      rintro e w9 ⟨rfl, hb9⟩
      have TP9 := Lib.hid (TP8.out.on hb9)
      have HB9 := Lib.hid (HB8.out.trans (hb9.mono HB8.out.size))
      clear hb9 TP8 HB8 p0 p1 p2 p3
      go_upto_region 13 with fail
      generalize hv : World.alloc _ _ = v10
      have TZ10 : RowKit.Hid (Sp4 w9.heap.size v10 za zb zc zd) := Lib.hid (by rw [← hv]; exact Sp4.new w9 za zb zc zd _)
      have TP10 : RowKit.Hid (Pf4 (w.heap.size + 1) v10 pf ph pl pn) := Lib.hid (by rw [← hv]; exact TP9.out.on (below_new _ _))
      have HB10 := Lib.hid (show Below w.heap.size w v10 by rw [← hv]; exact HB9.out.alloc HB9.out.size _)
      clear hv TP9 HB9
      rcases K3.out with ⟨rfl, h7, h8⟩ | h0
      · have H7 := Lib.hid h7
        have H8 := Lib.hid h8
        clear h7 h8 K3
        obtain ⟨p0, p1, p2, p3, _, _, _, _⟩ := TP10.out
        obtain ⟨z0, z1, z2, z3, _⟩ := TZ10.out
        go_wp2_with fail
        refine (H7.out _).mono ?_
        rintro e w11 ⟨v, rfl, hown, hb11⟩
        obtain ⟨g, cap, rfl, hg1, hg2, hg3, hg4⟩ := own_cells hown (by decide)
        have HB11 := Lib.hid (HB10.out.trans (hb11.mono HB10.out.size))
        have TP11 := Lib.hid (TP10.out.on hb11)
        have l0 := hg4 0 _ rfl
        have l1 := hg4 1 _ rfl
        have l2 := hg4 2 _ rfl
        have l3 := hg4 3 _ rfl
        clear hb11 hown hg1 hg4 TP10 HB10 TZ10 p0 p1 p2 p3 z0 z1 z2 z3 H1 H2 H3 H4 H5 H6 H7 K1 K2
        obtain ⟨p0, p1, p2, p3, _, _, _, _⟩ := TP11.out
        have zp := TP11.out.lt
        go_upto_region 16 with fail
        go_region_held3 (fun z => z.cell? ⟨g, 0, none⟩ = some (.int .u8 pf) ∧ z.cell? ⟨g, 1, none⟩ = some (.int .u64 ph) ∧ z.cell? ⟨g, 2, none⟩ = some (.int .u64 pl) ∧ z.cell? ⟨g, 3, none⟩ = some (.int .i64 pn) ∧ z.cell? ⟨w.heap.size + 1, 0, none⟩ = some (.int .u8 pf) ∧ z.cell? ⟨w.heap.size + 1, 1, none⟩ = some (.int .u64 ph) ∧ z.cell? ⟨w.heap.size + 1, 2, none⟩ = some (.int .u64 pl) ∧ z.cell? ⟨w.heap.size + 1, 3, none⟩ = some (.int .i64 pn))
          (first | exact ⟨l0, l1, l2, l3, p0, p1, p2, p3⟩ | exact ⟨(hc12 _ _ hg2).trans l0, (hc12 _ _ hg2).trans l1, (hc12 _ _ hg2).trans l2, (hc12 _ _ hg2).trans l3, (hc12 _ _ zp).trans p0, (hc12 _ _ zp).trans p1, (hc12 _ _ zp).trans p2, (hc12 _ _ zp).trans p3⟩)
          ((go_at_call 26; refine (H8.out _).mono ?_; rintro e w12 ⟨rfl, hb12⟩; obtain ⟨hc12, hf12⟩ := bcellD hb12))
        all_goals
          have HB12 : RowKit.Hid (Below w11.heap.size w11 w12) := Lib.hid (((Below.refl w11.heap.size w11).drew).trans hb12)
          clear hb12 hc12 hf12
          go_wp2_with fail
          go_ret
          first
            | exact ⟨rfl, HB11.out.trans (HB12.out.mono HB11.out.size)⟩
            | exact ⟨rfl, (HB11.out.trans (HB12.out.mono HB11.out.size)).drew⟩
      · go_wp2_with fail
        go_ret
        exact ⟨rfl, HB10.out⟩
set_option maxRecDepth 100000 in
set_option maxHeartbeats 1000000 in
theorem spinv_long (f a b c d pf ph pl pn : Int) (s : ByteArray) (w : World) (env : Env true w) (hs : 1000 < s.size) :
    Calls Tryz.prog 5 #[.int .u8 f, .agg #[.int .u64 a, .int .u64 b, .int .u64 c, .int .u64 d], .agg #[.int .u8 pf, .int .u64 ph, .int .u64 pl, .int .i64 pn], .string s] w fun e w' => e = .returned (.bool true) ∧ Below w.heap.size w w' := by
  have hG := env.big
  have HE := Lib.hid env
  have hs1 : (1000 : Int) < (s.size : Int) := by omega
  clear env hs
  go_enter Tryz.func5, Tryz.ntmps5
  go_wp2_with fail
  generalize hv : World.alloc (World.alloc _ _) _ = v
  have HB := Lib.hid (show Below w.heap.size w v by rw [← hv]; exact ((Below.refl _ _).alloc (Nat.le_refl _) _).alloc (by simp) _)
  clear hv
  refine (alive2_any v (HE.out.below HB.out hG)).mono ?_
  rintro e w1 ⟨rfl, hb1⟩
  have HB1 := Lib.hid (HB.out.trans (hb1.mono HB.out.size))
  clear hb1 HB
  go_wp2_with fail
  go_ret
  exact ⟨rfl, HB1.out⟩
theorem spinv_true (f a b c d pf ph pl pn : Int) (s : ByteArray) (w : World) (env : Env true w) (ua : U64 a) (ub : U64 b) (uc : U64 c) (ud : U64 d) (uph : U64 ph) (upl : U64 pl) :
    Calls Tryz.prog 5 #[.int .u8 f, .agg #[.int .u64 a, .int .u64 b, .int .u64 c, .int .u64 d], .agg #[.int .u8 pf, .int .u64 ph, .int .u64 pl, .int .i64 pn], .string s] w fun e w' => e = .returned (.bool true) ∧ Below w.heap.size w w' := by
  by_cases hs : s.size ≤ 1000
  · obtain ⟨A, hA, rfl, rfl⟩ := a_of ua ub
    obtain ⟨M, hM, rfl, rfl⟩ := a_of uc ud
    obtain ⟨Q, hQ, rfl, rfl⟩ := a_of uph upl
    have key : ∀ (za zb zc zd oe : Int)
        (h6 : ∀ w, Calls Tryz.prog 24 #[.agg #[.int .u8 pf, .int .u64 (aH Q), .int .u64 (aL Q), .int .i64 pn]] w fun e w' => e = .returned (.tuple #[.agg #[.int .u64 za, .int .u64 zb, .int .u64 zc, .int .u64 zd], .int .i64 oe]) ∧ Below w.heap.size w w')
        (k3 : (oe = 0 ∧ (∀ w, Calls Tryz.prog 25 #[.int .u8 pf, .agg #[.int .u64 za, .int .u64 zb, .int .u64 zc, .int .u64 zd]] w fun e w' => ∃ v, e = .returned (.tuple #[v, .int .i64 0]) ∧ w'.ownsRow w.heap.size 26 4 v 1 [.int .u8 pf, .int .u64 (aH Q), .int .u64 (aL Q), .int .i64 pn] ∧ Below w.heap.size w w') ∧ (∀ w, Calls Tryz.prog 26 #[.agg #[.int .u8 pf, .int .u64 (aH Q), .int .u64 (aL Q), .int .i64 pn]] w fun e w' => e = .returned (.int .i64 0) ∧ Below w.heap.size w w')) ∨ (oe != 0) = true),
        Calls Tryz.prog 5 #[.int .u8 f, .agg #[.int .u64 (aH A), .int .u64 (aL A), .int .u64 (aH M), .int .u64 (aL M)], .agg #[.int .u8 pf, .int .u64 (aH Q), .int .u64 (aL Q), .int .i64 pn], .string s] w fun e w' => e = .returned (.bool true) ∧ Below w.heap.size w w' := by
      intro za zb zc zd oe h6 k3
      refine spinv_core f _ _ _ _ pf _ _ pn s w env hs (stX f A M) (schk f A M) (spF (stX f A M)) (aH (spA (stX f A M))) (aL (spA (stX f A M))) (aH (spM (stX f A M))) (aL (spM (stX f A M))) (spE (stX f A M))
        (fun w env => stext_any f A M hM w env) (fun w env => sparse_any _ w env (stX_size f A M)) (fun w => schk_any f A M w) ?_
        (spF s) (aH (spA s)) (aL (spA s)) (aH (spM s)) (aL (spM s)) (spE s) (stX (spF s) (spA s) (spM s)) (schk (spF s) (spA s) (spM s))
        (fun w env => sparse_any s w env hs) (fun w env => stext_any _ _ _ (spM_lt s) w env) ?_ za zb zc zd oe h6 k3
      · by_cases h0 : schk f A M = 0
        · obtain ⟨b1, b2, b3, b4⟩ := spOk_back f A M hM h0
          rw [b1, b2, b3, b4]
          exact Or.inl ⟨h0, rfl, rfl, rfl, rfl, rfl, rfl⟩
        · exact Or.inr (beq_eq_false_iff_ne.2 h0)
      · rcases sp_e2 s with h0 | h0
        · obtain ⟨b1, b2⟩ := sp_forth h0
          exact Or.inl ⟨h0, b1, b2⟩
        · exact Or.inr h0
    by_cases hc : chk pf (aH Q) (aL Q) pn = 0
    · obtain ⟨W, i, hf, rfl, hiW, hQW, _, ha⟩ := chk_num hQ hc
      obtain ⟨w1, w2, w3, w4⟩ := hf.wid
      have hp0 := Nat.two_pow_pos (W - i)
      have hE : Q + 2 ^ (W - i) - 1 < 2 ^ W := by
        obtain ⟨q, hq⟩ := Nat.dvd_of_mod_eq_zero ha
        have e : 2 ^ W = 2 ^ (W - i) * 2 ^ i := by rw [← Nat.pow_add]; congr 1; omega
        rw [e] at hQW ⊢
        subst hq
        have hlt : q < 2 ^ i := Nat.lt_of_mul_lt_mul_left hQW
        have : 2 ^ (W - i) * q + 2 ^ (W - i) ≤ 2 ^ (W - i) * 2 ^ i := by
          rw [show 2 ^ (W - i) * q + 2 ^ (W - i) = 2 ^ (W - i) * (q + 1) by rw [Nat.mul_add, Nat.mul_one]]
          exact Nat.mul_le_mul_left _ hlt
        omega
      refine key _ _ _ _ 0 (fun w => of_yes hf Q i hiW hQW ha w) (Or.inl ⟨rfl, fun w => ?_, fun w => ?_⟩)
      · have hst : Spn.Steps W Q (Q + 2 ^ (W - i) - 1 + 1 - Q) [(Q, W - i)] := by
          rw [show Q + 2 ^ (W - i) - 1 + 1 - Q = 2 ^ (W - i) by omega]
          exact steps_whole W Q (W - i) (by omega) ha
        have h := pfx_yes hf Q (Q + 2 ^ (W - i) - 1) (by omega) hE _ hst w
        have hcl : pcells pf W [(Q, W - i)] = [.int .u8 pf, .int .u64 (aH Q), .int .u64 (aL Q), .int .i64 i] := by
          show [Value.int .u8 pf, .int .u64 (aH Q), .int .u64 (aL Q), .int .i64 ((W - (W - i) : Nat) : Int)] = _
          rw [show W - (W - i) = i by omega]
        rw [hcl] at h
        exact h
      · have h := rchk_any pf (aH Q) (aL Q) i w uph upl
        rw [hc] at h
        exact h
    · exact key 0 0 0 0 (chk pf (aH Q) (aL Q) pn) (fun w => of_no pf _ _ pn _ w uph upl rfl (by rw [bne_iff_ne]; exact hc)) (Or.inr (by rw [bne_iff_ne]; exact hc))
  · exact spinv_long f a b c d pf ph pl pn s w env (by omega)
end Go.Proofs.YtjngfieggacpiaaGreatDoor
