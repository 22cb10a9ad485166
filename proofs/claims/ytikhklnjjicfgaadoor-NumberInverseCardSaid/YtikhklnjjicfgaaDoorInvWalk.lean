/-
  THE WALK over NumberInverse.
-/
import Derived.Test.YtikhklnjjicfgaaDoorInvMath
import Derived.Test.YtikhklnjjicfgaaDoorAlive
import Derived.Deep.DeepCutAuto
namespace Go.Proofs.YtikhklnjjicfgaaDoor
open Go.RowKit Adr
set_option linter.unusedVariables false
/-- a row of two numbers in a block -/
structure Ad2 (N : Nat) (W : World) (h l : Int) : Prop where
  a0 : W.cell? ⟨N, 0, none⟩ = some (.int .u64 h)
  a1 : W.cell? ⟨N, 1, none⟩ = some (.int .u64 l)
  f0 : W.frozen? ⟨N, 0, none⟩ = false
  f1 : W.frozen? ⟨N, 1, none⟩ = false
theorem Ad2.lt {N : Nat} {W : World} {h l : Int} (t : Ad2 N W h l) : N < W.heap.size := World.block_lt_of_cell? _ _ t.a0
theorem Ad2.on {N : Nat} {W W' : World} {h l : Int} (t : Ad2 N W h l) (hb : Below W.heap.size W W') : Ad2 N W' h l :=
  ⟨(hb.cell (p := ⟨N, 0, none⟩) t.lt).trans t.a0, (hb.cell (p := ⟨N, 1, none⟩) t.lt).trans t.a1, (hb.frozen (p := ⟨N, 0, none⟩) t.lt).trans t.f0, (hb.frozen (p := ⟨N, 1, none⟩) t.lt).trans t.f1⟩
theorem Ad2.new (W : World) (h l : Int) (t : TypeId) : Ad2 W.heap.size (W.alloc (.cells #[.int .u64 h, .int .u64 l] t)) h l := ⟨by simp, by simp, by simp, by simp⟩
/-- a prefix in a block -/
structure Pf4 (N : Nat) (W : World) (f h l n : Int) : Prop where
  a0 : W.cell? ⟨N, 0, none⟩ = some (.int .u8 f)
  a1 : W.cell? ⟨N, 1, none⟩ = some (.int .u64 h)
  a2 : W.cell? ⟨N, 2, none⟩ = some (.int .u64 l)
  a3 : W.cell? ⟨N, 3, none⟩ = some (.int .i64 n)
  f0 : W.frozen? ⟨N, 0, none⟩ = false
  f1 : W.frozen? ⟨N, 1, none⟩ = false
  f2 : W.frozen? ⟨N, 2, none⟩ = false
  f3 : W.frozen? ⟨N, 3, none⟩ = false
theorem Pf4.lt {N : Nat} {W : World} {f h l n : Int} (t : Pf4 N W f h l n) : N < W.heap.size := World.block_lt_of_cell? _ _ t.a0
theorem Pf4.on {N : Nat} {W W' : World} {f h l n : Int} (t : Pf4 N W f h l n) (hb : Below W.heap.size W W') : Pf4 N W' f h l n :=
  ⟨(hb.cell (p := ⟨N, 0, none⟩) t.lt).trans t.a0, (hb.cell (p := ⟨N, 1, none⟩) t.lt).trans t.a1, (hb.cell (p := ⟨N, 2, none⟩) t.lt).trans t.a2, (hb.cell (p := ⟨N, 3, none⟩) t.lt).trans t.a3, (hb.frozen (p := ⟨N, 0, none⟩) t.lt).trans t.f0, (hb.frozen (p := ⟨N, 1, none⟩) t.lt).trans t.f1, (hb.frozen (p := ⟨N, 2, none⟩) t.lt).trans t.f2, (hb.frozen (p := ⟨N, 3, none⟩) t.lt).trans t.f3⟩
theorem Pf4.new (W : World) (f h l n : Int) (t : TypeId) : Pf4 W.heap.size (W.alloc (.cells #[.int .u8 f, .int .u64 h, .int .u64 l, .int .i64 n] t)) f h l n := ⟨by simp, by simp, by simp, by simp, by simp, by simp, by simp, by simp⟩
theorem below_new (W : World) (o : Obj) : Below W.heap.size W (W.alloc o) := (Below.refl _ _).alloc (Nat.le_refl _) _
set_option maxRecDepth 100000 in
set_option maxHeartbeats 4000000 in
theorem inverse_core (f H L pf ph pl pn : Int) (an : Int) (s : ByteArray) (w : World) (env : Env true w) (hs : s.size ≤ 1000)
    (X1 : ByteArray) (E1 : Int) (c : Bool) (xf xh xl xe : Int)
    (h1 : ∀ w, Env true w → Calls Tryd.prog 9 #[.int .u8 f, .agg #[.int .u64 H, .int .u64 L]] w fun e w' => e = .returned (.tuple #[.string X1, .int .i64 E1]) ∧ Below w.heap.size w w')
    (h2 : ApIs X1 xf xh xl xe)
    (h3 : ∀ w, Calls Tryd.prog 19 #[.int .u8 f, .agg #[.int .u64 H, .int .u64 L]] w fun e w' => e = .returned (.bool c) ∧ Below w.heap.size w w')
    (k1 : (c = true ∧ E1 = 0 ∧ xe = 0 ∧ xf = f ∧ xh = H ∧ xl = L) ∨ (c = false ∧ E1 = 2))
    (X3 : ByteArray) (E3 : Int) (qf qh ql qn qe : Int)
    (h4 : ∀ w, Env true w → Calls Tryd.prog 20 #[.agg #[.int .u8 pf, .int .u64 ph, .int .u64 pl, .int .i64 pn]] w fun e w' => e = .returned (.tuple #[.string X3, .int .i64 E3]) ∧ Below w.heap.size w w')
    (h5 : ∀ w, Env true w → Calls Tryd.prog 11 #[.string X3] w (PfxLeft qf qh ql qn qe w))
    (h6 : ∀ w, Calls Tryd.prog 15 #[.agg #[.int .u8 pf, .int .u64 ph, .int .u64 pl, .int .i64 pn]] w fun e w' => e = .returned (.int .i64 E3) ∧ Below w.heap.size w w')
    (k2 : (E3 = 0 ∧ qe = 0 ∧ qf = pf ∧ qh = ph ∧ ql = pl ∧ qn = pn) ∨ (E3 == 0) = false)
    (X5 : ByteArray)
    (h7 : ∀ w, Env true w → Calls Tryd.prog 21 #[.int .u32 an] w fun e w' => e = .returned (.string X5) ∧ Below w.heap.size w w')
    (h8 : ∀ w, Env true w → Calls Tryd.prog 12 #[.string X5] w fun e w' => e = .returned (.tuple #[.int .u32 an, .int .i64 0]) ∧ Below w.heap.size w w')
    (bf bh bl be : Int) (X6 : ByteArray) (E6 : Int)
    (h9 : ApIs s bf bh bl be)
    (h10 : ∀ w, Env true w → Calls Tryd.prog 9 #[.int .u8 bf, .agg #[.int .u64 bh, .int .u64 bl]] w fun e w' => e = .returned (.tuple #[.string X6, .int .i64 E6]) ∧ Below w.heap.size w w')
    (k4 : (be = 0 ∧ E6 = 0 ∧ X6 = s) ∨ be = 12)
    (rf rh rl rn re : Int) (X7 : ByteArray) (E7 : Int)
    (h11 : ∀ w, Env true w → Calls Tryd.prog 11 #[.string s] w (PfxLeft rf rh rl rn re w))
    (h12 : ∀ w, Env true w → Calls Tryd.prog 20 #[.agg #[.int .u8 rf, .int .u64 rh, .int .u64 rl, .int .i64 rn]] w fun e w' => e = .returned (.tuple #[.string X7, .int .i64 E7]) ∧ Below w.heap.size w w')
    (k5 : (re = 0 ∧ E7 = 0 ∧ X7 = s) ∨ re = 12)
    (m me : Int)
    (h13 : ∀ w, Env true w → Calls Tryd.prog 12 #[.string s] w fun e w' => e = .returned (.tuple #[.int .u32 m, .int .i64 me]) ∧ Below w.heap.size w w')
    (h14 : me = 0 → ∀ w, Env true w → Calls Tryd.prog 21 #[.int .u32 m] w fun e w' => e = .returned (.string s) ∧ Below w.heap.size w w')
    (k6 : me = 0 ∨ me = 12) :
    Calls Tryd.prog 4 #[.int .u8 f, .agg #[.int .u64 H, .int .u64 L], .agg #[.int .u8 pf, .int .u64 ph, .int .u64 pl, .int .i64 pn], .int .u32 an, .string s] w fun e w' => e = .returned (.bool true) ∧ Below w.heap.size w w' := by
  have hG := env.big
  have HE := Lib.hid env
  have H1 := Lib.hid h1
  have H2 := Lib.hid h2
  have H3 := Lib.hid h3
  have K1 := Lib.hid k1
  have hs1 : ¬ (1000 : Int) < (s.size : Int) := by omega
  have H4 := Lib.hid h4
  have H5 := Lib.hid h5
  have H6 := Lib.hid h6
  have K2 := Lib.hid k2
  have H7 := Lib.hid h7
  have H8 := Lib.hid h8
  have H9 := Lib.hid h9
  have H10 := Lib.hid h10
  have K4 := Lib.hid k4
  have H11 := Lib.hid h11
  have H12 := Lib.hid h12
  have K5 := Lib.hid k5
  have H13 := Lib.hid h13
  have H14 := Lib.hid h14
  have K6 := Lib.hid k6
  clear env h1 h2 h3 k1 hs h4 h5 h6 k2 h7 h8 h9 h10 k4 h11 h12 k5 h13 h14 k6
  go_enter Tryd.func4, Tryd.ntmps4
  go_wp2_with fail
  generalize hv : World.alloc (World.alloc _ _) _ = v
  have TA : RowKit.Hid (Ad2 w.heap.size v H L) := Lib.hid (by rw [← hv]; exact (Ad2.new w H L _).on (below_new _ _))
  have TP : RowKit.Hid (Pf4 (w.heap.size + 1) v pf ph pl pn) := Lib.hid (by
    rw [← hv]
    have := Pf4.new (w.alloc (.cells #[.int .u64 H, .int .u64 L] 27)) pf ph pl pn 34
    simpa using this)
  have HB := Lib.hid (show Below w.heap.size w v by rw [← hv]; exact ((Below.refl _ _).alloc (Nat.le_refl _) _).alloc (by simp) _)
  clear hv
  refine (alive_any v (HE.out.below HB.out hG)).mono ?_
  rintro e w1 ⟨rfl, hb1⟩
  have HB1 := Lib.hid (HB.out.trans (hb1.mono HB.out.size))
  have TA1 := Lib.hid (TA.out.on hb1)
  have TP1 := Lib.hid (TP.out.on hb1)
  clear hb1 HB TA TP
  obtain ⟨a0, a1, _, _⟩ := TA1.out
  go_wp2_with fail
  refine (H1.out w1 (HE.out.below HB1.out hG)).mono ?_
  rintro e w2 ⟨rfl, hb2⟩
  have HB2 := Lib.hid (HB1.out.trans (hb2.mono HB1.out.size))
  have TA2 := Lib.hid (TA1.out.on hb2)
  have TP2 := Lib.hid (TP1.out.on hb2)
  clear hb2 HB1 TA1 TP1 a0 a1
  go_wp2_with fail
  refine (H2.out w2 (HE.out.below HB2.out hG)).mono ?_
  rintro e w3 ⟨rfl, hb3⟩
  have HB3 := Lib.hid (HB2.out.trans (hb3.mono HB2.out.size))
  have TA3 := Lib.hid (TA2.out.on hb3)
  have TP3 := Lib.hid (TP2.out.on hb3)
  clear hb3 HB2 TA2 TP2
  go_upto_region 6 with fail
  obtain ⟨N, hN⟩ : ∃ N, w3.heap.size = N := ⟨_, rfl⟩
  generalize hv : World.alloc _ _ = v3
  have TB3 : RowKit.Hid (Ad2 N v3 xh xl) := Lib.hid (by rw [← hv, ← hN]; exact Ad2.new w3 xh xl _)
  have TA4 : RowKit.Hid (Ad2 w.heap.size v3 H L) := Lib.hid (by rw [← hv]; exact TA3.out.on (below_new _ _))
  have TP4 : RowKit.Hid (Pf4 (w.heap.size + 1) v3 pf ph pl pn) := Lib.hid (by rw [← hv]; exact TP3.out.on (below_new _ _))
  have HB4 := Lib.hid (show Below w.heap.size w v3 by rw [← hv]; exact HB3.out.alloc HB3.out.size _)
  have hNw : w.heap.size ≤ N := by have := HB3.out.size; omega
  clear hv HB3 TA3 TP3
  try rw [hN]
  clear hN
  go_cut [63] (fun s63 wx => s63 = .bool false ∧ Below v3.heap.size v3 wx)
  case first =>
    obtain ⟨a0, a1, _, _⟩ := TA4.out
    obtain ⟨b0, b1, _, _⟩ := TB3.out
    rcases K1.out with ⟨rfl, rfl, rfl, rfl, rfl, rfl⟩ | ⟨rfl, rfl⟩
    · have az := TA4.out.lt
      have bz := TB3.out.lt
      go_wp2_with fail
      refine (H3.out v3).mono ?_
      rintro e w5 ⟨rfl, hb5⟩
      have a0' := (hb5.cell (p := ⟨w.heap.size, 0, none⟩) az).trans a0
      have a1' := (hb5.cell (p := ⟨w.heap.size, 1, none⟩) az).trans a1
      have b0' := (hb5.cell (p := ⟨N, 0, none⟩) bz).trans b0
      have b1' := (hb5.cell (p := ⟨N, 1, none⟩) bz).trans b1
      go_wp2_with fail
      go_meet
      exact ⟨rfl, hb5⟩
    · go_wp2_with fail
      refine (H3.out v3).mono ?_
      rintro e w5 ⟨rfl, hb5⟩
      go_wp2_with fail
      go_meet
      exact ⟨rfl, hb5⟩
  case rest =>
    obtain ⟨rfl, hb5⟩ := hcut
    have HB5 := Lib.hid (HB4.out.trans (hb5.mono HB4.out.size))
    have TB5 := Lib.hid (TB3.out.on hb5)
    have TP5 := Lib.hid (TP4.out.on hb5)
    have hNn := HB4.out.size
    clear hb5 HB4 TB3 TP4 TA4
    obtain ⟨p0, p1, p2, p3, _, _, _, _⟩ := TP5.out
    go_wp2_with fail
    refine (H4.out wc (HE.out.below HB5.out hG)).mono ?_
    rintro e w6 ⟨rfl, hb6⟩
    have HB6 := Lib.hid (HB5.out.trans (hb6.mono HB5.out.size))
    have TB6 := Lib.hid (TB5.out.on hb6)
    have TP6 := Lib.hid (TP5.out.on hb6)
    clear hb6 HB5 TB5 TP5 p0 p1 p2 p3
    go_wp2_with fail
    refine (H5.out w6 (HE.out.below HB6.out hG)).mono ?_
    rintro e w7 ⟨rfl, hb7⟩
    have HB7 := Lib.hid (HB6.out.trans (hb7.mono HB6.out.size))
    have TB7 := Lib.hid (TB6.out.on hb7)
    have TP7 := Lib.hid (TP6.out.on hb7)
    clear hb7 HB6 TB6 TP6
    go_upto_region 10 with fail
    obtain ⟨M, hM⟩ : ∃ M, w7.heap.size = M := ⟨_, rfl⟩
    generalize hv : World.alloc _ _ = v8
    have TQ8 : RowKit.Hid (Pf4 M v8 qf qh ql qn) := Lib.hid (by rw [← hv, ← hM]; exact Pf4.new w7 qf qh ql qn _)
    have TB8 : RowKit.Hid (Ad2 N v8 xh xl) := Lib.hid (by rw [← hv]; exact TB7.out.on (below_new _ _))
    have TP8 : RowKit.Hid (Pf4 (w.heap.size + 1) v8 pf ph pl pn) := Lib.hid (by rw [← hv]; exact TP7.out.on (below_new _ _))
    have HB8 := Lib.hid (show Below w.heap.size w v8 by rw [← hv]; exact HB7.out.alloc HB7.out.size _)
    have hNM : N ≠ M := by have := TB7.out.lt; omega
    have hwM : w.heap.size ≤ M := by have := HB7.out.size; omega
    clear hv HB7 TB7 TP7
    try rw [hM]
    clear hM
    go_cut [90] (fun s90 wx => s90 = .bool false ∧ Below v8.heap.size v8 wx)
    case first =>
      obtain ⟨p0, p1, p2, p3, _, _, _, _⟩ := TP8.out
      obtain ⟨q0, q1, q2, q3, _, _, _, _⟩ := TQ8.out
      have pz := TP8.out.lt
      have qz := TQ8.out.lt
      rcases K2.out with ⟨rfl, rfl, rfl, rfl, rfl, rfl⟩ | h0
      · go_wp2_with fail
        refine (H6.out v8).mono ?_
        rintro e w9 ⟨rfl, hb9⟩
        obtain ⟨p0', p1', p2', p3', _, _, _, _⟩ := TP8.out.on hb9
        obtain ⟨q0', q1', q2', q3', _, _, _, _⟩ := TQ8.out.on hb9
        go_wp2_with fail
        go_meet
        exact ⟨rfl, hb9⟩
      · go_wp2_with fail
        refine (H6.out v8).mono ?_
        rintro e w9 ⟨rfl, hb9⟩
        go_wp2_with fail
        go_meet
        exact ⟨rfl, hb9⟩
    case rest =>
      obtain ⟨rfl, hb9⟩ := hcut
      have HB9 := Lib.hid (HB8.out.trans (hb9.mono HB8.out.size))
      have TB9 := Lib.hid (TB8.out.on hb9)
      have TQ9 := Lib.hid (TQ8.out.on hb9)
      clear hb9 HB8 TB8 TP8 TQ8
      go_wp2_with fail
      refine (H7.out wc (HE.out.below HB9.out hG)).mono ?_
      rintro e w10 ⟨rfl, hb10⟩
      have HB10 := Lib.hid (HB9.out.trans (hb10.mono HB9.out.size))
      have TB10 := Lib.hid (TB9.out.on hb10)
      have TQ10 := Lib.hid (TQ9.out.on hb10)
      clear hb10 HB9 TB9 TQ9
      go_wp2_with fail
      refine (H8.out w10 (HE.out.below HB10.out hG)).mono ?_
      rintro e w11 ⟨rfl, hb11⟩
      have HB11 := Lib.hid (HB10.out.trans (hb11.mono HB10.out.size))
      have TB11 := Lib.hid (TB10.out.on hb11)
      have TQ11 := Lib.hid (TQ10.out.on hb11)
      clear hb11 HB10 TB10 TQ10
      go_wp2_with fail
      refine (H9.out w11 (HE.out.below HB11.out hG)).mono ?_
      rintro e w12 ⟨rfl, hb12⟩
      have HB12 := Lib.hid (HB11.out.trans (hb12.mono HB11.out.size))
      have TB12 := Lib.hid (TB11.out.on hb12)
      have TQ12 := Lib.hid (TQ11.out.on hb12)
      clear hb12 HB11 TB11 TQ11
      obtain ⟨b0, b1, b2, b3⟩ := TB12.out
      go_wp2_with fail
      generalize hv : World.setCell (World.setCell _ _ _) _ _ = v13
      have TB13 : RowKit.Hid (Ad2 N v13 bh bl) := Lib.hid (by
        rw [← hv]
        exact ⟨(two_set b0 b1).1, (two_set b0 b1).2, by simpa using b2, by simpa using b3⟩)
      have TQ13 : RowKit.Hid (Pf4 M v13 qf qh ql qn) := Lib.hid (by
        rw [← hv]
        obtain ⟨q0, q1, q2, q3, g0, g1, g2, g3⟩ := TQ12.out
        exact ⟨cell_far (cell_far q0 (by simp [hNM])) (by simp [hNM]), cell_far (cell_far q1 (by simp [hNM])) (by simp [hNM]), cell_far (cell_far q2 (by simp [hNM])) (by simp [hNM]), cell_far (cell_far q3 (by simp [hNM])) (by simp [hNM]), by simpa using g0, by simpa using g1, by simpa using g2, by simpa using g3⟩)
      have HB13 := Lib.hid (show Below w.heap.size w v13 by rw [← hv]; exact two_below HB12.out hNw)
      clear hv HB12 TB12 TQ12 b0 b1 b2 b3
      obtain ⟨b0, b1, _, _⟩ := TB13.out
      refine (H10.out v13 (HE.out.below HB13.out hG)).mono ?_
      rintro e w14 ⟨rfl, hb14⟩
      have HB14 := Lib.hid (HB13.out.trans (hb14.mono HB13.out.size))
      have TQ14 := Lib.hid (TQ13.out.on hb14)
      clear hb14 HB13 TB13 TQ13 b0 b1
      go_upto_region 17 with fail
      go_cut [126] (fun s126 wx => s126 = .bool false ∧ wx = w14)
      case first =>
        rcases K4.out with ⟨rfl, rfl, rfl⟩ | rfl
        · go_wp2_with fail
          go_meet
          exact ⟨rfl, rfl⟩
        · go_wp2_with fail
          go_meet
          exact ⟨rfl, rfl⟩
      case rest =>
        obtain ⟨rfl, rfl⟩ := hcut
        go_wp2_with fail
        refine (H11.out _ (HE.out.below HB14.out hG)).mono ?_
        rintro e w15 ⟨rfl, hb15⟩
        have HB15 := Lib.hid (HB14.out.trans (hb15.mono HB14.out.size))
        have TQ15 := Lib.hid (TQ14.out.on hb15)
        clear hb15 HB14 TQ14
        obtain ⟨q0, q1, q2, q3, g0, g1, g2, g3⟩ := TQ15.out
        go_wp2_with fail
        have A := four_set (v0 := .int .u8 rf) (v1 := .int .u64 rh) (v2 := .int .u64 rl) (v3 := .int .i64 rn) q0 q1 q2 q3
        have HB16' := four_below (v0 := .int .u8 rf) (v1 := .int .u64 rh) (v2 := .int .u64 rl) (v3 := .int .i64 rn) HB15.out hwM
        generalize hv : World.setCell (World.setCell _ _ _) _ _ = v16 at A HB16' ⊢
        have HB16 := Lib.hid HB16'
        obtain ⟨r0, r1, r2, r3⟩ := A
        clear hv HB15 TQ15 q0 q1 q2 q3 g0 g1 g2 g3 HB16'
        refine (H12.out v16 (HE.out.below HB16.out hG)).mono ?_
        rintro e w17 ⟨rfl, hb17⟩
        have HB17 := Lib.hid (HB16.out.trans (hb17.mono HB16.out.size))
        clear hb17 HB16 r0 r1 r2 r3
        go_upto_region 21 with fail
        go_cut [147] (fun s147 wx => s147 = .bool false ∧ wx = w17)
        case first =>
          rcases K5.out with ⟨rfl, rfl, rfl⟩ | rfl
          · go_wp2_with fail
            go_meet
            exact ⟨rfl, rfl⟩
          · go_wp2_with fail
            go_meet
            exact ⟨rfl, rfl⟩
        case rest =>
          obtain ⟨rfl, rfl⟩ := hcut
          go_wp2_with fail
          refine (H13.out _ (HE.out.below HB17.out hG)).mono ?_
          rintro e w18 ⟨rfl, hb18⟩
          have HB18 := Lib.hid (HB17.out.trans (hb18.mono HB17.out.size))
          clear hb18 HB17
          rcases K6.out with rfl | rfl
          · go_wp2_with fail
            refine (H14.out (by first | exact rfl | trivial) w18 (HE.out.below HB18.out hG)).mono ?_
            rintro e w19 ⟨rfl, hb19⟩
            go_wp2_with fail
            go_ret
            exact ⟨rfl, HB18.out.trans (hb19.mono HB18.out.size)⟩
          · go_wp2_with fail
            go_ret
            exact ⟨rfl, HB18.out⟩
theorem chk_parts {f h l n : Int} (h0 : chk f h l n = 0) : ca f h l = true ∧ 0 ≤ n ∧ n ≤ 128 := by
  have hok : ok f h l n = true := by
    unfold chk at h0
    by_cases hh : ok f h l n = true
    · exact hh
    · rw [if_neg hh] at h0
      split at h0 <;> omega
  have hw := wid_hi f
  unfold ok cutOk at hok
  simp only [Bool.and_eq_true, decide_eq_true_eq] at hok
  exact ⟨hok.1.1.1, hok.1.1.2, by have := hok.1.2; omega⟩
set_option maxRecDepth 100000 in
set_option maxHeartbeats 1000000 in
theorem inverse_long (f H L pf ph pl pn an : Int) (s : ByteArray) (w : World) (env : Env true w) (hs : 1000 < s.size) :
    Calls Tryd.prog 4 #[.int .u8 f, .agg #[.int .u64 H, .int .u64 L], .agg #[.int .u8 pf, .int .u64 ph, .int .u64 pl, .int .i64 pn], .int .u32 an, .string s] w fun e w' => e = .returned (.bool true) ∧ Below w.heap.size w w' := by
  have hG := env.big
  have HE := Lib.hid env
  have hs1 : (1000 : Int) < (s.size : Int) := by omega
  clear env hs
  go_enter Tryd.func4, Tryd.ntmps4
  go_wp2_with fail
  generalize hv : World.alloc (World.alloc _ _) _ = v
  have HB := Lib.hid (show Below w.heap.size w v by rw [← hv]; exact ((Below.refl _ _).alloc (Nat.le_refl _) _).alloc (by simp) _)
  clear hv
  refine (alive_any v (HE.out.below HB.out hG)).mono ?_
  rintro e w1 ⟨rfl, hb1⟩
  have HB1 := Lib.hid (HB.out.trans (hb1.mono HB.out.size))
  clear hb1 HB
  go_wp2_with fail
  go_ret
  exact ⟨rfl, HB1.out⟩
theorem inverse_true (f H L pf ph pl pn an : Int) (s : ByteArray) (w : World) (env : Env true w) (uH : U64 H) (uL : U64 L) (uph : U64 ph) (upl : U64 pl) (ua : 0 ≤ an ∧ an < 4294967296) :
    Calls Tryd.prog 4 #[.int .u8 f, .agg #[.int .u64 H, .int .u64 L], .agg #[.int .u8 pf, .int .u64 ph, .int .u64 pl, .int .i64 pn], .int .u32 an, .string s] w fun e w' => e = .returned (.bool true) ∧ Below w.heap.size w w' := by
  by_cases hs : s.size ≤ 1000
  · obtain ⟨Hn, rfl, hH⟩ := u64_nat uH
    obtain ⟨Ln, rfl, hL⟩ := u64_nat uL
    obtain ⟨phn, rfl, hph⟩ := u64_nat uph
    obtain ⟨pln, rfl, hpl⟩ := u64_nat upl
    obtain ⟨a, rfl⟩ : ∃ a : Nat, an = (a : Int) := ⟨an.toNat, by omega⟩
    have ha : a < 4294967296 := by omega
    have hm : ∀ m, asNum s = some m → str (asS m) = s ∧ m < 4294967296 := fun m hm => as_forth hm
    obtain ⟨Z, hZ⟩ : ∃ Z, str (asS a) = Z := ⟨_, rfl⟩
    have h7 : ∀ w, Env true w → Calls Tryd.prog 21 #[.int .u32 a] w fun e w' => e = .returned (.string Z) ∧ Below w.heap.size w w' := fun w env => by rw [← hZ]; exact as_text a w env ha
    have h8 : ∀ w, Env true w → Calls Tryd.prog 12 #[.string Z] w fun e w' => e = .returned (.tuple #[.int .u32 a, .int .i64 0]) ∧ Below w.heap.size w w' := fun w env => by
      have hz : Z.size ≤ 1000000 := by
        rw [← hZ, str_size]
        unfold asS
        have : (Lib.decDigits a).length ≤ 20 := by rw [Lib.decDigits_length]; exact Lib.nDigits_le20 _ (by omega)
        simp only [List.length_append, List.length_cons, List.length_nil]
        omega
      have := as_parse Z w env hz
      rw [← hZ, as_back a ha] at this
      rw [← hZ]
      exact this
    have key : ∀ (X3 : ByteArray) (E3 : Int) (qf qh ql qn qe : Int)
        (h4 : ∀ w, Env true w → Calls Tryd.prog 20 #[.agg #[.int .u8 pf, .int .u64 phn, .int .u64 pln, .int .i64 pn]] w fun e w' => e = .returned (.tuple #[.string X3, .int .i64 E3]) ∧ Below w.heap.size w w')
        (h5 : ∀ w, Env true w → Calls Tryd.prog 11 #[.string X3] w (PfxLeft qf qh ql qn qe w))
        (h6 : ∀ w, Calls Tryd.prog 15 #[.agg #[.int .u8 pf, .int .u64 phn, .int .u64 pln, .int .i64 pn]] w fun e w' => e = .returned (.int .i64 E3) ∧ Below w.heap.size w w')
        (k2 : (E3 = 0 ∧ qe = 0 ∧ qf = pf ∧ qh = phn ∧ ql = pln ∧ qn = pn) ∨ (E3 == 0) = false),
        Calls Tryd.prog 4 #[.int .u8 f, .agg #[.int .u64 Hn, .int .u64 Ln], .agg #[.int .u8 pf, .int .u64 phn, .int .u64 pln, .int .i64 pn], .int .u32 a, .string s] w fun e w' => e = .returned (.bool true) ∧ Below w.heap.size w w' := by
      intro X3 E3 qf qh ql qn qe h4 h5 h6 k2
      refine inverse_core f Hn Ln pf phn pln pn a s w env hs _ _ (ca f Hn Ln) _ _ _ _ (fun w env => text_any f Hn Ln w env hH hL) (ap_any _) (fun w => ca_any f Hn Ln w (by omega)) ?_ X3 E3 qf qh ql qn qe h4 h5 h6 k2 Z h7 h8
        _ _ _ _ _ _ (ap_any s) (fun w env => text_any (apF s) (apH s) (apL s) w env (ap_u64 s).1 (ap_u64 s).2) ?_
        (paF s) (paH s) (paL s) (paN s) (paE s) (if paE s = 0 then s else ⟨#[]⟩) (if paE s = 0 then 0 else 2) (fun w env => pa_any s w env hs) ?_ ?_
        _ _ (fun w env => as_parse s w env (by omega)) ?_ ?_
      · cases hc : ca f Hn Ln
        · exact Or.inr ⟨rfl, by simp⟩
        · rw [if_pos rfl, if_pos rfl]
          obtain ⟨b1, b2, b3, b4⟩ := ap_back f Hn Ln hc hH hL
          exact Or.inl ⟨rfl, rfl, b4, b1, by rw [b2], by rw [b3]⟩
      · by_cases h0 : apE s = 0
        · obtain ⟨b1, b2, _, _⟩ := ap_forth h0
          rw [b2, if_pos rfl, if_pos rfl]
          exact Or.inl ⟨h0, rfl, b1⟩
        · exact Or.inr (ap_zero h0).2.2.2
      · intro w env
        by_cases h0 : paE s = 0
        · rw [if_pos h0, if_pos h0]
          obtain ⟨b1, b2, b3, b4, b5, b6⟩ := pa_forth h0
          have hn := (chk_parts b2).2.2
          have := ptext_yes (paF s) (paH s) (paL s) (paN s) w env b5 b6 b2 b3 (by omega)
          rw [b1] at this
          exact this
        · rw [if_neg h0, if_neg h0]
          obtain ⟨b1, b2, b3, b4, b5⟩ := pa_zero h0
          rw [b1, b2, b3, b4]
          exact ptext_no 0 0 0 0 2 w ⟨by omega, by omega⟩ ⟨by omega, by omega⟩ (by decide) (by decide)
      · by_cases h0 : paE s = 0
        · rw [if_pos h0, if_pos h0]
          exact Or.inl ⟨h0, rfl, rfl⟩
        · exact Or.inr (pa_zero h0).2.2.2.2
      · intro h0 w env
        cases hn : asNum s with
        | none => rw [hn] at h0; simp at h0
        | some m =>
          obtain ⟨b1, b2⟩ := hm m hn
          have := as_text m w env b2
          rw [b1] at this
          exact this
      · cases asNum s with
        | none => exact Or.inr rfl
        | some m => exact Or.inl rfl
    by_cases hc : chk pf phn pln pn = 0
    · obtain ⟨c1, c2, c3⟩ := chk_parts hc
      obtain ⟨n, rfl⟩ : ∃ n : Nat, pn = (n : Int) := ⟨pn.toNat, by omega⟩
      obtain ⟨b1, b2, b3, b4, b5⟩ := pa_back pf phn pln n hc c1 (by omega) hph hpl
      have hl : (str (pfxS pf phn pln n)).size ≤ 1000 := by
        rw [str_size]
        unfold pfxS
        have h1 := addrS_len pf phn pln
        have h2 : (Lib.decDigits n).length ≤ 20 := by rw [Lib.decDigits_length]; exact Lib.nDigits_le20 _ (by omega)
        simp only [List.length_append, List.length_cons, List.length_nil]
        omega
      refine key (str (pfxS pf phn pln n)) 0 _ _ _ _ _ (fun w env => ptext_yes pf phn pln n w env hph hpl hc c1 (by omega)) (fun w env => pa_any _ w env hl) (fun w => chk_call _ _ _ _ w uph upl 0 hc) (Or.inl ⟨rfl, b5, b1, by rw [b2], by rw [b3], by rw [b4]⟩)
    · refine key ⟨#[]⟩ (chk pf phn pln pn) _ _ _ _ _ (fun w env => ptext_no pf phn pln pn _ w uph upl rfl (by rw [bne_iff_ne]; exact hc)) (fun w env => pa_any _ w env (by decide)) (fun w => chk_call _ _ _ _ w uph upl _ rfl) (Or.inr (beq_eq_false_iff_ne.2 hc))
  · exact inverse_long f H L pf ph pl pn an s w env (by omega)
end Go.Proofs.YtikhklnjjicfgaaDoor
