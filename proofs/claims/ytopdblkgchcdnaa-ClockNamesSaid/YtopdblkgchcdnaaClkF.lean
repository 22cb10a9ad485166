/-
  THE WALKS over package clock and its reference: the reference's Both.
-/
import Derived.Test.YtopdblkgchcdnaaClkA
namespace Go.Proofs.Ytopdblkgchcdnaa
open Go.RowKit Clk
set_option linter.unusedVariables false
set_option linter.unusedSimpArgs false
theorem two_set0 {B : Nat} {w : World} {x y x' : Int} (h : Two B w x y) : Two B (w.setCell ⟨B, 0, none⟩ (.int .i64 x')) x' y := by
  obtain ⟨a0, a1, f0, f1⟩ := h
  exact ⟨cset_same a0, cset_far a1 (by simp), by simpa using f0, by simpa using f1⟩
theorem two_set1 {B : Nat} {w : World} {x y y' : Int} (h : Two B w x y) : Two B (w.setCell ⟨B, 1, none⟩ (.int .i64 y')) x y' := by
  obtain ⟨a0, a1, f0, f1⟩ := h
  exact ⟨cset_far a0 (by simp), cset_same a1, by simpa using f0, by simpa using f1⟩
theorem two_away {B D j : Nat} {w : World} {a b : Int} {v0 : Value} (hn : B ≠ D) (h : Two B w a b) : Two B (w.setCell ⟨D, j, none⟩ v0) a b := by
  obtain ⟨a0, a1, f0, f1⟩ := h
  have e : ∀ (i j : Nat), (⟨D, i, none⟩ : Addr) ≠ ⟨B, j, none⟩ := fun i j h => hn (by simp only [Addr.mk.injEq] at h; exact h.1.symm)
  exact ⟨cset_far a0 (e _ _), cset_far a1 (e _ _), by simpa using f0, by simpa using f1⟩
set_option maxHeartbeats 1000000 in
theorem rboth_bad1 (a b c d : Int) (w : World) (h1 : wnB a b = false) :
    Calls Try.prog 17 #[.agg #[.int .i64 a, .int .i64 b], .agg #[.int .i64 c, .int .i64 d]] w fun e' w' => e' = .returned (.tuple #[.agg #[.int .i64 0, .int .i64 0], .bool false, .int .i64 8]) ∧ Below w.heap.size w w' := by
  have H1 := Lib.hid h1
  clear h1
  go_enter Try.func17, Try.ntmps17
  go_wp2_with fail
  refine (rchk_no _ H1.out).mono ?_
  rintro e w1 ⟨rfl, hb1⟩
  have T3 : RowKit.Hid (Two (w.heap.size + 2) w1 0 0) := Lib.hid ((by simpa using Two.new ((w.alloc _).alloc _) 0 0 _ : Two (w.heap.size + 2) _ 0 0).on hb1)
  have HB : RowKit.Hid (Below w.heap.size w w1) := Lib.hid ((((below_new _ _).alloc (by simp) _).alloc (by simp; omega) _).trans (hb1.mono (by simp; omega)))
  clear hb1
  obtain ⟨c0, c1, c2, c3⟩ := T3.out
  go_wp2_with fail
  have A := two_set (x' := 0) (y' := 0) T3.out
  refine bodyPost_ret (v := .tuple #[.agg #[.int .i64 0, .int .i64 0], .bool false, .int .i64 8]) (by simp [results, Try.results17, go_sem, A.a0, A.a1]) rfl ⟨rfl, ?_⟩
  exact two_below HB.out (by omega)
set_option maxHeartbeats 1000000 in
theorem rboth_bad2 (a b c d : Int) (w : World) (h1 : wnB a b = true) (h2 : wnB c d = false) :
    Calls Try.prog 17 #[.agg #[.int .i64 a, .int .i64 b], .agg #[.int .i64 c, .int .i64 d]] w fun e' w' => e' = .returned (.tuple #[.agg #[.int .i64 0, .int .i64 0], .bool false, .int .i64 8]) ∧ Below w.heap.size w w' := by
  have H1 := Lib.hid h1
  have H2 := Lib.hid h2
  clear h1 h2
  go_enter Try.func17, Try.ntmps17
  go_wp2_with fail
  refine (rchk_yes _ H1.out).mono ?_
  rintro e w1 ⟨rfl, hb1⟩
  have T2 : RowKit.Hid (Two (w.heap.size + 1) w1 c d) := Lib.hid (((by simpa using Two.new (w.alloc _) c d _ : Two (w.heap.size + 1) _ c d).on (below_new _ _)).on hb1)
  have T3 : RowKit.Hid (Two (w.heap.size + 2) w1 0 0) := Lib.hid ((by simpa using Two.new ((w.alloc _).alloc _) 0 0 _ : Two (w.heap.size + 2) _ 0 0).on hb1)
  have HB : RowKit.Hid (Below w.heap.size w w1) := Lib.hid ((((below_new _ _).alloc (by simp) _).alloc (by simp; omega) _).trans (hb1.mono (by simp; omega)))
  clear hb1
  obtain ⟨a0, a1, _, _⟩ := T2.out
  go_wp2_with fail
  refine (rchk_no _ H2.out).mono ?_
  rintro e w2 ⟨rfl, hb2⟩
  have T32 := Lib.hid (T3.out.on hb2)
  have HB2 := Lib.hid (chain HB.out hb2)
  clear hb2 a0 a1
  obtain ⟨c0, c1, c2, c3⟩ := T32.out
  go_wp2_with fail
  have A := two_set (x' := 0) (y' := 0) T32.out
  refine bodyPost_ret (v := .tuple #[.agg #[.int .i64 0, .int .i64 0], .bool false, .int .i64 8]) (by simp [results, Try.results17, go_sem, A.a0, A.a1]) rfl ⟨rfl, ?_⟩
  exact two_below HB2.out (by omega)
set_option maxHeartbeats 2000000 in
theorem rboth_rest (a b c d : Int) (w : World) (h1 : wnB a b = true) (h2 : wnB c d = true) (x y : Int) (i : Bool) (X Y : Int)
    (hx : a < c ∧ X = c ∨ c ≤ a ∧ X = a) (hy : d < b ∧ Y = d ∨ b ≤ d ∧ Y = b)
    (hr : Y < X ∧ x = 0 ∧ y = 0 ∧ i = false ∨ X ≤ Y ∧ x = X ∧ y = Y ∧ i = true) :
    Calls Try.prog 17 #[.agg #[.int .i64 a, .int .i64 b], .agg #[.int .i64 c, .int .i64 d]] w fun e' w' => e' = .returned (.tuple #[.agg #[.int .i64 x, .int .i64 y], .bool i, .int .i64 0]) ∧ Below w.heap.size w w' := by
  have H1 := Lib.hid h1
  have H2 := Lib.hid h2
  have HR := Lib.hid hr
  have HX := Lib.hid hx
  have HY := Lib.hid hy
  clear h1 h2 hr hx hy
  go_enter Try.func17, Try.ntmps17
  go_wp2_with fail
  refine (rchk_yes _ H1.out).mono ?_
  rintro e w1 ⟨rfl, hb1⟩
  have T1 : RowKit.Hid (Two w.heap.size w1 a b) := Lib.hid ((((Two.new w a b _).on (below_new _ _)).on (below_new _ _)).on hb1)
  have T2 : RowKit.Hid (Two (w.heap.size + 1) w1 c d) := Lib.hid (((by simpa using Two.new (w.alloc _) c d _ : Two (w.heap.size + 1) _ c d).on (below_new _ _)).on hb1)
  have T3 : RowKit.Hid (Two (w.heap.size + 2) w1 0 0) := Lib.hid ((by simpa using Two.new ((w.alloc _).alloc _) 0 0 _ : Two (w.heap.size + 2) _ 0 0).on hb1)
  have HB : RowKit.Hid (Below w.heap.size w w1) := Lib.hid ((((below_new _ _).alloc (by simp) _).alloc (by simp; omega) _).trans (hb1.mono (by simp; omega)))
  clear hb1
  obtain ⟨a0, a1, _, _⟩ := T2.out
  go_wp2_with fail
  refine (rchk_yes _ H2.out).mono ?_
  rintro e w2 ⟨rfl, hb2⟩
  have T12 := Lib.hid (T1.out.on hb2)
  have T22 := Lib.hid (T2.out.on hb2)
  have T32 := Lib.hid (T3.out.on hb2)
  have HB2 := Lib.hid (chain HB.out hb2)
  clear hb2 T1 T2 T3 HB a0 a1
  obtain ⟨a0, a1, _, _⟩ := T12.out
  go_upto_region 4 with fail
  obtain ⟨N, hN⟩ : ∃ N, w2.heap.size = N := ⟨_, rfl⟩
  have hNw : w.heap.size + 2 < N := by rw [← hN]; exact T32.out.lt
  generalize hv : World.alloc _ _ = v
  have T13 : RowKit.Hid (Two (w.heap.size + 1) v c d) := Lib.hid (by rw [← hv]; exact T22.out.on (below_new _ _))
  have T23 : RowKit.Hid (Two (w.heap.size + 2) v 0 0) := Lib.hid (by rw [← hv]; exact T32.out.on (below_new _ _))
  have T43 : RowKit.Hid (Two N v a b) := Lib.hid (by rw [← hv, ← hN]; exact Two.new w2 a b _)
  have HB3 : RowKit.Hid (Below w.heap.size w v) := Lib.hid (by rw [← hv]; exact HB2.out.alloc HB2.out.size _)
  clear hv T12 T22 T32 HB2 a0 a1
  try rw [hN]
  clear hN
  obtain ⟨a0, a1, _, _⟩ := T13.out
  obtain ⟨b0, b1, b2, b3⟩ := T43.out
  go_upto_if 22 with fail
  go_cut [5] (fun s5 wx => s5 = .bool false ∧ Two N wx X b ∧ Two (w.heap.size + 1) wx c d ∧ Two (w.heap.size + 2) wx 0 0 ∧ Below w.heap.size w wx)
  case first =>
    rcases HX.out with ⟨h, rfl⟩ | ⟨h, rfl⟩
    · go_wp2_with fail
      go_meet
      exact ⟨rfl, two_set0 T43.out, two_away (by omega) T13.out, two_away (by omega) T23.out, HB3.out.setCell (by show w.heap.size ≤ N; omega) _⟩
    · go_wp2_with fail
      go_meet
      exact ⟨rfl, T43.out, T13.out, T23.out, HB3.out⟩
  case rest =>
    obtain ⟨rfl, t4, t1, t2, hb⟩ := hcut
    have T44 := Lib.hid t4
    have T14 := Lib.hid t1
    have T24 := Lib.hid t2
    have HB4 := Lib.hid hb
    clear t4 t1 t2 hb T43 T13 T23 HB3 a0 a1 b0 b1 b2 b3 HX
    obtain ⟨a0, a1, _, _⟩ := T14.out
    obtain ⟨b0, b1, b2, b3⟩ := T44.out
    go_upto_if 30 with fail
    go_cut [5] (fun s5 wx => s5 = .bool false ∧ Two N wx X Y ∧ Two (w.heap.size + 2) wx 0 0 ∧ Below w.heap.size w wx)
    case first =>
      rcases HY.out with ⟨h, rfl⟩ | ⟨h, rfl⟩
      · go_wp2_with fail
        go_meet
        exact ⟨rfl, two_set1 T44.out, two_away (by omega) T24.out, HB4.out.setCell (by show w.heap.size ≤ N; omega) _⟩
      · go_wp2_with fail
        go_meet
        exact ⟨rfl, T44.out, T24.out, HB4.out⟩
    case rest =>
      obtain ⟨rfl, t4, t2, hb⟩ := hcut
      have T45 := Lib.hid t4
      have T25 := Lib.hid t2
      have HB5 := Lib.hid hb
      clear t4 t2 hb T44 T14 T24 HB4 a0 a1 b0 b1 b2 b3 HY
      obtain ⟨a0, a1, _, _⟩ := T45.out
      obtain ⟨b0, b1, b2, b3⟩ := T25.out
      rcases HR.out with ⟨h, rfl, rfl, rfl⟩ | ⟨h, rfl, rfl, rfl⟩
      · go_wp2_with fail
        have A := two_set (x' := 0) (y' := 0) T25.out
        refine bodyPost_ret (v := .tuple #[.agg #[.int .i64 0, .int .i64 0], .bool false, .int .i64 0]) (by simp [results, Try.results17, go_sem, A.a0, A.a1]) rfl ⟨rfl, ?_⟩
        exact two_below HB5.out (by omega)
      · go_wp2_with fail
        have A := two_set (x' := x) (y' := y) T25.out
        refine bodyPost_ret (v := .tuple #[.agg #[.int .i64 x, .int .i64 y], .bool true, .int .i64 0]) (by simp [results, Try.results17, go_sem, A.a0, A.a1]) rfl ⟨rfl, ?_⟩
        exact two_below HB5.out (by omega)
end Go.Proofs.Ytopdblkgchcdnaa
