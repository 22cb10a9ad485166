/-
  THE WALKS over package clock and its reference: Both.
-/
import Derived.Test.YtopdblkgchcdnaaClkA
namespace Go.Proofs.Ytopdblkgchcdnaa
open Go.RowKit Clk
set_option linter.unusedVariables false
set_option linter.unusedSimpArgs false
set_option maxHeartbeats 1000000 in
theorem both_bad1 (a b c d : Int) (w : World) (h1 : wnB a b = false) :
    Calls Try.prog 12 #[.agg #[.int .i64 a, .int .i64 b], .agg #[.int .i64 c, .int .i64 d]] w fun e' w' => e' = .returned (.tuple #[.agg #[.int .i64 0, .int .i64 0], .bool false, .int .i64 8]) ∧ Below w.heap.size w w' := by
  have H1 := Lib.hid h1
  clear h1
  go_enter Try.func12, Try.ntmps12
  go_wp2_with fail
  refine (chk_no _ H1.out).mono ?_
  rintro e w1 ⟨rfl, hb1⟩
  have T3 : RowKit.Hid (Two (w.heap.size + 2) w1 0 0) := Lib.hid ((by simpa using Two.new ((w.alloc _).alloc _) 0 0 _ : Two (w.heap.size + 2) _ 0 0).on hb1)
  have HB : RowKit.Hid (Below w.heap.size w w1) := Lib.hid ((((below_new _ _).alloc (by simp) _).alloc (by simp; omega) _).trans (hb1.mono (by simp; omega)))
  clear hb1
  obtain ⟨c0, c1, c2, c3⟩ := T3.out
  go_wp2_with fail
  have A := two_set (x' := 0) (y' := 0) T3.out
  refine bodyPost_ret (v := .tuple #[.agg #[.int .i64 0, .int .i64 0], .bool false, .int .i64 8]) (by simp [results, Try.results12, go_sem, A.a0, A.a1]) rfl ⟨rfl, ?_⟩
  exact two_below HB.out (by omega)
set_option maxHeartbeats 1000000 in
theorem both_rest (a b c d : Int) (w : World) (h1 : wnB a b = true) (x y : Int) (i : Bool) (e : Int)
    (hr : wnB c d = false ∧ x = 0 ∧ y = 0 ∧ i = false ∧ e = 8 ∨ wnB c d = true ∧ min b d < max a c ∧ x = 0 ∧ y = 0 ∧ i = false ∧ e = 0 ∨ wnB c d = true ∧ max a c ≤ min b d ∧ x = max a c ∧ y = min b d ∧ i = true ∧ e = 0) :
    Calls Try.prog 12 #[.agg #[.int .i64 a, .int .i64 b], .agg #[.int .i64 c, .int .i64 d]] w fun e' w' => e' = .returned (.tuple #[.agg #[.int .i64 x, .int .i64 y], .bool i, .int .i64 e]) ∧ Below w.heap.size w w' := by
  have H1 := Lib.hid h1
  have HR := Lib.hid hr
  clear h1 hr
  go_enter Try.func12, Try.ntmps12
  go_wp2_with fail
  refine (chk_yes _ H1.out).mono ?_
  rintro e w1 ⟨rfl, hb1⟩
  have T1 : RowKit.Hid (Two w.heap.size w1 a b) := Lib.hid ((((Two.new w a b _).on (below_new _ _)).on (below_new _ _)).on hb1)
  have T2 : RowKit.Hid (Two (w.heap.size + 1) w1 c d) := Lib.hid (((by simpa using Two.new (w.alloc _) c d _ : Two (w.heap.size + 1) _ c d).on (below_new _ _)).on hb1)
  have T3 : RowKit.Hid (Two (w.heap.size + 2) w1 0 0) := Lib.hid ((by simpa using Two.new ((w.alloc _).alloc _) 0 0 _ : Two (w.heap.size + 2) _ 0 0).on hb1)
  have HB : RowKit.Hid (Below w.heap.size w w1) := Lib.hid ((((below_new _ _).alloc (by simp) _).alloc (by simp; omega) _).trans (hb1.mono (by simp; omega)))
  clear hb1
  obtain ⟨a0, a1, _, _⟩ := T2.out
  go_wp2_with fail
  rcases HR.out with ⟨h2, rfl, rfl, rfl, rfl⟩ | ⟨h2, hm, rfl, rfl, rfl, rfl⟩ | ⟨h2, hm, rfl, rfl, rfl, rfl⟩
  all_goals
    first
      | refine (chk_no _ h2).mono ?_
      | refine (chk_yes _ h2).mono ?_
    rintro e w2 ⟨rfl, hb2⟩
    have T12 := Lib.hid (T1.out.on hb2)
    have T22 := Lib.hid (T2.out.on hb2)
    have T32 := Lib.hid (T3.out.on hb2)
    have HB2 := Lib.hid (chain HB.out hb2)
    clear hb2 T1 T2 T3 HB a0 a1 HR h2
    obtain ⟨a0, a1, _, _⟩ := T12.out
    obtain ⟨b0, b1, _, _⟩ := T22.out
    obtain ⟨c0, c1, c2, c3⟩ := T32.out
    go_wp2_with fail
  · have A := two_set (x' := 0) (y' := 0) T32.out
    refine bodyPost_ret (v := .tuple #[.agg #[.int .i64 0, .int .i64 0], .bool false, .int .i64 8]) (by simp [results, Try.results12, go_sem, A.a0, A.a1]) rfl ⟨rfl, ?_⟩
    exact two_below HB2.out (by omega)
  · have A := two_set (x' := 0) (y' := 0) (two_set (x' := max a c) (y' := min b d) T32.out)
    refine bodyPost_ret (v := .tuple #[.agg #[.int .i64 0, .int .i64 0], .bool false, .int .i64 0]) (by simp [results, Try.results12, go_sem, A.a0, A.a1]) rfl ⟨rfl, ?_⟩
    exact two_below (two_below HB2.out (by omega)) (by omega)
  · have A := two_set (x' := max a c) (y' := min b d) (two_set (x' := max a c) (y' := min b d) T32.out)
    refine bodyPost_ret (v := .tuple #[.agg #[.int .i64 (max a c), .int .i64 (min b d)], .bool true, .int .i64 0]) (by simp [results, Try.results12, go_sem, A.a0, A.a1]) rfl ⟨rfl, ?_⟩
    exact two_below (two_below HB2.out (by omega)) (by omega)
end Go.Proofs.Ytopdblkgchcdnaa
