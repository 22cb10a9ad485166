/-
  Both, whatever the windows; the reference's too.
-/
import Derived.Test.YtopdblkgchcdnaaClkE
import Derived.Test.YtopdblkgchcdnaaClkF
namespace Go.Proofs.Ytopdblkgchcdnaa
open Go.RowKit Clk
set_option linter.unusedVariables false
def boI (a b c d : Int) : Bool := wnB a b && (wnB c d && decide (max a c ≤ min b d))
def boX (a b c d : Int) : Int := if boI a b c d = true then max a c else 0
def boY (a b c d : Int) : Int := if boI a b c d = true then min b d else 0
def boE (a b c d : Int) : Int := if wnB a b = true then (if wnB c d = true then 0 else 8) else 8
theorem bo_cases (a b c d : Int) (h1 : wnB a b = true) :
    wnB c d = false ∧ boX a b c d = 0 ∧ boY a b c d = 0 ∧ boI a b c d = false ∧ boE a b c d = 8 ∨ wnB c d = true ∧ min b d < max a c ∧ boX a b c d = 0 ∧ boY a b c d = 0 ∧ boI a b c d = false ∧ boE a b c d = 0 ∨ wnB c d = true ∧ max a c ≤ min b d ∧ boX a b c d = max a c ∧ boY a b c d = min b d ∧ boI a b c d = true ∧ boE a b c d = 0 := by
  cases h2 : wnB c d
  · have i : boI a b c d = false := by simp [boI, h2]
    exact Or.inl ⟨rfl, by simp [boX, i], by simp [boY, i], i, by simp [boE, h2]⟩
  · by_cases hm : max a c ≤ min b d
    · have i : boI a b c d = true := by simp only [boI, h1, h2, Bool.true_and, decide_eq_true_eq]; exact hm
      exact Or.inr (Or.inr ⟨rfl, hm, by simp [boX, i], by simp [boY, i], i, by simp [boE, h1, h2]⟩)
    · have i : boI a b c d = false := by simp only [boI, h1, h2, Bool.true_and, decide_eq_false_iff_not]; exact hm
      exact Or.inr (Or.inl ⟨rfl, by omega, by simp [boX, i], by simp [boY, i], i, by simp [boE, h1, h2]⟩)
theorem both_any (a b c d : Int) (w : World) :
    Calls Try.prog 12 #[.agg #[.int .i64 a, .int .i64 b], .agg #[.int .i64 c, .int .i64 d]] w fun e' w' => e' = .returned (.tuple #[.agg #[.int .i64 (boX a b c d), .int .i64 (boY a b c d)], .bool (boI a b c d), .int .i64 (boE a b c d)]) ∧ Below w.heap.size w w' := by
  cases h1 : wnB a b
  · have i : boI a b c d = false := by simp [boI, h1]
    rw [show boX a b c d = 0 by simp [boX, i], show boY a b c d = 0 by simp [boY, i], i, show boE a b c d = 8 by simp [boE, h1]]
    exact both_bad1 a b c d w h1
  · exact both_rest a b c d w h1 _ _ _ _ (bo_cases a b c d h1)
theorem rboth_any (a b c d : Int) (w : World) :
    Calls Try.prog 17 #[.agg #[.int .i64 a, .int .i64 b], .agg #[.int .i64 c, .int .i64 d]] w fun e' w' => e' = .returned (.tuple #[.agg #[.int .i64 (boX a b c d), .int .i64 (boY a b c d)], .bool (boI a b c d), .int .i64 (boE a b c d)]) ∧ Below w.heap.size w w' := by
  cases h1 : wnB a b
  · have i : boI a b c d = false := by simp [boI, h1]
    rw [show boX a b c d = 0 by simp [boX, i], show boY a b c d = 0 by simp [boY, i], i, show boE a b c d = 8 by simp [boE, h1]]
    exact rboth_bad1 a b c d w h1
  · rcases bo_cases a b c d h1 with ⟨h2, e1, e2, e3, e4⟩ | ⟨h2, hm, e1, e2, e3, e4⟩ | ⟨h2, hm, e1, e2, e3, e4⟩
    · rw [e1, e2, e3, e4]
      exact rboth_bad2 a b c d w h1 h2
    · rw [e1, e2, e3, e4]
      exact rboth_rest a b c d w h1 h2 0 0 false (max a c) (min b d) (by omega) (by omega) (Or.inl ⟨hm, rfl, rfl, rfl⟩)
    · rw [e1, e2, e3, e4]
      exact rboth_rest a b c d w h1 h2 _ _ true (max a c) (min b d) (by omega) (by omega) (Or.inr ⟨hm, rfl, rfl, rfl⟩)
end Go.Proofs.Ytopdblkgchcdnaa
