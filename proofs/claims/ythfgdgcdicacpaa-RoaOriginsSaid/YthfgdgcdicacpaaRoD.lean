import Derived.Test.YthfgdgcdicacpaaRoC
import Derived.Test.YthfgdgcdicacpaaNumRefF
namespace Go.Proofs.Ythfgdgcdicacpaa
namespace Ro
open Go.RowKit Sha Adr
set_option linter.unusedVariables false
set_option linter.unusedSimpArgs false
theorem sz4p (a b c d : Value) : (Try.prog.info? 44).map (·.size) = some ([a, b, c, d] : List Value).length := by
 show _ = some 4
 kernel_rfl
theorem c43 {V : World} {M : Nat} {a b c d : Value} {T : TypeId} (H : V.heap[M]? = some (.cells #[a, b, c, d] T (0, 0))) : V.cell? ⟨M, 3, none⟩ = some d := cell_of_row _ _ _ _ _ _ H
theorem c21 {V : World} {M : Nat} {a b : Value} {T : TypeId} (H : V.heap[M]? = some (.cells #[a, b] T (0, 0))) : V.cell? ⟨M, 1, none⟩ = some b := cell_of_row _ _ _ _ _ _ H
theorem great_any (sy : Int) (n : Nat) (A : Option Addr) (c : Nat) (w : World) :
  Calls Try.prog 8 #[.agg #[.int .u32 sy, .slice A n c]] w fun e w' => e = .returned (.bool (decide (130 < n))) ∧ Below w.heap.size w w' := by
 have HB0 := Lib.hid (below_new w (.cells #[.int .u32 sy, .slice A n c] 25))
 by_cases h : 130 < n
 ·
  rw [decide_eq_true h]
  have i1 : (n : Int) > 130 := by omega
  clear h
  go_enter Try.func8, Try.ntmps8
  go_wp2_with fail
  go_ret
  exact ⟨by first | rfl | (simp; omega), HB0.out⟩
 ·
  rw [decide_eq_false h]
  have i1 : ¬ (n : Int) > 130 := by omega
  clear h
  go_enter Try.func8, Try.ntmps8
  go_wp2_with fail
  go_ret
  exact ⟨by first | rfl | (simp; omega), HB0.out⟩
end Ro
end Go.Proofs.Ythfgdgcdicacpaa
