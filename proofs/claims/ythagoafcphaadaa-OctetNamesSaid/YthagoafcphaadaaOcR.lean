/-
  THE WALKS over layer 8's reference: Count, Depth. Written by wip/gen-oc10.py.
-/
import Derived.Test.YthagoafcphaadaaOcP
namespace Go.Proofs.Ythagoafcphaadaa
open Go.RowKit Sha Oc
set_option linter.unusedVariables false
set_option linter.unusedSimpArgs false
theorem cnts_take : ∀ (l : List Oct) (k : Nat), cnts (l.take k) ≤ cnts l
  | [], k => by rw [List.take_nil]; exact Nat.le_refl _
  | v :: r, 0 => by rw [List.take_zero, cnts]; exact Nat.zero_le _
  | v :: r, k + 1 => by rw [List.take_succ_cons, cnts, cnts]; have := cnts_take r k; omega
theorem cnts_self (l : List Oct) : cnts l ≤ cnts l := Nat.le_refl _
mutual
theorem dep_cnt : ∀ o : Oct, dep o ≤ cnt o
  | .mk t b l => by
    have := deps_le l
    rw [dep, cnt]
    omega
theorem deps_le : ∀ l : List Oct, deps l ≤ cnts l
  | [] => Nat.le_refl _
  | v :: r => by
    have h1 := dep_cnt v
    have h2 := deps_le r
    rw [deps, cnts]
    omega
end
end Go.Proofs.Ythagoafcphaadaa
