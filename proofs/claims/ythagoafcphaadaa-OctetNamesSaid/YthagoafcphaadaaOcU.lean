/-
  THE WALK over layer 8's reference: size. Written by wip/gen-oc13.py.
-/
import Derived.Test.YthagoafcphaadaaOcT
namespace Go.Proofs.Ythagoafcphaadaa
open Go.RowKit Sha Oc
set_option linter.unusedVariables false
set_option linter.unusedSimpArgs false
theorem lenb_le (n : Nat) : (lenb n).length ≤ 4 := by
  unfold lenb
  split
  · exact (by decide : 1 ≤ 4)
  · split
    · exact (by decide : 2 ≤ 4)
    · split
      · exact (by decide : 3 ≤ 4)
      · exact (by decide : 4 ≤ 4)
mutual
theorem siz_le : ∀ o : Oct, siz o ≤ tot o + 5 * cnt o
  | .mk t b l => by
    have h1 := sizs_le l
    have h2 := lenb_le (b.length + sizs l)
    rw [siz, tot, cnt]
    omega
theorem sizs_le : ∀ l : List Oct, sizs l ≤ tots l + 5 * cnts l
  | [] => by rw [sizs]; exact Nat.zero_le _
  | v :: r => by
    have h1 := siz_le v
    have h2 := sizs_le r
    rw [sizs, tots, cnts]
    omega
end
theorem sizs_snoc : ∀ (l : List Oct) (o : Oct), sizs (l ++ [o]) = sizs l + siz o
  | [], o => by rw [List.nil_append, sizs, sizs, sizs]; omega
  | x :: r, o => by rw [List.cons_append, sizs, sizs_snoc r o, sizs]; omega
theorem tots_take : ∀ (l : List Oct) (k : Nat), tots (l.take k) ≤ tots l
  | [], k => by rw [List.take_nil]; exact Nat.le_refl _
  | v :: r, 0 => by rw [List.take_zero, tots]; exact Nat.zero_le _
  | v :: r, k + 1 => by rw [List.take_succ_cons, tots, tots]; have := tots_take r k; omega
end Go.Proofs.Ythagoafcphaadaa
