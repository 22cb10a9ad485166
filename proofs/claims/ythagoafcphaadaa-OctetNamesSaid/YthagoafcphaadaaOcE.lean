/-
  THE WALKS over layer 8's reference: weigh, Great.
-/
import Derived.Test.YthagoafcphaadaaOcD
namespace Go.Proofs.Ythagoafcphaadaa
open Go.RowKit Sha Oc
set_option linter.unusedVariables false
set_option linter.unusedSimpArgs false
theorem cnt_pos (o : Oct) : 1 ≤ cnt o := by
  cases o
  rw [cnt]
  omega
theorem cnts_snoc : ∀ (l : List Oct) (o : Oct), cnts (l ++ [o]) = cnts l + cnt o
  | [], o => by rw [List.nil_append, cnts, cnts, cnts]; omega
  | x :: r, o => by rw [List.cons_append, cnts, cnts_snoc r o, cnts]; omega
theorem tots_snoc : ∀ (l : List Oct) (o : Oct), tots (l ++ [o]) = tots l + tot o
  | [], o => by rw [List.nil_append, tots, tots, tots]; omega
  | x :: r, o => by rw [List.cons_append, tots, tots_snoc r o, tots]; omega
theorem deps_snoc : ∀ (l : List Oct) (o : Oct), deps (l ++ [o]) = max (deps l) (dep o)
  | [], o => by show max (dep o) 0 = max 0 (dep o); omega
  | x :: r, o => by rw [List.cons_append, deps, deps_snoc r o, deps]; omega
theorem tots_bound : ∀ (l : List Oct), (∀ o ∈ l, tot o ≤ cnt o * 140737488355328) → tots l ≤ cnts l * 140737488355328
  | [], _ => by rw [tots, cnts]; omega
  | x :: r, h => by
    have h1 := h x (List.mem_cons_self ..)
    have h2 := tots_bound r (fun o ho => h o (List.mem_cons_of_mem _ ho))
    rw [tots, cnts]
    omega
theorem Oc.At.bound {R : Nat → Prop} {w : World} {o : Oct} {x y : Value} (h : At R w o x y) : tot o ≤ cnt o * 140737488355328 := by
  induction h with
  | mk t b l A c B d g off vb vl hc hbm hcn hs hA hd hlm hdn hB h0 h1 h2 hr ih =>
    have h3 := tots_bound l (fun o ho => by
      obtain ⟨k, hk⟩ := List.mem_iff_getElem?.1 ho
      exact ih k o hk)
    rw [tot, cnt]
    omega
def WgPost (o : Oct) (deep : Int) (w : World) (e : Ending) (w' : World) : Prop := ∃ (n b : Int) (ok : Bool), e = .returned (.tuple #[.int .i64 n, .int .i64 b, .bool ok]) ∧ (ok = true → n = (cnt o : Int) ∧ (cnt o : Int) ≤ 10001 * deep ∧ (dep o : Int) ≤ deep ∧ (cnt o ≤ 4200 → b = (tot o : Int))) ∧ Below w.heap.size w w'
def GtPost (o : Oct) (w : World) (e : Ending) (w' : World) : Prop := ∃ g : Bool, e = .returned (.bool g) ∧ (g = false → cnt o ≤ 4200 ∧ dep o ≤ 30 ∧ tot o ≤ 80000) ∧ Below w.heap.size w w'
end Go.Proofs.Ythagoafcphaadaa
