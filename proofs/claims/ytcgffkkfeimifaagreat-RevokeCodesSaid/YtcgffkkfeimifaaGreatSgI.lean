import Derived.Test.YtcgffkkfeimifaaGreatSgD
namespace Go.Proofs.YtcgffkkfeimifaaGreat
namespace Sg
open Go.RowKit Sha
set_option linter.unusedVariables false
set_option linter.unusedSimpArgs false
theorem srB_pair : ∀ (xs : List Int) (a : Int), srB a xs = true → (∀ x ∈ xs, a < x) ∧ xs.Pairwise (· < ·)
 | [], _, _ => ⟨fun x hx => by simp at hx, List.Pairwise.nil⟩
 | x :: r, a, h => by
  rw [srB, Bool.and_eq_true, decide_eq_true_eq] at h
  obtain ⟨h1, h2⟩ := srB_pair r x h.2
  refine ⟨fun y hy => ?_, List.Pairwise.cons h1 h2⟩
  rcases List.mem_cons.1 hy with e | e
  ·
   omega
  ·
   have := h1 y e
   omega
def rvC (l : Rl) : Int := rcV l.iss l.fr l.tt l.ser l.sg.idx l.sg.cs.length l.sg.ps.length
theorem rv_sr {l : Rl} (h : rvC l = 0) : srB 0 l.ser = true := by
 unfold rvC rcV at h
 split at h
 ·
  omega
 ·
  split at h
  ·
   rename_i h2
   exact h2.2.2.1
  ·
   omega
end Sg
end Go.Proofs.YtcgffkkfeimifaaGreat
