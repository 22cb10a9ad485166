/-
  THE WALK over SpanExact; it is true at every input.
-/
import Derived.Test.YtjngfieggacpiaaGreatDoorExactMath
namespace Go.Proofs.YtjngfieggacpiaaGreatDoor
open Go.RowKit Adr Spn
set_option linter.unusedVariables false
set_option linter.unusedSimpArgs false
variable {fl : Bool}
theorem schk_fam {f : Int} {A M : Nat} (hM : M < 2 ^ 128) (h : schk f A M = 0) : ∃ W : Nat, Fam f W ∧ A ≤ M ∧ M < 2 ^ W := by
  unfold schk at h
  split at h
  · split at h
    · rename_i h1 h2
      simp only [Bool.and_eq_true, decide_eq_true_eq] at h2
      obtain ⟨⟨h3, h4⟩, h5⟩ := h2
      unfold isA at h4
      by_cases h4' : f = 4
      · rw [if_pos h4'] at h4
        exact ⟨32, Or.inl ⟨h4', rfl⟩, h5, by simpa using h4⟩
      · rw [if_neg h4'] at h4
        exact ⟨128, Or.inr ⟨by simpa using h4, rfl⟩, h5, hM⟩
    · omega
  · omega
end Go.Proofs.YtjngfieggacpiaaGreatDoor
