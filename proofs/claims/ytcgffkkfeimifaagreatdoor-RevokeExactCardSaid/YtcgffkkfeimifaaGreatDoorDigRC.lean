import Derived.Test.YtcgffkkfeimifaaGreatDoorDigRB
namespace Go.Proofs.YtcgffkkfeimifaaGreatDoor
open Go.RowKit Sha
set_option linter.unusedVariables false
set_option linter.unusedSimpArgs false
theorem own_rd7 {w : World} {base : Nat} {v : Value} {l : List UInt8} (h : w.ownsRow base 5 1 v l.length (bvals l)) :
  ∃ A c, v = .slice A l.length c ∧ l.length ≤ c ∧ c ≤ maxLen ∧ (A = none → c = 0) ∧ SrcAt A l w := by
 obtain ⟨hl', h | ⟨g, cap, cur, hv, hb, hg, hnc, hcm, hcs, ht⟩⟩ := h
 ·
  obtain ⟨rfl, h2⟩ := h
  have hl : l = [] := List.length_eq_zero_iff.1 h2
  subst hl
  exact ⟨none, 0, rfl, Nat.le_refl _, Nat.zero_le _, fun _ => rfl, fun e => absurd rfl e⟩
 ·
  refine ⟨some ⟨g, 0, none⟩, cap, hv, hnc, hcm, fun e => (by cases e), fun _ => ⟨g, 0, rfl, fun j x hj => ?_⟩⟩
  rw [Nat.zero_add, cell_of_row w g j cur _ _ hg, ← Array.getElem?_toList]
  have h2 : (cur.toList.take (l.length * 1))[j]? = some (.int .u8 (x.toNat : Int)) := by
   rw [ht]
   unfold bvals
   rw [List.getElem?_map, hj]
   rfl
  rw [List.getElem?_take] at h2
  split at h2
  ·
   exact h2
  ·
   cases h2
end Go.Proofs.YtcgffkkfeimifaaGreatDoor
