import Derived.Test.YtcgffkkfeimifaaGreatDoorRvHP
import Derived.Test.YtcgffkkfeimifaaGreatDoorOcRFJ
namespace Go.Proofs.YtcgffkkfeimifaaGreatDoor
namespace Sg
open Go.RowKit Sha Oc
set_option linter.unusedVariables false
set_option linter.unusedSimpArgs false
def RvdPost (a : Rl × Int) (w : World) (e : Ending) (w' : World) : Prop := ∃ m, e = .returned (.tuple #[.agg (rlC a.1 m), .int .i64 a.2]) ∧ RlAt a.1 m w' ∧ Below w.heap.size w w'
theorem rl0_at (w : World) : RlAt rl0 mp0 w := ⟨⟨fun i x hi => by simp at hi⟩, shs_nil rfl _ _, shs_nil rfl _ _, by decide, by decide, by decide⟩
theorem free8 {V : World} {M : Nat} {a b c d e f g h : Value} {T : TypeId} (H : V.heap[M]? = some (.cells #[a, b, c, d, e, f, g, h] T (0, 0))) : V.frozen? ⟨M, 0, none⟩ = false ∧ V.frozen? ⟨M, 1, none⟩ = false ∧ V.frozen? ⟨M, 2, none⟩ = false ∧ V.frozen? ⟨M, 3, none⟩ = false ∧ V.frozen? ⟨M, 4, none⟩ = false ∧ V.frozen? ⟨M, 5, none⟩ = false ∧ V.frozen? ⟨M, 6, none⟩ = false ∧ V.frozen? ⟨M, 7, none⟩ = false :=
 ⟨frozen_of_row _ _ _ _ _ H, frozen_of_row _ _ _ _ _ H, frozen_of_row _ _ _ _ _ H, frozen_of_row _ _ _ _ _ H, frozen_of_row _ _ _ _ _ H, frozen_of_row _ _ _ _ _ H, frozen_of_row _ _ _ _ _ H, frozen_of_row _ _ _ _ _ H⟩
theorem put8 {V W : World} {M n : Nat} {a b c d e f g h a' b' c' d' e' f' g' h' : Value} {T : TypeId} (H : V.heap[M]? = some (.cells #[a, b, c, d, e, f, g, h] T (0, 0))) (hn : n ≤ M) (hW : ((((((((V.setCell ⟨M, 0, none⟩ a').setCell ⟨M, 1, none⟩ b').setCell ⟨M, 2, none⟩ c').setCell ⟨M, 3, none⟩ d').setCell ⟨M, 4, none⟩ e').setCell ⟨M, 5, none⟩ f').setCell ⟨M, 6, none⟩ g').setCell ⟨M, 7, none⟩ h') = W) : W.heap[M]? = some (.cells #[a', b', c', d', e', f', g', h'] T (0, 0)) ∧ Below n V W ∧ ∀ k, k ≠ M → W.heap[k]? = V.heap[k]? := by
 have e : V.setCells M 0 [a', b', c', d', e', f', g', h'] = W := hW
 rw [← e]
 exact ⟨row_setCells (cs := #[a', b', c', d', e', f', g', h']) H rfl, below_setCells _ _ _ (Below.refl _ _) hn, fun k hk => heap_setCells_other _ _ _ hk⟩
end Sg
end Go.Proofs.YtcgffkkfeimifaaGreatDoor
