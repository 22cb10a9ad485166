/-
  THE WALK over number.Compare.
-/
import Derived.Test.YtlikgfmcialepaaGreatDoorNumWalk
namespace Go.Proofs.YtlikgfmcialepaaGreatDoor
open Go.RowKit Adr
set_option maxHeartbeats 400000 in
theorem cmp_any (h l h' l' : Int) (w : World) :
    Calls Tryz.prog 68 #[.agg #[.int .u64 h, .int .u64 l], .agg #[.int .u64 h', .int .u64 l']] w fun e w' => e = .returned (.int .i64 (cmp h l h' l')) ∧ Below w.heap.size w w' := by
  by_cases c1 : h = h'
  · subst c1
    by_cases c2 : l = l'
    · subst c2
      go_enter Tryz.func68, Tryz.ntmps68
      go_wp2
      go_ret
      exact ⟨by simp [cmp], ((Below.refl _ _).alloc (Nat.le_refl _) _).alloc (by simp) _⟩
    · by_cases c3 : l < l'
      all_goals
        go_enter Tryz.func68, Tryz.ntmps68
        go_wp2
        go_ret
        exact ⟨by simp [cmp, c2, c3], ((Below.refl _ _).alloc (Nat.le_refl _) _).alloc (by simp) _⟩
  · by_cases c3 : h < h'
    all_goals
      go_enter Tryz.func68, Tryz.ntmps68
      go_wp2
      go_ret
      exact ⟨by simp [cmp, c1, c3], ((Below.refl _ _).alloc (Nat.le_refl _) _).alloc (by simp) _⟩
end Go.Proofs.YtlikgfmcialepaaGreatDoor
