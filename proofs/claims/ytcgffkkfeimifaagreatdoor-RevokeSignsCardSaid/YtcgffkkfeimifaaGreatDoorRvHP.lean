import Derived.Test.YtcgffkkfeimifaaGreatDoorRvFK
import Derived.Lib.MinMax
import Derived.Lib.ConvBytes
import Derived.Laws.Cover3
import Derived.Deep.RegionHeld3
import Derived.Laws.EntriesVeiled
namespace Go.Proofs.YtcgffkkfeimifaaGreatDoor
namespace Sg
open Go.RowKit Sha Oc
set_option linter.unusedVariables false
set_option linter.unusedSimpArgs false
attribute [local go_sem] Oper.semAt_some
end Sg
end Go.Proofs.YtcgffkkfeimifaaGreatDoor
namespace Go.Proofs.YtcgffkkfeimifaaGreatDoor
namespace Sg
open Go.RowKit Sha Oc
set_option linter.unusedVariables false
set_option linter.unusedSimpArgs false
attribute [local go_sem] Oper.semAt_some
theorem fold_set : ∀ (l : List Value) (k : Nat) (A : Array Value), k + l.length ≤ A.size → ∀ j, ((l.zipIdx k).foldl (fun cs x => cs.setIfInBounds x.snd x.fst) A)[j]? = if k ≤ j ∧ j < k + l.length then l[j - k]? else A[j]?
 | [], k, A, _, j => by
  rw [if_neg (by simp <;> omega)]
  rfl
 | v :: r, k, A, h, j => by
  rw [List.length_cons] at h
  rw [List.zipIdx_cons, List.foldl_cons, fold_set r (k + 1) (A.setIfInBounds k v) (by simp; omega) j, List.length_cons]
  by_cases e : j = k
  ·
   subst e
   rw [if_neg (by omega), if_pos (by omega), Nat.sub_self, Array.getElem?_setIfInBounds]
   rw [if_pos rfl, if_pos (by omega)]
   rfl
  ·
   by_cases h1 : k + 1 ≤ j ∧ j < k + 1 + r.length
   ·
    rw [if_pos h1, if_pos (by omega), show j - k = (j - (k + 1)) + 1 by omega, List.getElem?_cons_succ]
   ·
    rw [if_neg h1, if_neg (by omega), Array.getElem?_setIfInBounds, if_neg (by omega)]
theorem fill_row (cs Z : Array Value) (h : Z.size = cs.size) : Array.foldl (fun cs x => cs.setIfInBounds x.snd x.fst) Z cs.zipIdx 0 cs.size = cs := by
 have e1 : Array.foldl (fun (cs : Array Value) (x : Value × Nat) => cs.setIfInBounds x.snd x.fst) Z cs.zipIdx 0 cs.size = (cs.toList.zipIdx 0).foldl (fun cs x => cs.setIfInBounds x.snd x.fst) Z := by
  have hz : cs.size = cs.zipIdx.size := by simp
  rw [hz, ← Array.foldl_toList, Array.toList_zipIdx]
 rw [e1]
 apply Array.ext_getElem?
 intro j
 rw [fold_set _ _ _ (by simp [h]) j]
 by_cases hj : j < cs.size
 ·
  rw [if_pos (by simp [hj])]
  simp
 ·
  rw [if_neg (by simp; omega), Array.getElem?_eq_none (by omega), Array.getElem?_eq_none (by omega)]
end Sg
end Go.Proofs.YtcgffkkfeimifaaGreatDoor
namespace Go.Proofs.YtcgffkkfeimifaaGreatDoor
namespace Sg
open Go.RowKit Sha Oc
set_option linter.unusedVariables false
set_option linter.unusedSimpArgs false
end Sg
end Go.Proofs.YtcgffkkfeimifaaGreatDoor
namespace Go.Proofs.YtcgffkkfeimifaaGreatDoor
namespace Sg
open Go.RowKit Sha Oc
set_option linter.unusedVariables false
set_option linter.unusedSimpArgs false
end Sg
end Go.Proofs.YtcgffkkfeimifaaGreatDoor
namespace Go.Proofs.YtcgffkkfeimifaaGreatDoor
namespace Sg
open Go.RowKit Sha Oc
set_option linter.unusedVariables false
set_option linter.unusedSimpArgs false
end Sg
end Go.Proofs.YtcgffkkfeimifaaGreatDoor
namespace Go.Proofs.YtcgffkkfeimifaaGreatDoor
namespace Sg
open Go.RowKit Sha Oc
set_option linter.unusedVariables false
set_option linter.unusedSimpArgs false
abbrev rl0 : Rl := ⟨⟨#[]⟩, 0, 0, 0, [], ⟨0, [], []⟩⟩
abbrev mp0 : Mp := ⟨none, 0, none, 0, none, 0⟩
structure Frs (lo : Nat) (m : Mp) : Prop where
 SA : ∀ g o, m.SA = some ⟨g, o, none⟩ → lo ≤ g
 CA : ∀ g o, m.CA = some ⟨g, o, none⟩ → lo ≤ g
 PA : ∀ g o, m.PA = some ⟨g, o, none⟩ → lo ≤ g
theorem RlAt.other {l : Rl} {m : Mp} {lo k : Nat} {V W : World} (h : RlAt l m V) (hf : Frs lo m) (hk : k < lo) (ho : ∀ b, b ≠ k → W.heap[b]? = V.heap[b]?) : RlAt l m W := by
 refine ⟨⟨fun i x hi => ?_⟩, ⟨fun i x hi => ?_, h.cs.len⟩, ⟨fun i x hi => ?_, h.ps.len⟩, h.ls, h.lc, h.lp⟩
 ·
  obtain ⟨g, o, e, hc⟩ := h.ser.row i x hi
  exact ⟨g, o, e, cell_same (ho g (by have := hf.SA g o e; omega)) hc⟩
 ·
  obtain ⟨g, o, e, hc⟩ := h.cs.row i x hi
  exact ⟨g, o, e, fun j v hv => cell_same (ho g (by have := hf.CA g o e; omega)) (hc j v hv)⟩
 ·
  obtain ⟨g, o, e, hc⟩ := h.ps.row i x hi
  exact ⟨g, o, e, fun j v hv => cell_same (ho g (by have := hf.PA g o e; omega)) (hc j v hv)⟩
end Sg
end Go.Proofs.YtcgffkkfeimifaaGreatDoor
namespace Go.Proofs.YtcgffkkfeimifaaGreatDoor
namespace Sg
open Go.RowKit Sha Oc
set_option linter.unusedVariables false
set_option linter.unusedSimpArgs false
end Sg
end Go.Proofs.YtcgffkkfeimifaaGreatDoor
