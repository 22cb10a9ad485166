import Derived.Test.YtcgffkkfeimifaaGreatDoorOneH
namespace Go.Proofs.YtcgffkkfeimifaaGreatDoor
open Go.RowKit Sha Ots
set_option linter.unusedVariables false
set_option linter.unusedSimpArgs false
end Go.Proofs.YtcgffkkfeimifaaGreatDoor
namespace Go.Proofs.YtcgffkkfeimifaaGreatDoor
open Go.RowKit Sha Ots
set_option linter.unusedVariables false
set_option linter.unusedSimpArgs false
end Go.Proofs.YtcgffkkfeimifaaGreatDoor
namespace Go.Proofs.YtcgffkkfeimifaaGreatDoor
open Go.RowKit Sha Ots
set_option linter.unusedVariables false
set_option linter.unusedSimpArgs false
end Go.Proofs.YtcgffkkfeimifaaGreatDoor
namespace Go.Proofs.YtcgffkkfeimifaaGreatDoor
open Go.RowKit Sha Ots
set_option linter.unusedVariables false
set_option linter.unusedSimpArgs false
theorem fold_set : ∀ (l : List Value) (k : Nat) (A : Array Value), k + l.length ≤ A.size → ∀ j, ((l.zipIdx k).foldl (fun cs x => cs.setIfInBounds x.snd x.fst) A)[j]? = if k ≤ j ∧ j < k + l.length then l[j - k]? else A[j]?
 | [], k, A, _, j => by
  rw [if_neg (by simp <;> omega)]
  rfl
 | v :: r, k, A, h, j => by
  rw [List.length_cons] at h
  rw [List.zipIdx_cons, List.foldl_cons, fold_set r (k + 1) (A.setIfInBounds k v) (by simp; omega) j, List.length_cons]
  by_cases e : j = k
  ·
   subst e
   rw [if_neg (by omega), if_pos (by omega), Nat.sub_self, Array.getElem?_setIfInBounds]
   rw [if_pos rfl, if_pos (by omega)]
   rfl
  ·
   by_cases h1 : k + 1 ≤ j ∧ j < k + 1 + r.length
   ·
    rw [if_pos h1, if_pos (by omega), show j - k = (j - (k + 1)) + 1 by omega, List.getElem?_cons_succ]
   ·
    rw [if_neg h1, if_neg (by omega), Array.getElem?_setIfInBounds, if_neg (by omega)]
theorem fill_row (cs Z : Array Value) (h : Z.size = cs.size) : Array.foldl (fun cs x => cs.setIfInBounds x.snd x.fst) Z cs.zipIdx 0 cs.size = cs := by
 have e1 : Array.foldl (fun (cs : Array Value) (x : Value × Nat) => cs.setIfInBounds x.snd x.fst) Z cs.zipIdx 0 cs.size = (cs.toList.zipIdx 0).foldl (fun cs x => cs.setIfInBounds x.snd x.fst) Z := by
  have hz : cs.size = cs.zipIdx.size := by simp
  rw [hz, ← Array.foldl_toList, Array.toList_zipIdx]
 rw [e1]
 apply Array.ext_getElem?
 intro j
 rw [fold_set _ _ _ (by simp [h]) j]
 by_cases hj : j < cs.size
 ·
  rw [if_pos (by simp [hj])]
  simp
 ·
  rw [if_neg (by simp; omega), Array.getElem?_eq_none (by omega), Array.getElem?_eq_none (by omega)]
theorem flat_at : ∀ (ls : List (List UInt8)), (∀ l ∈ ls, l.length = 16) → ∀ i l, ls[i]? = some l → ∀ j x, l[j]? = some x → ls.flatten[16 * i + j]? = some x
 | [], _, i, l, h, _, _, _ => by simp at h
 | a :: r, hl, 0, l, h, j, x, hj => by
  obtain rfl : a = l := by simpa using h
  rw [List.flatten_cons, List.getElem?_append_left (by have := (List.getElem?_eq_some_iff.1 hj).1; omega), Nat.mul_zero, Nat.zero_add]
  exact hj
 | a :: r, hl, i + 1, l, h, j, x, hj => by
  have ha := hl a (List.mem_cons_self ..)
  rw [List.flatten_cons, List.getElem?_append_right (by omega), ha, show 16 * (i + 1) + j - 16 = 16 * i + j by omega]
  exact flat_at r (fun l hl' => hl l (List.mem_cons_of_mem _ hl')) i l (by simpa using h) j x hj
theorem shorts_own {w : World} {b : Nat} {v : Value} {ls : List (List UInt8)} (hl : ∀ l ∈ ls, l.length = 16) (h : w.ownsRow b 41 16 v ls.length (bvals ls.flatten)) : ∃ A c, v = .slice A ls.length c ∧ ls.length ≤ c ∧ (A = none → c = 0) ∧ Shorts A ls w := by
 obtain ⟨h1, ⟨rfl, h2⟩ | ⟨g, cap, cur, rfl, h3, h4, h5, h6, h7, h8⟩⟩ := h
 ·
  have : ls = [] := List.length_eq_zero_iff.1 h2
  subst this
  exact ⟨none, 0, rfl, Nat.le_refl _, fun _ => rfl, fun i l hi => by simp at hi, fun l hl => by simp at hl⟩
 ·
  refine ⟨some ⟨g, 0, none⟩, cap, rfl, h5, (fun e => by cases e), fun i l hi => ⟨g, 0, rfl, fun j u hj => ?_⟩, hl⟩
  unfold bvals at hj
  rw [List.getElem?_map] at hj
  obtain ⟨x, hx, rfl⟩ := Option.map_eq_some_iff.1 hj
  have hf := flat_at ls hl i l hi j x hx
  rw [cell_of_row w g _ cur _ _ h4, Nat.zero_add, ← Array.getElem?_toList]
  have h9 : (cur.toList.take (ls.length * 16))[16 * i + j]? = some (.int .u8 (x.toNat : Int)) := by
   rw [h8]
   unfold bvals
   rw [List.getElem?_map, hf]
   rfl
  rw [List.getElem?_take] at h9
  split at h9
  ·
   exact h9
  ·
   cases h9
end Go.Proofs.YtcgffkkfeimifaaGreatDoor
