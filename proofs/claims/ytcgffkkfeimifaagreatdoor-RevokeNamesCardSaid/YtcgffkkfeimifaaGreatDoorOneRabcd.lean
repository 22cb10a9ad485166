import Derived.Test.YtcgffkkfeimifaaGreatDoorOneH
namespace Go.Proofs.YtcgffkkfeimifaaGreatDoor
open Go.RowKit Sha Ots
set_option linter.unusedVariables false
set_option linter.unusedSimpArgs false
end Go.Proofs.YtcgffkkfeimifaaGreatDoor
namespace Go.Proofs.YtcgffkkfeimifaaGreatDoor
open Go.RowKit Sha Ots
set_option linter.unusedVariables false
set_option linter.unusedSimpArgs false
end Go.Proofs.YtcgffkkfeimifaaGreatDoor
namespace Go.Proofs.YtcgffkkfeimifaaGreatDoor
open Go.RowKit Sha Ots
set_option linter.unusedVariables false
set_option linter.unusedSimpArgs false
end Go.Proofs.YtcgffkkfeimifaaGreatDoor
namespace Go.Proofs.YtcgffkkfeimifaaGreatDoor
open Go.RowKit Sha Ots
set_option linter.unusedVariables false
set_option linter.unusedSimpArgs false
theorem append_shorts {w : World} {ops : Array Oper} {rest : List Oper} {o : Oper} {a : Act} {Q : Exit → Act → World → Prop} (hgd : o.guard = none) (s x : Operand)
  (ho : o.op = .call { callee := .builtin .append, args := #[s, x], argTypes := #[28, 28] }) (base : Nat) (v : Value) (n : Nat) (xs : List Value) (hs : a.eval s = v) (hown : w.ownsRow base 41 16 v n xs)
  (ad : Addr) (m c : Nat) (L : List UInt8) (hx : a.eval x = .slice (some ad) m c) (hm : L.length = m * 16) (hc : ∀ j u, (bvals L)[j]? = some u → w.cell? (ad.add j) = some u) (h63 : n + m ≤ 1000000) (hbase : base ≤ w.heap.size)
  (h : ∀ v' w', w'.ownsRow base 41 16 v' (n + m) (xs ++ bvals L) → w.grownBy w' v.ownBlock → wpList Tryz.prog ops Q rest (a.put o.dst v') w') : wpList Tryz.prog ops Q (o :: rest) a w := by
 obtain ⟨i0, hi, hz0, hz1, hz2⟩ := info_parts Tryz.info_short
 exact wpList_append_own _ hgd s x 28 ho base 41 i0 (.agg (bcells (List.replicate 16 0))) 16 16 Tryz.underlying28 hi hz0 hz1 hz2 rfl (by decide) v n xs hs hown ad m c (bvals L) hx (by rw [bvals_len, hm]) hc (fun u hu => by
  unfold bvals at hu
  obtain ⟨x, _, rfl⟩ := List.mem_map.1 hu
  rfl) (by unfold maxLen; omega) (by omega) hbase (fun v' w' h1 h2 _ => h v' w' h1 h2)
theorem fold_set : ∀ (l : List Value) (k : Nat) (A : Array Value), k + l.length ≤ A.size → ∀ j, ((l.zipIdx k).foldl (fun cs x => cs.setIfInBounds x.snd x.fst) A)[j]? = if k ≤ j ∧ j < k + l.length then l[j - k]? else A[j]?
 | [], k, A, _, j => by
  rw [if_neg (by simp <;> omega)]
  rfl
 | v :: r, k, A, h, j => by
  rw [List.length_cons] at h
  rw [List.zipIdx_cons, List.foldl_cons, fold_set r (k + 1) (A.setIfInBounds k v) (by simp; omega) j, List.length_cons]
  by_cases e : j = k
  ·
   subst e
   rw [if_neg (by omega), if_pos (by omega), Nat.sub_self, Array.getElem?_setIfInBounds]
   rw [if_pos rfl, if_pos (by omega)]
   rfl
  ·
   by_cases h1 : k + 1 ≤ j ∧ j < k + 1 + r.length
   ·
    rw [if_pos h1, if_pos (by omega), show j - k = (j - (k + 1)) + 1 by omega, List.getElem?_cons_succ]
   ·
    rw [if_neg h1, if_neg (by omega), Array.getElem?_setIfInBounds, if_neg (by omega)]
theorem fill_row (cs Z : Array Value) (h : Z.size = cs.size) : Array.foldl (fun cs x => cs.setIfInBounds x.snd x.fst) Z cs.zipIdx 0 cs.size = cs := by
 have e1 : Array.foldl (fun (cs : Array Value) (x : Value × Nat) => cs.setIfInBounds x.snd x.fst) Z cs.zipIdx 0 cs.size = (cs.toList.zipIdx 0).foldl (fun cs x => cs.setIfInBounds x.snd x.fst) Z := by
  have hz : cs.size = cs.zipIdx.size := by simp
  rw [hz, ← Array.foldl_toList, Array.toList_zipIdx]
 rw [e1]
 apply Array.ext_getElem?
 intro j
 rw [fold_set _ _ _ (by simp [h]) j]
 by_cases hj : j < cs.size
 ·
  rw [if_pos (by simp [hj])]
  simp
 ·
  rw [if_neg (by simp; omega), Array.getElem?_eq_none (by omega), Array.getElem?_eq_none (by omega)]
theorem row_bvals {w : World} {g : Nat} {L : List UInt8} {t : TypeId} {fr : Nat × Nat} (h : w.heap[g]? = some (.cells (bcells L) t fr)) : ∀ j u, (bvals L)[j]? = some u → w.cell? ((⟨g, 0, none⟩ : Addr).add j) = some u := fun j u hj => by
 rw [add_eq, Nat.zero_add, cell_of_row _ _ _ _ _ _ h]
 unfold bcells
 unfold bvals at hj
 simpa using hj
theorem own_geS {w : World} {b n k : Nat} {v : Value} {xs : List Value} (h : w.ownsRow b 41 16 v n xs) (hk : v.ownBlock = some k) : b ≤ k ∧ k < w.heap.size := by
 obtain ⟨h1, ⟨rfl, _⟩ | ⟨g, cap, cur, rfl, h3, h4, _⟩⟩ := h
 ·
  cases hk
 ·
  obtain rfl : g = k := by simpa [Value.ownBlock] using hk
  exact ⟨h3, (Array.getElem?_eq_some_iff.1 h4).1⟩
theorem own_onS {w V : World} {b n : Nat} {v : Value} {xs : List Value} (h : w.ownsRow b 41 16 v n xs) (hb : Below w.heap.size w V) : V.ownsRow b 41 16 v n xs := by
 obtain ⟨h1, h2 | ⟨g, cap, cur, h3, h4, h5, h6⟩⟩ := h
 ·
  exact ⟨h1, .inl h2⟩
 ·
  exact ⟨h1, .inr ⟨g, cap, cur, h3, h4, (hb.block g (Array.getElem?_eq_some_iff.1 h5).1).trans h5, h6⟩⟩
theorem flat_at : ∀ (ls : List (List UInt8)), (∀ l ∈ ls, l.length = 16) → ∀ i l, ls[i]? = some l → ∀ j x, l[j]? = some x → ls.flatten[16 * i + j]? = some x
 | [], _, i, l, h, _, _, _ => by simp at h
 | a :: r, hl, 0, l, h, j, x, hj => by
  obtain rfl : a = l := by simpa using h
  rw [List.flatten_cons, List.getElem?_append_left (by have := (List.getElem?_eq_some_iff.1 hj).1; omega), Nat.mul_zero, Nat.zero_add]
  exact hj
 | a :: r, hl, i + 1, l, h, j, x, hj => by
  have ha := hl a (List.mem_cons_self ..)
  rw [List.flatten_cons, List.getElem?_append_right (by omega), ha, show 16 * (i + 1) + j - 16 = 16 * i + j by omega]
  exact flat_at r (fun l hl' => hl l (List.mem_cons_of_mem _ hl')) i l (by simpa using h) j x hj
theorem shorts_own {w : World} {b : Nat} {v : Value} {ls : List (List UInt8)} (hl : ∀ l ∈ ls, l.length = 16) (h : w.ownsRow b 41 16 v ls.length (bvals ls.flatten)) : ∃ A c, v = .slice A ls.length c ∧ ls.length ≤ c ∧ (A = none → c = 0) ∧ Shorts A ls w := by
 obtain ⟨h1, ⟨rfl, h2⟩ | ⟨g, cap, cur, rfl, h3, h4, h5, h6, h7, h8⟩⟩ := h
 ·
  have : ls = [] := List.length_eq_zero_iff.1 h2
  subst this
  exact ⟨none, 0, rfl, Nat.le_refl _, fun _ => rfl, fun i l hi => by simp at hi, fun l hl => by simp at hl⟩
 ·
  refine ⟨some ⟨g, 0, none⟩, cap, rfl, h5, (fun e => by cases e), fun i l hi => ⟨g, 0, rfl, fun j u hj => ?_⟩, hl⟩
  unfold bvals at hj
  rw [List.getElem?_map] at hj
  obtain ⟨x, hx, rfl⟩ := Option.map_eq_some_iff.1 hj
  have hf := flat_at ls hl i l hi j x hx
  rw [cell_of_row w g _ cur _ _ h4, Nat.zero_add, ← Array.getElem?_toList]
  have h9 : (cur.toList.take (ls.length * 16))[16 * i + j]? = some (.int .u8 (x.toNat : Int)) := by
   rw [h8]
   unfold bvals
   rw [List.getElem?_map, hf]
   rfl
  rw [List.getElem?_take] at h9
  split at h9
  ·
   exact h9
  ·
   cases h9
end Go.Proofs.YtcgffkkfeimifaaGreatDoor
