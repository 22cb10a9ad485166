import Derived.Test.YthfgdgcdicacpaaDigAll
import Derived.Maps.AppendAt
import Derived.Laws.AppendOwnNone
namespace Go.Proofs.Ythfgdgcdicacpaa
open Go.RowKit Sha
set_option linter.unusedVariables false
theorem append_src {w : World} {ops : Array Oper} {rest : List Oper} {o : Oper} {a : Act} {Q : Exit → Act → World → Prop} (hgd : o.guard = none) (s x : Operand)
  (ho : o.op = .call { callee := .builtin .append, args := #[s, x], argTypes := #[26, 26] }) (base : Nat) (v : Value) (n : Nat) (xs : List Value) (hs : a.eval s = v) (hown : w.ownsRow base 5 1 v n xs)
  (A : Option Addr) (L : List UInt8) (c m : Nat) (hm : L.length = m) (hx : a.eval x = .slice A m c) (hA : A = none → c = 0) (hsrc : SrcAt A L w) (h63 : n + m ≤ 1000000000) (hbase : base ≤ w.heap.size)
  (h : ∀ v' w', w'.ownsRow base 5 1 v' (n + m) (xs ++ bvals L) → w.grownBy w' v.ownBlock → wpList Try.prog ops Q rest (a.put o.dst v') w') : wpList Try.prog ops Q (o :: rest) a w := by
 obtain ⟨i0, hi, hz0, hz1, hz2⟩ := info_parts Try.info_byte
 subst hm
 cases A with
 | none =>
  have hL : L = [] := by
   by_cases e : L = []
   ·
    exact e
   ·
    obtain ⟨g, o, e2, _⟩ := hsrc e
    cases e2
  subst hL
  obtain rfl := hA rfl
  exact wpList_append_own_none hgd s x 26 ho base 5 i0 1 Try.underlying26 hi v n xs hs hown hx (h v w (by simpa [bvals] using hown) (World.grownBy.refl _ _))
 | some ad =>
  refine wpList_append_own _ hgd s x 26 ho base 5 i0 (.int .u8 0) 1 1 Try.underlying26 hi hz0 hz1 hz2 rfl (by decide) v n xs hs hown ad L.length c (bvals L) hx (by rw [bvals_len, Nat.mul_one]) ?_ ?_ (by unfold maxLen; omega) (by omega) hbase (fun v' w' h1 h2 _ => h v' w' h1 h2)
  ·
   intro j u hj
   unfold bvals at hj
   rw [List.getElem?_map] at hj
   obtain ⟨y, hy, rfl⟩ := Option.map_eq_some_iff.1 hj
   obtain ⟨g, o, e, hc⟩ := hsrc (by intro e; rw [e] at hy; simp at hy)
   obtain rfl := Option.some.inj e
   rw [add_eq]
   exact hc j y hy
  ·
   intro v hv
   unfold bvals at hv
   obtain ⟨x, _, rfl⟩ := List.mem_map.1 hv
   rfl
theorem own_rd2 {w : World} {base : Nat} {v : Value} {l : List UInt8} (h : w.ownsRow base 5 1 v l.length (bvals l)) :
  ∃ A c, v = .slice A l.length c ∧ l.length ≤ c ∧ c ≤ maxLen ∧ (A = none → c = 0) ∧ SrcAt A l w := by
 obtain ⟨hl', h | ⟨g, cap, cur, hv, hb, hg, hnc, hcm, hcs, ht⟩⟩ := h
 ·
  obtain ⟨rfl, h2⟩ := h
  have hl : l = [] := List.length_eq_zero_iff.1 h2
  subst hl
  exact ⟨none, 0, rfl, Nat.le_refl _, Nat.zero_le _, fun _ => rfl, fun e => absurd rfl e⟩
 ·
  refine ⟨some ⟨g, 0, none⟩, cap, hv, hnc, hcm, fun e => (by cases e), fun _ => ⟨g, 0, rfl, fun j x hj => ?_⟩⟩
  rw [Nat.zero_add, cell_of_row w g j cur _ _ hg, ← Array.getElem?_toList]
  have h2 : (cur.toList.take (l.length * 1))[j]? = some (.int .u8 (x.toNat : Int)) := by
   rw [ht]
   unfold bvals
   rw [List.getElem?_map, hj]
   rfl
  rw [List.getElem?_take] at h2
  split at h2
  ·
   exact h2
  ·
   cases h2
theorem own_ge {w : World} {b n k : Nat} {v : Value} {xs : List Value} (h : w.ownsRow b 5 1 v n xs) (hk : v.ownBlock = some k) : b ≤ k ∧ k < w.heap.size := by
 obtain ⟨h1, ⟨rfl, _⟩ | ⟨g, cap, cur, rfl, h3, h4, _⟩⟩ := h
 ·
  cases hk
 ·
  obtain rfl : g = k := by simpa [Value.ownBlock] using hk
  exact ⟨h3, (Array.getElem?_eq_some_iff.1 h4).1⟩
theorem row_on {V U : World} {g : Nat} {cs : Array Value} {T : TypeId} {fr : Nat × Nat} (h : V.heap[g]? = some (.cells cs T fr)) (hb : Below V.heap.size V U) : U.heap[g]? = some (.cells cs T fr) :=
 (hb.block _ (Array.getElem?_eq_some_iff.1 h).1).trans h
theorem take_snoc8 (l : List UInt8) (k : Nat) (h : k < l.length) : l.take (k + 1) = l.take k ++ [l.getD k 0] := by
 rw [List.take_add_one, List.getElem?_eq_getElem h, List.getD_eq_getElem?_getD, List.getElem?_eq_getElem h]
 rfl
theorem facts3 {w : World} {g : Nat} {x y z : Value} {T : TypeId} (h : w.heap[g]? = some (.cells #[x, y, z] T (0, 0))) : (w.frozen? ⟨g, 0, none⟩ = false ∧ w.frozen? ⟨g, 1, none⟩ = false ∧ w.frozen? ⟨g, 2, none⟩ = false) ∧ w.cell? ⟨g, 0, none⟩ = some x ∧ w.cell? ⟨g, 1, none⟩ = some y ∧ w.cell? ⟨g, 2, none⟩ = some z :=
 ⟨⟨frozen_of_row _ _ _ _ _ h, frozen_of_row _ _ _ _ _ h, frozen_of_row _ _ _ _ _ h⟩, cell_of_row _ _ _ _ _ _ h, cell_of_row _ _ _ _ _ _ h, cell_of_row _ _ _ _ _ _ h⟩
end Go.Proofs.Ythfgdgcdicacpaa
