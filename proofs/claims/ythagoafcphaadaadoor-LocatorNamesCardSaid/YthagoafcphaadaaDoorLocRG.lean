/-
  THE WALK over the reference of layer 9: Twin.
-/
import Derived.Test.YthagoafcphaadaaDoorLocRF
import Derived.Test.YthagoafcphaadaaDoorLocRA
import Derived.Test.YthagoafcphaadaaDoorLocWH
namespace Go.Proofs.YthagoafcphaadaaDoor
open Go.RowKit Lo
set_option linter.unusedVariables false
set_option linter.unusedSimpArgs false
/-- append of strings to an own row -/
theorem append_strs {w : World} {ops : Array Oper} {rest : List Oper} {o : Oper} {a : Act} {Q : Exit → Act → World → Prop} (hgd : o.guard = none) (s x : Operand)
    (ho : o.op = .call { callee := .builtin .append, args := #[s, x], argTypes := #[22, 22] }) (base : Nat) (v : Value) (n : Nat) (xs : List Value) (hs : a.eval s = v) (hown : w.ownsRow base 9 1 v n xs)
    (ad : Addr) (m c : Nat) (news : List Value) (hx : a.eval x = .slice (some ad) m c) (hl : news.length = m * 1) (hnews : ∀ j u, news[j]? = some u → w.cell? (ad.add j) = some u) (h1 : ∀ u ∈ news, u.oneCell' = true) (h63 : n + m ≤ 1000000) (hbase : base ≤ w.heap.size)
    (h : ∀ v' w', w'.ownsRow base 9 1 v' (n + m) (xs ++ news) → w.grownBy w' v.ownBlock → wpList Tryd.prog ops Q rest (a.put o.dst v') w') : wpList Tryd.prog ops Q (o :: rest) a w := by
  obtain ⟨i0, hi, hz0, hz1, hz2⟩ := info_parts Tryd.info_string2
  exact wpList_append_own _ hgd s x 22 ho base 9 i0 (.string ⟨#[]⟩) 1 16 Tryd.underlying22 hi hz0 hz1 hz2 rfl (by decide) v n xs hs hown ad m c news hx hl hnews h1 (by unfold maxLen; omega) (by omega) hbase (fun v' w' h1 h2 _ => h v' w' h1 h2)
/-- a copy of a slice of strings -/
theorem append_strs_copy {w : World} {ops : Array Oper} {rest : List Oper} {o : Oper} {a : Act} {Q : Exit → Act → World → Prop} (hgd : o.guard = none) (s x : Operand)
    (ho : o.op = .call { callee := .builtin .append, args := #[s, x], argTypes := #[22, 22] }) (Y : Nat) (hs : a.eval s = .slice (some ⟨Y, 0, none⟩) 0 0) (hY : w.heap[Y]? = some (.cells #[] 9 (0, 0)))
    (B : Option Addr) (L : List (List UInt8)) (c : Nat) (hx : a.eval x = .slice B L.length c) (hB : B = none → c = 0) (hL : StrsAt B L w) (h63 : L.length ≤ 1000000)
    (h : ∀ A' c' w', w'.ownsRow Y 9 1 (.slice A' L.length c') L.length (strsV L) → Below Y w w' → wpList Tryd.prog ops Q rest (a.put o.dst (.slice A' L.length c')) w') : wpList Tryd.prog ops Q (o :: rest) a w := by
  have hlt : Y < w.heap.size := (Array.getElem?_eq_some_iff.1 hY).1
  have hown : w.ownsRow Y 9 1 (.slice (some ⟨Y, 0, none⟩) 0 0) 0 [] := ⟨rfl, .inr ⟨Y, 0, #[], rfl, Nat.le_refl _, hY, Nat.le_refl _, Nat.zero_le _, rfl, rfl⟩⟩
  have fin : ∀ v' w', w'.ownsRow Y 9 1 v' L.length (strsV L) → w.grownBy w' (some Y) → wpList Tryd.prog ops Q rest (a.put o.dst v') w' := fun v' w' h1 h2 => by
    obtain ⟨A', cap, rfl⟩ := own_sl h1
    exact h A' cap w' h1 ⟨h2.os, h2.tape, h2.output, h2.size, fun k hk => h2.block k (by omega) (by simp; omega)⟩
  cases B with
  | none =>
    have hls : L = [] := by
      cases L with
      | nil => rfl
      | cons y r =>
        obtain ⟨g, o, e, _⟩ := hL (by simp)
        cases e
    subst hls
    obtain rfl := hB rfl
    obtain ⟨i0, hi, hz0, hz1, hz2⟩ := info_parts Tryd.info_string2
    exact wpList_append_own_none hgd s x 22 ho Y 9 i0 1 Tryd.underlying22 hi _ 0 [] hs hown hx (fin _ w hown (World.grownBy.refl _ _))
  | some ad =>
    refine append_strs hgd s x ho Y _ 0 [] hs hown ad L.length c (strsV L) hx (by unfold strsV; simp) (fun j u hj => ?_) (fun u hu => ?_) (by omega) (by omega) (fun v' w' h1 h2 => ?_)
    · unfold strsV at hj
      rw [List.getElem?_map] at hj
      obtain ⟨y, hy, rfl⟩ := Option.map_eq_some_iff.1 hj
      obtain ⟨g, o, e, hg, hc⟩ := hL (by intro e; rw [e] at hy; simp at hy)
      obtain rfl := Option.some.inj e
      rw [addr_add]
      exact hc j y hy
    · unfold strsV at hu
      obtain ⟨y, _, rfl⟩ := List.mem_map.1 hu
      rfl
    · rw [Nat.zero_add, List.nil_append] at h1
      exact fin v' w' h1 h2
theorem box_and (w : World) (a b c d e z0 z1 z2 z3 z4 : Value) : Below w.heap.size w ((w.alloc (.cells #[a, b, c, d, e] 24)).alloc (.cells #[z0, z1, z2, z3, z4] 24)) ∧ ((w.alloc (.cells #[a, b, c, d, e] 24)).alloc (.cells #[z0, z1, z2, z3, z4] 24)).heap[w.heap.size]? = some (.cells #[a, b, c, d, e] 24 (0, 0)) ∧ ((w.alloc (.cells #[a, b, c, d, e] 24)).alloc (.cells #[z0, z1, z2, z3, z4] 24)).heap[w.heap.size + 1]? = some (.cells #[z0, z1, z2, z3, z4] 24 (0, 0)) := by
  have h1 := below_new w (.cells #[a, b, c, d, e] 24)
  have h2 := below_new (w.alloc (.cells #[a, b, c, d, e] 24)) (.cells #[z0, z1, z2, z3, z4] 24)
  have h3 := heap_alloc_new w (.cells #[a, b, c, d, e] 24)
  have h4 := heap_alloc_new (w.alloc (.cells #[a, b, c, d, e] 24)) (.cells #[z0, z1, z2, z3, z4] 24)
  rw [World.size_alloc] at h4
  exact ⟨h1.trans (h2.mono h1.size), row_on h3 h2, h4⟩
theorem below_at5 {B g : Nat} {w V : World} (hb : Below B w V) (hg : B ≤ g) (v0 v1 v2 v3 v4 : Value) :
    Below B w (((((V.setCell ⟨g, 0, none⟩ v0).setCell ⟨g, 1, none⟩ v1).setCell ⟨g, 2, none⟩ v2).setCell ⟨g, 3, none⟩ v3).setCell ⟨g, 4, none⟩ v4) :=
  ((((hb.setCell hg _).setCell hg _).setCell hg _).setCell hg _).setCell hg _
end Go.Proofs.YthagoafcphaadaaDoor
