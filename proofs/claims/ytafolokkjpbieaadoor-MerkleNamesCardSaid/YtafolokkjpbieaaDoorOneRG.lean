/-
  A COPY of a slice of short digests.
-/
import Derived.Test.YtafolokkjpbieaaDoorOneRF
namespace Go.Proofs.YtafolokkjpbieaaDoor
open Go.RowKit Sha Ots
set_option linter.unusedVariables false
theorem append_copy {w : World} {ops : Array Oper} {rest : List Oper} {o : Oper} {a : Act} {Q : Exit → Act → World → Prop} (hgd : o.guard = none) (s x : Operand)
    (ho : o.op = .call { callee := .builtin .append, args := #[s, x], argTypes := #[29, 29] }) (Y : Nat) (hs : a.eval s = .slice (some ⟨Y, 0, none⟩) 0 0) (hY : w.heap[Y]? = some (.cells #[] 23 (0, 0)))
    (B : Option Addr) (ls : List (List UInt8)) (m c : Nat) (hx : a.eval x = .slice B m c) (hm : ls.length = m) (hB : B = none → c = 0) (hsh : Shorts B ls w) (h63 : m ≤ 100000)
    (h : ∀ A' c' w', Shorts A' ls w' → Below Y w w' → wpList Tryd.prog ops Q rest (a.put o.dst (.slice A' m c')) w') : wpList Tryd.prog ops Q (o :: rest) a w := by
  have hlt : Y < w.heap.size := (Array.getElem?_eq_some_iff.1 hY).1
  have hown : w.ownsRow Y 23 16 (.slice (some ⟨Y, 0, none⟩) 0 0) 0 [] := ⟨rfl, .inr ⟨Y, 0, #[], rfl, Nat.le_refl _, hY, Nat.le_refl _, Nat.zero_le _, rfl, rfl⟩⟩
  have fin : ∀ v' w', w'.ownsRow Y 23 16 v' m (bvals ls.flatten) → w.grownBy w' (some Y) → wpList Tryd.prog ops Q rest (a.put o.dst v') w' := fun v' w' h1 h2 => by
    subst hm
    obtain ⟨A', c', rfl, _, _, h3⟩ := shorts_own hsh.len h1
    exact h A' c' w' h3 ⟨h2.os, h2.tape, h2.output, h2.size, fun k hk => h2.block k (by omega) (by simp; omega)⟩
  cases B with
  | none =>
    have hls : ls = [] := by
      cases ls with
      | nil => rfl
      | cons y r =>
        obtain ⟨g, o, e, _⟩ := hsh.row 0 y rfl
        cases e
    subst hls
    subst hm
    obtain rfl := hB rfl
    obtain ⟨i0, hi, hz0, hz1, hz2⟩ := info_parts Tryd.info_short
    exact wpList_append_own_none hgd s x 29 ho Y 23 i0 16 Tryd.underlying29 hi _ 0 [] hs hown hx (fin _ w hown (World.grownBy.refl _ _))
  | some ad =>
    refine append_shorts hgd s x ho Y _ 0 [] hs hown ad m c ls.flatten hx (by rw [flat_len ls hsh.len, hm, Nat.mul_comm]) (fun j u hj => ?_) (by omega) (by omega) (fun v' w' h1 h2 => ?_)
    · unfold bvals at hj
      rw [List.getElem?_map] at hj
      obtain ⟨y, hy, rfl⟩ := Option.map_eq_some_iff.1 hj
      have hjl := (List.getElem?_eq_some_iff.1 hy).1
      rw [flat_len ls hsh.len] at hjl
      have hq := List.getElem?_eq_getElem (show j / 16 < ls.length by omega)
      obtain ⟨l, hl⟩ : ∃ l, ls[j / 16]? = some l := ⟨_, hq⟩
      obtain ⟨g, o, e, hr⟩ := hsh.row (j / 16) l hl
      obtain rfl := Option.some.inj e
      have hl16 := hsh.len l (List.mem_of_getElem? hl)
      obtain ⟨z, hz⟩ : ∃ z, l[j % 16]? = some z := ⟨_, List.getElem?_eq_getElem (by omega)⟩
      have hf := flat_at ls hsh.len (j / 16) l hl (j % 16) z hz
      rw [show 16 * (j / 16) + j % 16 = j by omega, hy] at hf
      obtain rfl := Option.some.inj hf
      have h9 := hr (j % 16) (.int .u8 (y.toNat : Int)) (by unfold bvals; rw [List.getElem?_map, hz]; rfl)
      rw [Nat.add_assoc, show 16 * (j / 16) + j % 16 = j by omega] at h9
      rw [add_eq]
      exact h9
    · rw [Nat.zero_add, List.nil_append] at h1
      exact fin v' w' h1 h2
end Go.Proofs.YtafolokkjpbieaaDoor
