/-
  LAYER 8: WHAT A SPOILING LEAVES: single bytes alone change, in blocks of one's own; the shape of every value stays.
-/
import Derived.Test.YthagoafcphaadaaOcM
namespace Go.Proofs.Ythagoafcphaadaa
open Go.RowKit Sha Oc
set_option linter.unusedVariables false
set_option linter.unusedSimpArgs false
set_option maxRecDepth 100000
/-- bytes alone have changed, from base on -/
structure Sp (base : Nat) (w w' : World) : Prop where
  os : w'.os = w.os
  tape : w'.tape = w.tape
  output : w'.output = w.output
  size : w.heap.size ≤ w'.heap.size
  blk : ∀ b : Nat, b < base → w'.heap[b]? = w.heap[b]?
  cel : ∀ (g p : Nat) (u : Value), w.cell? ⟨g, p, none⟩ = some u → ∃ u', w'.cell? ⟨g, p, none⟩ = some u' ∧ (u' = u ∨ ∃ a b : UInt8, u = .int .u8 (a.toNat : Int) ∧ u' = .int .u8 (b.toNat : Int))
  row : ∀ (g : Nat) (cs : Array Value) (t : TypeId), w.heap[g]? = some (.cells cs t (0, 0)) → ∃ cs' : Array Value, w'.heap[g]? = some (.cells cs' t (0, 0))
theorem Sp.refl (base : Nat) (w : World) : Sp base w w := ⟨rfl, rfl, rfl, Nat.le_refl _, fun _ _ => rfl, fun g p u h => ⟨u, h, .inl rfl⟩, fun g cs t h => ⟨cs, h⟩⟩
theorem Sp.trans {base : Nat} {w u v : World} (h : Sp base w u) (h2 : Sp base u v) : Sp base w v :=
  ⟨h2.os.trans h.os, h2.tape.trans h.tape, h2.output.trans h.output, Nat.le_trans h.size h2.size, fun b hb => (h2.blk b hb).trans (h.blk b hb), fun g p x hx => by
    obtain ⟨x1, h3, h4⟩ := h.cel g p x hx
    obtain ⟨x2, h5, h6⟩ := h2.cel g p x1 h3
    refine ⟨x2, h5, ?_⟩
    rcases h4 with rfl | ⟨a, b, rfl, rfl⟩
    · exact h6
    · rcases h6 with rfl | ⟨c, d, h7, rfl⟩
      · exact .inr ⟨a, b, rfl, rfl⟩
      · exact .inr ⟨a, d, rfl, rfl⟩, fun g cs t hg => by
    obtain ⟨cs1, h3⟩ := h.row g cs t hg
    exact h2.row g cs1 t h3⟩
theorem Sp.ofBelow {base : Nat} {w u : World} (h : Below w.heap.size w u) (hb : base ≤ w.heap.size) : Sp base w u :=
  ⟨h.os, h.tape, h.output, h.size, fun b hlt => h.block b (by omega), fun g p x hx => ⟨x, by rw [h.cell (p := ⟨g, p, none⟩) (World.block_lt_of_cell? _ _ hx)]; exact hx, .inl rfl⟩, fun g cs t hg => ⟨cs, (h.block g (Array.getElem?_eq_some_iff.1 hg).1).trans hg⟩⟩
theorem Sp.less {base b' : Nat} {w u : World} (h : Sp base w u) (hb : b' ≤ base) : Sp b' w u := ⟨h.os, h.tape, h.output, h.size, fun b hlt => h.blk b (by omega), h.cel, h.row⟩
theorem Sp.below {base n : Nat} {w u : World} (h : Sp base w u) (hn : n ≤ base) : Below n w u := ⟨h.os, h.tape, h.output, h.size, fun b hb => h.blk b (by omega)⟩
/-- a cell that is no byte stays -/
theorem Sp.keep {base : Nat} {w u : World} (h : Sp base w u) {g p : Nat} {A : Option Addr} {n c : Nat} (hx : w.cell? ⟨g, p, none⟩ = some (.slice A n c)) : u.cell? ⟨g, p, none⟩ = some (.slice A n c) := by
  obtain ⟨u', h1, h2⟩ := h.cel g p _ hx
  rcases h2 with rfl | ⟨a, b, h3, _⟩
  · exact h1
  · cases h3
/-- a byte remains a byte -/
theorem Sp.byte {base : Nat} {w u : World} (h : Sp base w u) {g p : Nat} {a : UInt8} (hx : w.cell? ⟨g, p, none⟩ = some (.int .u8 (a.toNat : Int))) : ∃ b : UInt8, u.cell? ⟨g, p, none⟩ = some (.int .u8 (b.toNat : Int)) := by
  obtain ⟨u', h1, h2⟩ := h.cel g p _ hx
  rcases h2 with rfl | ⟨a', b, _, rfl⟩
  · exact ⟨a, h1⟩
  · exact ⟨b, h1⟩
theorem Sp.rw {base : Nat} {w u : World} (h : Sp base w u) {g : Nat} (hg : Rw base w g) : Rw base u g := by
  obtain ⟨h1, cs, t, h2⟩ := hg
  obtain ⟨cs', h3⟩ := h.row g cs t h2
  exact ⟨h1, cs', t, h3⟩
theorem cell_of_setCell {w : World} {g p q : Nat} {v : Value} {cs : Array Value} {t : TypeId} (hg : w.heap[g]? = some (.cells cs t (0, 0))) (hne : p ≠ q) : (w.setCell ⟨g, p, none⟩ v).cell? ⟨g, q, none⟩ = w.cell? ⟨g, q, none⟩ := by
  have h1 : (w.setCell ⟨g, p, none⟩ v).heap[g]? = some (.cells (cs.setIfInBounds p v) t (0, 0)) := heap_setCell_same _ _ _ _ _ _ hg
  rw [cell_of_row _ _ _ _ _ _ h1, cell_of_row _ _ _ _ _ _ hg, Array.getElem?_setIfInBounds_ne hne]
theorem sp_set {base : Nat} {w : World} {g p : Nat} {a : UInt8} (hg : Rw base w g) (hx : w.cell? ⟨g, p, none⟩ = some (.int .u8 (a.toNat : Int))) (z : Int) (h0 : 0 ≤ z) (h1 : z < 256) : Sp base w (w.setCell ⟨g, p, none⟩ (.int .u8 z)) := by
  obtain ⟨hb, cs, t, hr⟩ := hg
  have hs : (w.setCell ⟨g, p, none⟩ (.int .u8 z)).heap[g]? = some (.cells (cs.setIfInBounds p (.int .u8 z)) t (0, 0)) := heap_setCell_same _ _ _ _ _ _ hr
  have hz : z = (((UInt8.ofNat z.toNat).toNat : Nat) : Int) := by rw [u8n _ (by omega)]; omega
  have hpl : p < cs.size := by
    rw [cell_of_row _ _ _ _ _ _ hr] at hx
    exact (Array.getElem?_eq_some_iff.1 hx).1
  refine ⟨rfl, rfl, rfl, by simp [World.setCell], fun b hlt => Below.heap_setCell _ _ _ _ (show b ≠ g by omega), fun g' p' u hu => ?_, fun g' cs' t' hg' => ?_⟩
  · by_cases hgg : g' = g
    · subst hgg
      by_cases hpp : p = p'
      · subst hpp
        rw [hx] at hu
        obtain rfl := Option.some.inj hu
        refine ⟨.int .u8 z, ?_, .inr ⟨a, UInt8.ofNat z.toNat, rfl, by rw [← hz]⟩⟩
        rw [cell_of_row _ _ _ _ _ _ hs, Array.getElem?_setIfInBounds_self_of_lt hpl]
      · exact ⟨u, by rw [cell_of_setCell hr hpp]; exact hu, .inl rfl⟩
    · refine ⟨u, ?_, .inl rfl⟩
      have hk : (w.setCell ⟨g, p, none⟩ (.int .u8 z)).heap[g']? = w.heap[g']? := Below.heap_setCell _ _ _ _ hgg
      simp only [World.cell?, hk] at hu ⊢
      exact hu
  · by_cases hgg : g' = g
    · subst hgg
      rw [hr] at hg'
      cases hg'
      exact ⟨_, hs⟩
    · exact ⟨cs', (Below.heap_setCell _ _ _ _ hgg).trans hg'⟩
theorem cnts_eq : ∀ (l l' : List Oct), l'.length = l.length → (∀ (k : Nat) (o o' : Oct), l[k]? = some o → l'[k]? = some o' → cnt o' = cnt o ∧ tot o' = tot o) → cnts l' = cnts l ∧ tots l' = tots l
  | [], [], _, _ => ⟨rfl, rfl⟩
  | [], _ :: _, h, _ => by cases h
  | _ :: _, [], h, _ => by cases h
  | v :: r, v' :: r', h, hk => by
    have h1 := hk 0 v v' rfl rfl
    have h2 := cnts_eq r r' (by simpa using h) (fun k o o' a b => hk (k + 1) o o' (by simpa using a) (by simpa using b))
    rw [cnts, cnts, tots, tots]
    omega
/-- the shape of a value of one's own stays -/
theorem Oc.At.spoil {base : Nat} {w u : World} (hs : Sp base w u) : ∀ {o : Oct} {x y : Value}, At (Rw base w) w o x y → ∀ t' : UInt8, ∃ o', At (Rw base u) u o' x y ∧ cnt o' = cnt o ∧ tot o' = tot o ∧ tagO o' = t' := fun h => by
  induction h with
  | mk t b l A c B d g off vb vl hc hbm hcn hsA hA hd hlm hdn hB h0 h1 h2 hr ih =>
    intro t'
    haveI : Inhabited UInt8 := ⟨0⟩
    -- the bytes
    have hbytes : ∃ b' : List UInt8, b'.length = b.length ∧ SrcAt A b' u ∧ ∀ ga oa, A = some ⟨ga, oa, none⟩ → b' ≠ [] → Rw base u ga := by
      by_cases hb0 : b = []
      · exact ⟨[], by rw [hb0], fun h => absurd rfl h, fun _ _ _ h => absurd rfl h⟩
      · obtain ⟨ga, oa, hAe, hcell⟩ := hsA hb0
        have each : ∀ j, j < b.length → ∃ z : UInt8, u.cell? ⟨ga, oa + j, none⟩ = some (.int .u8 (z.toNat : Int)) := fun j hj => hs.byte (hcell j _ (List.getElem?_eq_getElem hj))
        obtain ⟨f, hf⟩ := Go.Deep.choose_lt each
        refine ⟨(List.range b.length).map f, by simp, fun _ => ⟨ga, oa, hAe, fun j z hj => ?_⟩, fun g2 o2 e _ => hs.rw (hA g2 o2 e hb0)⟩
        rw [List.getElem?_map] at hj
        obtain ⟨i, hi, rfl⟩ := Option.map_eq_some_iff.1 hj
        have hjl : j < b.length := by
          have := (List.getElem?_eq_some_iff.1 hi).1
          simpa using this
        rw [List.getElem?_range hjl] at hi
        obtain rfl := Option.some.inj hi
        exact hf j hjl
    obtain ⟨b', hb1, hb2, hb3⟩ := hbytes
    -- the elements
    have each : ∀ k, k < l.length → ∃ o' : Oct, At (Rw base u) u o' (vb k) (vl k) ∧ (∀ o, l[k]? = some o → cnt o' = cnt o ∧ tot o' = tot o) ∧ u.cell? ⟨g, off + k * 3, none⟩ = some (.int .u8 ((tagO o').toNat : Int)) := fun k hk => by
      have hl := List.getElem?_eq_getElem hk
      obtain ⟨z, hz⟩ := hs.byte (h0 k _ hl)
      obtain ⟨o', h3, h4, h5, h6⟩ := ih k _ hl z
      exact ⟨o', h3, fun o ho => by rw [hl] at ho; obtain rfl := Option.some.inj ho; exact ⟨h4, h5⟩, by rw [h6]; exact hz⟩
    obtain ⟨f, hf⟩ := Go.Deep.choose_lt each
    have hlen : ((List.range l.length).map f).length = l.length := by simp
    have hat : ∀ (k : Nat) (o' : Oct), ((List.range l.length).map f)[k]? = some o' → k < l.length ∧ o' = f k := fun k o' hk => by
      rw [List.getElem?_map] at hk
      obtain ⟨i, hi, rfl⟩ := Option.map_eq_some_iff.1 hk
      have hkl : k < l.length := by
        have := (List.getElem?_eq_some_iff.1 hi).1
        simpa using this
      rw [List.getElem?_range hkl] at hi
      obtain rfl := Option.some.inj hi
      exact ⟨hkl, rfl⟩
    have hct := cnts_eq l ((List.range l.length).map f) hlen (fun k o o' ho ho' => by
      obtain ⟨hkl, rfl⟩ := hat k o' ho'
      exact (hf k hkl).2.1 o ho)
    have hkeep : ∀ k, k < l.length → u.cell? ⟨g, off + k * 3 + 1, none⟩ = some (vb k) ∧ u.cell? ⟨g, off + k * 3 + 2, none⟩ = some (vl k) := fun k hk => by
      have hl := List.getElem?_eq_getElem hk
      obtain ⟨A1, m1, c1, B1, n1, d1, e1, e2⟩ := (hr k _ hl).slices
      have h3 := h1 k _ hl
      have h4 := h2 k _ hl
      rw [e1] at h3 ⊢
      rw [e2] at h4 ⊢
      exact ⟨hs.keep h3, hs.keep h4⟩
    refine ⟨.mk t' b' ((List.range l.length).map f), ?_, by rw [cnt, cnt, hct.1], by rw [tot, tot, hct.2, hb1], rfl⟩
    have hfin := At.mk (R := Rw base u) (w := u) t' b' ((List.range l.length).map f) A c B d g off vb vl (by rw [hb1]; exact hc) (by rw [hb1]; exact hbm) hcn hb2 hb3 (by rw [hlen]; exact hd) (by rw [hlen]; exact hlm) hdn
      (fun hne => by
        have hl0 : l ≠ [] := fun e => hne (by rw [e]; rfl)
        exact ⟨(hB hl0).1, hs.rw (hB hl0).2⟩)
      (fun k o' hk => by obtain ⟨hkl, rfl⟩ := hat k o' hk; exact (hf k hkl).2.2)
      (fun k o' hk => by obtain ⟨hkl, rfl⟩ := hat k o' hk; exact (hkeep k hkl).1)
      (fun k o' hk => by obtain ⟨hkl, rfl⟩ := hat k o' hk; exact (hkeep k hkl).2)
      (fun k o' hk => by obtain ⟨hkl, rfl⟩ := hat k o' hk; exact (hf k hkl).1)
    rw [hb1, hlen] at hfin
    exact hfin
end Go.Proofs.Ythagoafcphaadaa
