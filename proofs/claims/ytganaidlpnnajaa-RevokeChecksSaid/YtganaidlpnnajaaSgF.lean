/-
  COPIES of numbers; slices.Clone. Written by wip/gen-sgf.py.
-/
import Derived.Test.YtganaidlpnnajaaSgE
namespace Go.Proofs.Ytganaidlpnnajaa
namespace Sg
open Go.RowKit Sha
set_option linter.unusedVariables false
set_option linter.unusedSimpArgs false
theorem Try.info_u64 : (Try.prog.info? 22).map (fun i => (i.zero, i.size, i.bytes)) = some (some (.int .u64 0), 1, 8) := by kernel_rfl
def uvals (xs : List Int) : List Value := xs.map fun x => .int .u64 x
theorem uvals_len (xs : List Int) : (uvals xs).length = xs.length := by unfold uvals; rw [List.length_map]
theorem nums_own {w : World} {b : Nat} {v : Value} {xs : List Int} (h : w.ownsRow b 22 1 v xs.length (uvals xs)) : ∃ A c, v = .slice A xs.length c ∧ xs.length ≤ c ∧ Nums A xs w := by
  obtain ⟨h1, ⟨rfl, h2⟩ | ⟨g, cap, cur, rfl, h3, h4, h5, h6, h7, h8⟩⟩ := h
  · have : xs = [] := List.length_eq_zero_iff.1 h2
    subst this
    exact ⟨none, 0, rfl, Nat.le_refl _, ⟨fun i x hi => by simp at hi⟩⟩
  · refine ⟨some ⟨g, 0, none⟩, cap, rfl, h5, ⟨fun i x hi => ⟨g, 0, rfl, ?_⟩⟩⟩
    rw [cell_of_row w g _ cur _ _ h4, Nat.zero_add, ← Array.getElem?_toList]
    have h9 : (cur.toList.take (xs.length * 1))[i]? = some (.int .u64 x) := by
      rw [h8]
      unfold uvals
      rw [List.getElem?_map, hi]
      rfl
    rw [List.getElem?_take] at h9
    split at h9
    · exact h9
    · cases h9
theorem own_row {w : World} {b : Nat} {E : TypeId} {k : Nat} {v : Value} {n : Nat} {xs : List Value} (h : w.ownsRow b E k v n xs) : ∀ g o m c, v = .slice (some ⟨g, o, none⟩) m c → ∃ cur, w.heap[g]? = some (.cells cur E (0, 0)) := by
  obtain ⟨h1, ⟨rfl, h2⟩ | ⟨g, cap, cur, rfl, h3, h4, _⟩⟩ := h
  · intro _ _ _ _ e
    cases e
  · intro g' o m c e
    cases e
    exact ⟨cur, h4⟩
theorem run_copy_u (w : World) (Y : Nat) (hY : w.heap[Y]? = some (.cells #[] 22 (0, 0))) (ty : TypeId) (B : Option Addr) (xs : List Int) (m c : Nat) (hm : xs.length = m) (hB : B = none → c = 0) (hsh : Nums B xs w) (h63 : m ≤ 1000000) :
    ∃ A' c' w', (Builtin.append_ #[25, 25] ty #[.slice (some ⟨Y, 0, none⟩) 0 0, .slice B m c]).run Try.prog w = .ok (.slice A' m c') w' ∧ Nums A' xs w' ∧ m ≤ c' ∧ w.grownBy w' (some Y) ∧ (∀ g o, A' = some ⟨g, o, none⟩ → (g = Y ∨ g = w.heap.size) ∧ ∃ cur, w'.heap[g]? = some (.cells cur 22 (0, 0))) := by
  have hlt : Y < w.heap.size := (Array.getElem?_eq_some_iff.1 hY).1
  have hown : w.ownsRow Y 22 1 (.slice (some ⟨Y, 0, none⟩) 0 0) 0 [] := ⟨rfl, .inr ⟨Y, 0, #[], rfl, Nat.le_refl _, hY, Nat.le_refl _, Nat.zero_le _, rfl, rfl⟩⟩
  obtain ⟨i0, hi, hz0, hz1, hz2⟩ := info_parts Try.info_u64
  have fin : ∀ v' w', (Builtin.append_ #[25, 25] ty #[.slice (some ⟨Y, 0, none⟩) 0 0, .slice B m c]).run Try.prog w = .ok v' w' → w'.ownsRow Y 22 1 v' m (uvals xs) → w.grownBy w' (some Y) → (v'.ownBlock = some Y ∨ v'.ownBlock = some w.heap.size) → ∃ A' c' w', (Builtin.append_ #[25, 25] ty #[.slice (some ⟨Y, 0, none⟩) 0 0, .slice B m c]).run Try.prog w = .ok (.slice A' m c') w' ∧ Nums A' xs w' ∧ m ≤ c' ∧ w.grownBy w' (some Y) ∧ (∀ g o, A' = some ⟨g, o, none⟩ → (g = Y ∨ g = w.heap.size) ∧ ∃ cur, w'.heap[g]? = some (.cells cur 22 (0, 0))) := fun v' w' h0 h1 h2 h3 => by
    subst hm
    obtain ⟨A', c', rfl, h6, h4⟩ := nums_own h1
    refine ⟨A', c', w', h0, h4, h6, h2, fun g o e => ?_⟩
    subst e
    refine ⟨?_, own_row h1 g o _ _ rfl⟩
    rcases h3 with h3 | h3
    · exact .inl (Option.some.inj h3)
    · exact .inr (Option.some.inj h3)
  cases B with
  | none =>
    have hls : xs = [] := by
      cases xs with
      | nil => rfl
      | cons y r =>
        obtain ⟨g, o, e, _⟩ := hsh.row 0 y rfl
        cases e
    subst hls
    subst hm
    obtain rfl := hB rfl
    exact fin _ w (run_append_owned_none (P := Try.prog) (w := w) Y 25 ty 22 i0 1 Try.underlying25 hi _ 0 [] hown) hown (World.grownBy.refl _ _) (.inl rfl)
  | some ad =>
    have hcells : ∀ j u, (uvals xs)[j]? = some u → w.cell? (ad.add j) = some u := fun j u hj => by
      unfold uvals at hj
      rw [List.getElem?_map] at hj
      obtain ⟨y, hy, rfl⟩ := Option.map_eq_some_iff.1 hj
      obtain ⟨g, o, e, hr⟩ := hsh.row j y hy
      obtain rfl := Option.some.inj e
      rw [add_eq]
      exact hr
    obtain ⟨v', w', h0, h1, h2, _, h3⟩ := run_append_own_at (P := Try.prog) w Y 25 ty 22 i0 (.int .u64 0) 1 8 Try.underlying25 hi hz0 hz1 hz2 rfl (by decide) _ 0 [] hown ad m c (uvals xs) (by rw [uvals_len, hm, Nat.mul_one]) hcells (fun u hu => by
      unfold uvals at hu
      obtain ⟨x, _, rfl⟩ := List.mem_map.1 hu
      rfl) (by unfold maxLen; omega) (by omega) (Nat.le_of_lt hlt)
    rw [Nat.zero_add, List.nil_append] at h1
    exact fin v' w' h0 h1 h2 h3
theorem wp_append_copy_u {w : World} {o : Oper} {a : Act} {K : Act → World → Prop} {Q : Exit → Act → World → Prop} (s x : Operand)
    (ho : o.op = .call { callee := .builtin .append, args := #[s, x], argTypes := #[25, 25] }) (Y : Nat) (hs : a.eval s = .slice (some ⟨Y, 0, none⟩) 0 0) (hY : w.heap[Y]? = some (.cells #[] 22 (0, 0)))
    (B : Option Addr) (xs : List Int) (m c : Nat) (hx : a.eval x = .slice B m c) (hm : xs.length = m) (hB : B = none → c = 0) (hsh : Nums B xs w) (h63 : m ≤ 1000000)
    (h : ∀ A' c' w', Nums A' xs w' → m ≤ c' → w.grownBy w' (some Y) → (∀ g o, A' = some ⟨g, o, none⟩ → (g = Y ∨ g = w.heap.size) ∧ ∃ cur, w'.heap[g]? = some (.cells cur 22 (0, 0))) → K (a.put o.dst (.slice A' m c')) w') : o.wp Try.prog a w K Q := by
  obtain ⟨A', c', w', hr, h1, h6, h2, h3⟩ := run_copy_u w Y hY o.type B xs m c hm hB hsh h63
  unfold Oper.wp execOp
  simp only [ho, resolve, invoke, builtin, Sem.run_bind, Sem.run_pure, Result.andThen_ok, List.map_toArray, List.map_cons, List.map_nil, hs, hx, hr]
  exact h A' c' w' h1 h6 h2 h3
theorem append_copy_u {w : World} {ops : Array Oper} {rest : List Oper} {o : Oper} {a : Act} {Q : Exit → Act → World → Prop} (hgd : o.guard = none) (s x : Operand)
    (ho : o.op = .call { callee := .builtin .append, args := #[s, x], argTypes := #[25, 25] }) (Y : Nat) (hs : a.eval s = .slice (some ⟨Y, 0, none⟩) 0 0) (hY : w.heap[Y]? = some (.cells #[] 22 (0, 0)))
    (B : Option Addr) (xs : List Int) (m c : Nat) (hx : a.eval x = .slice B m c) (hm : xs.length = m) (hB : B = none → c = 0) (hsh : Nums B xs w) (h63 : m ≤ 1000000)
    (h : ∀ A' c' w', Nums A' xs w' → m ≤ c' → w.grownBy w' (some Y) → (∀ g o, A' = some ⟨g, o, none⟩ → (g = Y ∨ g = w.heap.size) ∧ ∃ cur, w'.heap[g]? = some (.cells cur 22 (0, 0))) → wpList Try.prog ops Q rest (a.put o.dst (.slice A' m c')) w') : wpList Try.prog ops Q (o :: rest) a w :=
  wpList_plain hgd fun K hK => wp_append_copy_u s x ho Y hs hY B xs m c hx hm hB hsh h63 fun A' c' w' h1 h2 h3 h4 => hK _ _ (h A' c' w' h1 h2 h3 h4)
theorem run_copy_s (w : World) (Y : Nat) (hY : w.heap[Y]? = some (.cells #[] 58 (0, 0))) (ty : TypeId) (B : Option Addr) (ls : List (List UInt8)) (m c : Nat) (hm : ls.length = m) (hB : B = none → c = 0) (hsh : Shs B ls w) (h63 : m ≤ 100000) :
    ∃ A' c' w', (Builtin.append_ #[26, 26] ty #[.slice (some ⟨Y, 0, none⟩) 0 0, .slice B m c]).run Try.prog w = .ok (.slice A' m c') w' ∧ Shs A' ls w' ∧ m ≤ c' ∧ w.grownBy w' (some Y) ∧ (∀ g o, A' = some ⟨g, o, none⟩ → (g = Y ∨ g = w.heap.size) ∧ ∃ cur, w'.heap[g]? = some (.cells cur 58 (0, 0))) := by
  have hlt : Y < w.heap.size := (Array.getElem?_eq_some_iff.1 hY).1
  have hown : w.ownsRow Y 58 16 (.slice (some ⟨Y, 0, none⟩) 0 0) 0 [] := ⟨rfl, .inr ⟨Y, 0, #[], rfl, Nat.le_refl _, hY, Nat.le_refl _, Nat.zero_le _, rfl, rfl⟩⟩
  obtain ⟨i0, hi, hz0, hz1, hz2⟩ := info_parts Try.info_short
  have fin : ∀ v' w', (Builtin.append_ #[26, 26] ty #[.slice (some ⟨Y, 0, none⟩) 0 0, .slice B m c]).run Try.prog w = .ok v' w' → w'.ownsRow Y 58 16 v' m (bvals ls.flatten) → w.grownBy w' (some Y) → (v'.ownBlock = some Y ∨ v'.ownBlock = some w.heap.size) → ∃ A' c' w', (Builtin.append_ #[26, 26] ty #[.slice (some ⟨Y, 0, none⟩) 0 0, .slice B m c]).run Try.prog w = .ok (.slice A' m c') w' ∧ Shs A' ls w' ∧ m ≤ c' ∧ w.grownBy w' (some Y) ∧ (∀ g o, A' = some ⟨g, o, none⟩ → (g = Y ∨ g = w.heap.size) ∧ ∃ cur, w'.heap[g]? = some (.cells cur 58 (0, 0))) := fun v' w' h0 h1 h2 h3 => by
    subst hm
    obtain ⟨A', c', rfl, h6, _, h4⟩ := shorts_own hsh.len h1
    refine ⟨A', c', w', h0, h4, h6, h2, fun g o e => ?_⟩
    subst e
    refine ⟨?_, own_row h1 g o _ _ rfl⟩
    rcases h3 with h3 | h3
    · exact .inl (Option.some.inj h3)
    · exact .inr (Option.some.inj h3)
  cases B with
  | none =>
    have hls : ls = [] := by
      cases ls with
      | nil => rfl
      | cons y r =>
        obtain ⟨g, o, e, _⟩ := hsh.row 0 y rfl
        cases e
    subst hls
    subst hm
    obtain rfl := hB rfl
    exact fin _ w (run_append_owned_none (P := Try.prog) (w := w) Y 26 ty 58 i0 16 Try.underlying26 hi _ 0 [] hown) hown (World.grownBy.refl _ _) (.inl rfl)
  | some ad =>
    have hcells : ∀ j u, (bvals ls.flatten)[j]? = some u → w.cell? (ad.add j) = some u := fun j u hj => by
      unfold bvals at hj
      rw [List.getElem?_map] at hj
      obtain ⟨y, hy, rfl⟩ := Option.map_eq_some_iff.1 hj
      have hjl := (List.getElem?_eq_some_iff.1 hy).1
      rw [flat_len ls hsh.len] at hjl
      have hq := List.getElem?_eq_getElem (show j / 16 < ls.length by omega)
      obtain ⟨l, hl⟩ : ∃ l, ls[j / 16]? = some l := ⟨_, hq⟩
      obtain ⟨g, o, e, hr⟩ := hsh.row (j / 16) l hl
      obtain rfl := Option.some.inj e
      have hl16 := hsh.len l (List.mem_of_getElem? hl)
      obtain ⟨z, hz⟩ : ∃ z, l[j % 16]? = some z := ⟨_, List.getElem?_eq_getElem (by omega)⟩
      have hf := flat_at ls hsh.len (j / 16) l hl (j % 16) z hz
      rw [show 16 * (j / 16) + j % 16 = j by omega, hy] at hf
      obtain rfl := Option.some.inj hf
      have h9 := hr (j % 16) (.int .u8 (y.toNat : Int)) (by unfold bvals; rw [List.getElem?_map, hz]; rfl)
      rw [Nat.add_assoc, show 16 * (j / 16) + j % 16 = j by omega] at h9
      rw [add_eq]
      exact h9
    obtain ⟨v', w', h0, h1, h2, _, h3⟩ := run_append_own_at (P := Try.prog) w Y 26 ty 58 i0 (.agg (bcells (List.replicate 16 0))) 16 16 Try.underlying26 hi hz0 hz1 hz2 rfl (by decide) _ 0 [] hown ad m c (bvals ls.flatten) (by rw [bvals_len, flat_len ls hsh.len, hm, Nat.mul_comm]) hcells (fun u hu => by
      unfold bvals at hu
      obtain ⟨x, _, rfl⟩ := List.mem_map.1 hu
      rfl) (by unfold maxLen; omega) (by omega) (Nat.le_of_lt hlt)
    rw [Nat.zero_add, List.nil_append] at h1
    exact fin v' w' h0 h1 h2 h3
theorem wp_append_copy_s {w : World} {o : Oper} {a : Act} {K : Act → World → Prop} {Q : Exit → Act → World → Prop} (s x : Operand)
    (ho : o.op = .call { callee := .builtin .append, args := #[s, x], argTypes := #[26, 26] }) (Y : Nat) (hs : a.eval s = .slice (some ⟨Y, 0, none⟩) 0 0) (hY : w.heap[Y]? = some (.cells #[] 58 (0, 0)))
    (B : Option Addr) (ls : List (List UInt8)) (m c : Nat) (hx : a.eval x = .slice B m c) (hm : ls.length = m) (hB : B = none → c = 0) (hsh : Shs B ls w) (h63 : m ≤ 100000)
    (h : ∀ A' c' w', Shs A' ls w' → m ≤ c' → w.grownBy w' (some Y) → (∀ g o, A' = some ⟨g, o, none⟩ → (g = Y ∨ g = w.heap.size) ∧ ∃ cur, w'.heap[g]? = some (.cells cur 58 (0, 0))) → K (a.put o.dst (.slice A' m c')) w') : o.wp Try.prog a w K Q := by
  obtain ⟨A', c', w', hr, h1, h6, h2, h3⟩ := run_copy_s w Y hY o.type B ls m c hm hB hsh h63
  unfold Oper.wp execOp
  simp only [ho, resolve, invoke, builtin, Sem.run_bind, Sem.run_pure, Result.andThen_ok, List.map_toArray, List.map_cons, List.map_nil, hs, hx, hr]
  exact h A' c' w' h1 h6 h2 h3
theorem append_copy_s {w : World} {ops : Array Oper} {rest : List Oper} {o : Oper} {a : Act} {Q : Exit → Act → World → Prop} (hgd : o.guard = none) (s x : Operand)
    (ho : o.op = .call { callee := .builtin .append, args := #[s, x], argTypes := #[26, 26] }) (Y : Nat) (hs : a.eval s = .slice (some ⟨Y, 0, none⟩) 0 0) (hY : w.heap[Y]? = some (.cells #[] 58 (0, 0)))
    (B : Option Addr) (ls : List (List UInt8)) (m c : Nat) (hx : a.eval x = .slice B m c) (hm : ls.length = m) (hB : B = none → c = 0) (hsh : Shs B ls w) (h63 : m ≤ 100000)
    (h : ∀ A' c' w', Shs A' ls w' → m ≤ c' → w.grownBy w' (some Y) → (∀ g o, A' = some ⟨g, o, none⟩ → (g = Y ∨ g = w.heap.size) ∧ ∃ cur, w'.heap[g]? = some (.cells cur 58 (0, 0))) → wpList Try.prog ops Q rest (a.put o.dst (.slice A' m c')) w') : wpList Try.prog ops Q (o :: rest) a w :=
  wpList_plain hgd fun K hK => wp_append_copy_s s x ho Y hs hY B ls m c hx hm hB hsh h63 fun A' c' w' h1 h2 h3 h4 => hK _ _ (h A' c' w' h1 h2 h3 h4)
theorem eqn_u (B : Option Addr) (n c : Nat) (w : World) : (binOp .eql 25 (.slice B n c) (.slice none 0 0)).run Try.prog w = .ok (.bool B.isNone) w := by
  cases B <;> kernel_rfl
theorem eqn_s (B : Option Addr) (n c : Nat) (w : World) : (binOp .eql 26 (.slice B n c) (.slice none 0 0)).run Try.prog w = .ok (.bool B.isNone) w := by
  cases B <;> kernel_rfl
theorem below_grown {w V w' : World} (hV : Below w.heap.size w V) {Y : Nat} (hY : w.heap.size ≤ Y) (h : V.grownBy w' (some Y)) : Below w.heap.size w w' := hV.grown h hV.size (fun j hj => by have hj2 := Option.some.inj hj; omega)
def clone_uP (xs : List Int) (w : World) (e : Ending) (w' : World) : Prop := ∃ A' c', e = .returned (.slice A' xs.length c') ∧ Nums A' xs w' ∧ (∀ g o, A' = some ⟨g, o, none⟩ → w.heap.size ≤ g ∧ ∃ cur, w'.heap[g]? = some (.cells cur 22 (0, 0))) ∧ Below w.heap.size w w'
set_option maxRecDepth 100000 in
set_option maxHeartbeats 4000000 in
theorem clone_u (B : Option Addr) (xs : List Int) (c : Nat) (hB : B = none → c = 0) (h63 : xs.length ≤ 1000000) (w : World) (h1 : Nums B xs w) :
    Calls Try.prog 24 #[.slice B xs.length c] w (clone_uP xs w) := by
  have HX := Lib.hid hB
  have HL := Lib.hid h63
  have HS := Lib.hid h1
  clear hB h63 h1
  cases B with
  | none =>
    have hls : xs = [] := by
      cases xs with
      | nil => rfl
      | cons y r =>
        obtain ⟨g, o, e, _⟩ := HS.out.row 0 y rfl
        cases e
    subst hls
    obtain rfl := HX.out rfl
    have he := eqn_u none 0 0 w
    simp only [Option.isNone_none] at he
    go_enter Try.func24, Try.ntmps24
    go_wp2_with fail
    go_ret
    exact ⟨none, 0, rfl, HS.out, (fun g o e => by cases e), Below.refl _ _⟩
  | some ad =>
    obtain ⟨n, hn⟩ : ∃ n, xs.length = n := ⟨_, rfl⟩
    have HN := Lib.hid hn
    rw [hn] at HL
    rw [hn]
    clear hn
    have he := eqn_u (some ad) n c w
    simp only [Option.isNone_some] at he
    go_enter Try.func24, Try.ntmps24
    go_wp2_with (at_builtin; refine append_copy_u rfl (.tmp 5) (.tmp 6) rfl w.heap.size rfl (heap_alloc_new _ _) (some ad) xs n c rfl HN.out HX.out (HS.out.on (below_new _ _)) HL.out ?_; intro A1 c1 w1 hsh1 hm1 hg1 hl1; have HSH1 := Lib.hid hsh1; have HG1 := Lib.hid hg1; have HL1 := Lib.hid hl1; clear hsh1 hg1 hl1 hm1)
    go_ret
    refine ⟨A1, c1, by rw [HN.out]; rfl, HSH1.out, fun g o e => ?_, below_grown (below_new _ _) (Nat.le_refl _) HG1.out⟩
    obtain ⟨h1, h2⟩ := HL1.out g o e
    rw [World.size_alloc] at h1
    exact ⟨by omega, h2⟩
def clone_sP (ls : List (List UInt8)) (w : World) (e : Ending) (w' : World) : Prop := ∃ A' c', e = .returned (.slice A' ls.length c') ∧ Shs A' ls w' ∧ (∀ g o, A' = some ⟨g, o, none⟩ → w.heap.size ≤ g ∧ ∃ cur, w'.heap[g]? = some (.cells cur 58 (0, 0))) ∧ Below w.heap.size w w'
set_option maxRecDepth 100000 in
set_option maxHeartbeats 4000000 in
theorem clone_s (B : Option Addr) (ls : List (List UInt8)) (c : Nat) (hB : B = none → c = 0) (h63 : ls.length ≤ 100000) (w : World) (h1 : Shs B ls w) :
    Calls Try.prog 25 #[.slice B ls.length c] w (clone_sP ls w) := by
  have HX := Lib.hid hB
  have HL := Lib.hid h63
  have HS := Lib.hid h1
  clear hB h63 h1
  cases B with
  | none =>
    have hls : ls = [] := by
      cases ls with
      | nil => rfl
      | cons y r =>
        obtain ⟨g, o, e, _⟩ := HS.out.row 0 y rfl
        cases e
    subst hls
    obtain rfl := HX.out rfl
    have he := eqn_s none 0 0 w
    simp only [Option.isNone_none] at he
    go_enter Try.func25, Try.ntmps25
    go_wp2_with fail
    go_ret
    exact ⟨none, 0, rfl, HS.out, (fun g o e => by cases e), Below.refl _ _⟩
  | some ad =>
    obtain ⟨n, hn⟩ : ∃ n, ls.length = n := ⟨_, rfl⟩
    have HN := Lib.hid hn
    rw [hn] at HL
    rw [hn]
    clear hn
    have he := eqn_s (some ad) n c w
    simp only [Option.isNone_some] at he
    go_enter Try.func25, Try.ntmps25
    go_wp2_with (at_builtin; refine append_copy_s rfl (.tmp 5) (.tmp 6) rfl w.heap.size rfl (heap_alloc_new _ _) (some ad) ls n c rfl HN.out HX.out (HS.out.on (below_new _ _)) HL.out ?_; intro A1 c1 w1 hsh1 hm1 hg1 hl1; have HSH1 := Lib.hid hsh1; have HG1 := Lib.hid hg1; have HL1 := Lib.hid hl1; clear hsh1 hg1 hl1 hm1)
    go_ret
    refine ⟨A1, c1, by rw [HN.out]; rfl, HSH1.out, fun g o e => ?_, below_grown (below_new _ _) (Nat.le_refl _) HG1.out⟩
    obtain ⟨h1, h2⟩ := HL1.out g o e
    rw [World.size_alloc] at h1
    exact ⟨by omega, h2⟩
end Sg
end Go.Proofs.Ytganaidlpnnajaa
