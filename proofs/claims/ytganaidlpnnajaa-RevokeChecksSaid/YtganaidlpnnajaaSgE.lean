/-
  COPIES of numbers and short digests, and of a signature (gatepathref10.TwinSig). Written by wip/gen-sge.py.
-/
import Derived.Test.YtganaidlpnnajaaSgD
import Derived.Deep.RegionHeld3
import Derived.Deep.MidRow
namespace Go.Proofs.Ytganaidlpnnajaa
namespace Sg
open Go.RowKit Sha
set_option linter.unusedVariables false
set_option linter.unusedSimpArgs false
theorem Try.info_short : (Try.prog.info? 58).map (fun i => (i.zero, i.size, i.bytes)) = some (some (.agg (bcells (List.replicate 16 0))), 16, 16) := by kernel_rfl
theorem there_row {w : World} {g : Nat} {cur : Array Value} {T : TypeId} (h : w.heap[g]? = some (.cells cur T (0, 0))) (n : Nat) (hn : n ≤ cur.size) : w.there g 0 n := fun j hj => by
  rw [Nat.zero_add]
  refine ⟨?_, frozen_of_row _ _ _ _ _ h⟩
  rw [cell_of_row _ _ _ _ _ _ h, Array.getElem?_eq_getElem (by omega)]
  rfl
theorem below_setCells {n g : Nat} {u : World} : ∀ (vs : List Value) (o : Nat) (w : World), Below n u w → n ≤ g → Below n u (w.setCells g o vs)
  | [], _, _, h, _ => h
  | v :: r, o, w, h, hg => by
    rw [World.setCells]
    exact below_setCells r (o + 1) _ (h.trans ⟨rfl, rfl, rfl, by simp [World.setCell], fun k hk => Below.heap_setCell _ _ _ _ (by show k ≠ g; omega)⟩) hg
theorem flat_len (ls : List (List UInt8)) (h : ∀ l ∈ ls, l.length = 16) : ls.flatten.length = 16 * ls.length := by
  induction ls with
  | nil => rfl
  | cons a r ih => rw [List.flatten_cons, List.length_append, h a (List.mem_cons_self ..), ih fun l hl => h l (List.mem_cons_of_mem _ hl), List.length_cons]; omega
theorem flat_at : ∀ (ls : List (List UInt8)), (∀ l ∈ ls, l.length = 16) → ∀ i l, ls[i]? = some l → ∀ j x, l[j]? = some x → ls.flatten[16 * i + j]? = some x
  | [], _, i, l, h, _, _, _ => by simp at h
  | a :: r, hl, 0, l, h, j, x, hj => by
    obtain rfl : a = l := by simpa using h
    rw [List.flatten_cons, List.getElem?_append_left (by have := (List.getElem?_eq_some_iff.1 hj).1; omega), Nat.mul_zero, Nat.zero_add]
    exact hj
  | a :: r, hl, i + 1, l, h, j, x, hj => by
    have ha := hl a (List.mem_cons_self ..)
    rw [List.flatten_cons, List.getElem?_append_right (by omega), ha, show 16 * (i + 1) + j - 16 = 16 * i + j by omega]
    exact flat_at r (fun l hl' => hl l (List.mem_cons_of_mem _ hl')) i l (by simpa using h) j x hj
theorem shorts_own {w : World} {b : Nat} {v : Value} {ls : List (List UInt8)} (hl : ∀ l ∈ ls, l.length = 16) (h : w.ownsRow b 58 16 v ls.length (bvals ls.flatten)) : ∃ A c, v = .slice A ls.length c ∧ ls.length ≤ c ∧ (A = none → c = 0) ∧ Shs A ls w := by
  obtain ⟨h1, ⟨rfl, h2⟩ | ⟨g, cap, cur, rfl, h3, h4, h5, h6, h7, h8⟩⟩ := h
  · have : ls = [] := List.length_eq_zero_iff.1 h2
    subst this
    exact ⟨none, 0, rfl, Nat.le_refl _, fun _ => rfl, fun i l hi => by simp at hi, fun l hl => by simp at hl⟩
  · refine ⟨some ⟨g, 0, none⟩, cap, rfl, h5, (fun e => by cases e), fun i l hi => ⟨g, 0, rfl, fun j u hj => ?_⟩, hl⟩
    unfold bvals at hj
    rw [List.getElem?_map] at hj
    obtain ⟨x, hx, rfl⟩ := Option.map_eq_some_iff.1 hj
    have hf := flat_at ls hl i l hi j x hx
    rw [cell_of_row w g _ cur _ _ h4, Nat.zero_add, ← Array.getElem?_toList]
    have h9 : (cur.toList.take (ls.length * 16))[16 * i + j]? = some (.int .u8 (x.toNat : Int)) := by
      rw [h8]
      unfold bvals
      rw [List.getElem?_map, hf]
      rfl
    rw [List.getElem?_take] at h9
    split at h9
    · exact h9
    · cases h9
theorem shorts_grown {A : Option Addr} {ls : List (List UInt8)} {w V : World} {u : Option Nat} (h : Shs A ls w) (hg : w.grownBy V u) (hne : ∀ g o, A = some ⟨g, o, none⟩ → u ≠ some g) : Shs A ls V :=
  ⟨fun i l hi => by
    obtain ⟨g, o, e, hr⟩ := h.row i l hi
    refine ⟨g, o, e, fun j v hv => ?_⟩
    have h1 := hr j v hv
    have hlt : g < w.heap.size := World.block_lt_of_cell? _ _ h1
    have hb := hg.block g hlt (fun e2 => hne g o e e2.symm)
    have h2 : V.cell? ⟨g, o + 16 * i + j, none⟩ = w.cell? ⟨g, o + 16 * i + j, none⟩ := by
      simp only [World.cell?, hb]
    rw [h2]
    exact h1, h.len⟩
theorem heap_setCells {g : Nat} {T : TypeId} : ∀ (vs : List Value) (o : Nat) (w : World) (cur : Array Value), w.heap[g]? = some (.cells cur T (0, 0)) → ∃ cur', (w.setCells g o vs).heap[g]? = some (.cells cur' T (0, 0)) ∧ cur'.size = cur.size
  | [], _, _, cur, h => ⟨cur, h, rfl⟩
  | v :: r, o, w, cur, h => by
    rw [World.setCells]
    obtain ⟨c2, h2, h3⟩ := heap_setCells r (o + 1) _ _ (heap_setCell_same w g o cur T v h)
    exact ⟨c2, h2, by rw [h3]; simp⟩
theorem row_setCells {w : World} {g : Nat} {cur cs : Array Value} {T : TypeId} (h : w.heap[g]? = some (.cells cur T (0, 0))) (hn : cur.size = cs.size) : (w.setCells g 0 cs.toList).heap[g]? = some (.cells cs T (0, 0)) := by
  obtain ⟨c2, h2, h3⟩ := heap_setCells cs.toList 0 w cur h
  have hr := World.rangeAt_setCells_same w g 0 cs.toList (there_row h _ (by rw [Array.length_toList, hn]; exact Nat.le_refl _))
  have he : c2 = cs := by
    apply Array.ext
    · rw [h3, hn]
    · intro j h4 h5
      have h6 := hr j cs[j] (by simp [h5])
      rw [Nat.zero_add, cell_of_row _ _ _ _ _ _ h2, Array.getElem?_eq_getElem h4] at h6
      exact Option.some.inj h6
  rw [h2, he]
theorem heap_setCells_other {g b : Nat} : ∀ (vs : List Value) (o : Nat) (w : World), b ≠ g → (w.setCells g o vs).heap[b]? = w.heap[b]?
  | [], _, _, _ => rfl
  | v :: r, o, w, h => by
    rw [World.setCells, heap_setCells_other r (o + 1) _ h]
    exact Below.heap_setCell _ _ _ _ h
theorem sz3 (n : Int) (A B : Value) : (Try.prog.info? 28).map (·.size) = some (#[.int .i64 n, A, B] : Array Value).size := by
  show _ = some 3
  kernel_rfl
theorem run_copy (w : World) (Y : Nat) (hY : w.heap[Y]? = some (.cells #[] 58 (0, 0))) (ty : TypeId) (B : Option Addr) (ls : List (List UInt8)) (m c : Nat) (hm : ls.length = m) (hB : B = none → c = 0) (hsh : Shs B ls w) (h63 : m ≤ 100000) :
    ∃ A' c' w', (Builtin.append_ #[26, 26] ty #[.slice (some ⟨Y, 0, none⟩) 0 0, .slice B m c]).run Try.prog w = .ok (.slice A' m c') w' ∧ Shs A' ls w' ∧ m ≤ c' ∧ w.grownBy w' (some Y) ∧ (∀ g o, A' = some ⟨g, o, none⟩ → (g = Y ∨ g = w.heap.size) ∧ g < w'.heap.size) := by
  have hlt : Y < w.heap.size := (Array.getElem?_eq_some_iff.1 hY).1
  have hown : w.ownsRow Y 58 16 (.slice (some ⟨Y, 0, none⟩) 0 0) 0 [] := ⟨rfl, .inr ⟨Y, 0, #[], rfl, Nat.le_refl _, hY, Nat.le_refl _, Nat.zero_le _, rfl, rfl⟩⟩
  obtain ⟨i0, hi, hz0, hz1, hz2⟩ := info_parts Try.info_short
  have fin : ∀ v' w', (Builtin.append_ #[26, 26] ty #[.slice (some ⟨Y, 0, none⟩) 0 0, .slice B m c]).run Try.prog w = .ok v' w' → w'.ownsRow Y 58 16 v' m (bvals ls.flatten) → w.grownBy w' (some Y) → (v'.ownBlock = some Y ∨ v'.ownBlock = some w.heap.size) → ∃ A' c' w', (Builtin.append_ #[26, 26] ty #[.slice (some ⟨Y, 0, none⟩) 0 0, .slice B m c]).run Try.prog w = .ok (.slice A' m c') w' ∧ Shs A' ls w' ∧ m ≤ c' ∧ w.grownBy w' (some Y) ∧ (∀ g o, A' = some ⟨g, o, none⟩ → (g = Y ∨ g = w.heap.size) ∧ g < w'.heap.size) := fun v' w' h0 h1 h2 h3 => by
    subst hm
    have h5 := h1.lt
    obtain ⟨A', c', rfl, h6, _, h4⟩ := shorts_own hsh.len h1
    refine ⟨A', c', w', h0, h4, h6, h2, fun g o e => ?_⟩
    subst e
    refine ⟨?_, (h5 g rfl).2⟩
    rcases h3 with h3 | h3
    · exact .inl (Option.some.inj h3)
    · exact .inr (Option.some.inj h3)
  cases B with
  | none =>
    have hls : ls = [] := by
      cases ls with
      | nil => rfl
      | cons y r =>
        obtain ⟨g, o, e, _⟩ := hsh.row 0 y rfl
        cases e
    subst hls
    subst hm
    obtain rfl := hB rfl
    exact fin _ w (run_append_owned_none (P := Try.prog) (w := w) Y 26 ty 58 i0 16 Try.underlying26 hi _ 0 [] hown) hown (World.grownBy.refl _ _) (.inl rfl)
  | some ad =>
    have hcells : ∀ j u, (bvals ls.flatten)[j]? = some u → w.cell? (ad.add j) = some u := fun j u hj => by
      unfold bvals at hj
      rw [List.getElem?_map] at hj
      obtain ⟨y, hy, rfl⟩ := Option.map_eq_some_iff.1 hj
      have hjl := (List.getElem?_eq_some_iff.1 hy).1
      rw [flat_len ls hsh.len] at hjl
      have hq := List.getElem?_eq_getElem (show j / 16 < ls.length by omega)
      obtain ⟨l, hl⟩ : ∃ l, ls[j / 16]? = some l := ⟨_, hq⟩
      obtain ⟨g, o, e, hr⟩ := hsh.row (j / 16) l hl
      obtain rfl := Option.some.inj e
      have hl16 := hsh.len l (List.mem_of_getElem? hl)
      obtain ⟨z, hz⟩ : ∃ z, l[j % 16]? = some z := ⟨_, List.getElem?_eq_getElem (by omega)⟩
      have hf := flat_at ls hsh.len (j / 16) l hl (j % 16) z hz
      rw [show 16 * (j / 16) + j % 16 = j by omega, hy] at hf
      obtain rfl := Option.some.inj hf
      have h9 := hr (j % 16) (.int .u8 (y.toNat : Int)) (by unfold bvals; rw [List.getElem?_map, hz]; rfl)
      rw [Nat.add_assoc, show 16 * (j / 16) + j % 16 = j by omega] at h9
      rw [add_eq]
      exact h9
    obtain ⟨v', w', h0, h1, h2, _, h3⟩ := run_append_own_at (P := Try.prog) w Y 26 ty 58 i0 (.agg (bcells (List.replicate 16 0))) 16 16 Try.underlying26 hi hz0 hz1 hz2 rfl (by decide) _ 0 [] hown ad m c (bvals ls.flatten) (by rw [bvals_len, flat_len ls hsh.len, hm, Nat.mul_comm]) hcells (fun u hu => by
      unfold bvals at hu
      obtain ⟨x, _, rfl⟩ := List.mem_map.1 hu
      rfl) (by unfold maxLen; omega) (by omega) (Nat.le_of_lt hlt)
    rw [Nat.zero_add, List.nil_append] at h1
    exact fin v' w' h0 h1 h2 h3
theorem wp_append_copy {w : World} {o : Oper} {a : Act} {K : Act → World → Prop} {Q : Exit → Act → World → Prop} (s x : Operand)
    (ho : o.op = .call { callee := .builtin .append, args := #[s, x], argTypes := #[26, 26] }) (Y : Nat) (hs : a.eval s = .slice (some ⟨Y, 0, none⟩) 0 0) (hY : w.heap[Y]? = some (.cells #[] 58 (0, 0)))
    (B : Option Addr) (ls : List (List UInt8)) (m c : Nat) (hx : a.eval x = .slice B m c) (hm : ls.length = m) (hB : B = none → c = 0) (hsh : Shs B ls w) (h63 : m ≤ 100000)
    (h : ∀ A' c' w', Shs A' ls w' → m ≤ c' → w.grownBy w' (some Y) → (∀ g o, A' = some ⟨g, o, none⟩ → (g = Y ∨ g = w.heap.size) ∧ g < w'.heap.size) → K (a.put o.dst (.slice A' m c')) w') : o.wp Try.prog a w K Q := by
  obtain ⟨A', c', w', hr, h1, h6, h2, h3⟩ := run_copy w Y hY o.type B ls m c hm hB hsh h63
  unfold Oper.wp execOp
  simp only [ho, resolve, invoke, builtin, Sem.run_bind, Sem.run_pure, Result.andThen_ok, List.map_toArray, List.map_cons, List.map_nil, hs, hx, hr]
  exact h A' c' w' h1 h6 h2 h3
theorem rangeAt_setCells_far {z : World} {X Y o : Nat} {cs : List Value} (h : z.rangeAt X o cs) (o2 : Nat) (vs : List Value) (hne : X ≠ Y) : (z.setCells Y o2 vs).rangeAt X o cs :=
  World.rangeAt_setCells_apart h _ _ _ (.inl hne)
theorem shorts_setCells {A : Option Addr} {ls : List (List UInt8)} {w : World} {X : Nat} (h : Shs A ls w) (hne : ∀ g o, A = some ⟨g, o, none⟩ → g ≠ X) (o : Nat) (vs : List Value) : Shs A ls (w.setCells X o vs) :=
  ⟨fun i l hi => by
    obtain ⟨g, o1, e, hr⟩ := h.row i l hi
    exact ⟨g, o1, e, rangeAt_setCells_far hr _ _ (hne g o1 e)⟩, h.len⟩
def TwinPost (n : Int) (cs ps : List (List UInt8)) (w : World) (e : Ending) (w' : World) : Prop := ∃ A1 A2 c1 c2, e = .returned (.agg #[.int .i64 n, .slice A1 cs.length c1, .slice A2 ps.length c2]) ∧ Shs A1 cs w' ∧ Shs A2 ps w' ∧ Below w.heap.size w w' ∧ cs.length ≤ c1 ∧ ps.length ≤ c2
set_option maxRecDepth 100000 in
set_option maxHeartbeats 4000000 in
theorem twin_ref (n : Int) (CA PA : Option Addr) (cs ps : List (List UInt8)) (cc pc : Nat) (hcn : CA = none → cc = 0) (hpn : PA = none → pc = 0) (hl : cs.length ≤ 100000 ∧ ps.length ≤ 100000) (w : World) (hsc : Shs CA cs w) (hsp : Shs PA ps w) :
    Calls Try.prog 21 #[.agg #[.int .i64 n, .slice CA cs.length cc, .slice PA ps.length pc]] w (TwinPost n cs ps w) := by
  have HCN := Lib.hid hcn
  have HPN := Lib.hid hpn
  have HLL := Lib.hid hl
  have HSC := Lib.hid hsc
  have HSP := Lib.hid hsp
  clear hcn hpn hl hsc hsp
  go_enter Try.func21, Try.ntmps21
  go_upto_region 1 with (fail)
  generalize hV : World.alloc (World.alloc w _) _ = V
  have hb0 : Below w.heap.size w V := by rw [← hV]; exact (below_new _ _).alloc (by simp) _
  have hr0 : V.heap[w.heap.size]? = some (.cells #[.int .i64 n, .slice CA cs.length cc, .slice PA ps.length pc] 28 (0, 0)) := by rw [← hV]; exact heap_alloc2_old _ _ _
  have hr1 : V.heap[w.heap.size + 1]? = some (.cells #[.int .i64 0, .slice none 0 0, .slice none 0 0] 28 (0, 0)) := by rw [← hV]; exact (heap_alloc2_new _ _ _).trans rfl
  obtain ⟨U, hU⟩ : ∃ U, V.drew = U := ⟨_, rfl⟩
  have hbU : Below V.heap.size V U := by rw [← hU]; exact (Below.refl _ _).drew
  have HWU := Lib.hid (chain hb0 hbU)
  have HSG := Lib.hid (row_on hr0 hbU)
  have HRR := Lib.hid (row_on hr1 hbU)
  have HLE : RowKit.Hid (w.heap.size + 1 < U.heap.size) := Lib.hid (Array.getElem?_eq_some_iff.1 HRR.out).1
  have mkS : ∀ z, Below U.heap.size U z → z.cell? ⟨w.heap.size, 0, none⟩ = some (.int .i64 n) ∧ z.cell? ⟨w.heap.size, 1, none⟩ = some (.slice CA cs.length cc) ∧ z.cell? ⟨w.heap.size, 2, none⟩ = some (.slice PA ps.length pc) := fun z hz => (facts3 (row_on HSG.out hz)).2
  have hS0 : V.drew.cell? ⟨w.heap.size, 0, none⟩ = some (.int .i64 n) ∧ V.drew.cell? ⟨w.heap.size, 1, none⟩ = some (.slice CA cs.length cc) ∧ V.drew.cell? ⟨w.heap.size, 2, none⟩ = some (.slice PA ps.length pc) := by rw [hU]; exact mkS _ (Below.refl _ _)
  clear hV hb0 hr0 hr1 hbU
  refine wp_region_held_drew (S := fun z => z.cell? ⟨w.heap.size, 0, none⟩ = some (.int .i64 n) ∧ z.cell? ⟨w.heap.size, 1, none⟩ = some (.slice CA cs.length cc) ∧ z.cell? ⟨w.heap.size, 2, none⟩ = some (.slice PA ps.length pc)) (by kernel_rfl) hS0 (fun hHeld => ?_)
  rw [hU] at hHeld ⊢
  clear hS0 hU
  refine wpAnyH_take (i := 0) (oi := { dst := Option.some 3, op := Go.Op.fieldAddr 28 (Go.Operand.tmp 1) 0, type := 0, pos := "ref.go:286", after := #[], guard := Option.none }) (v := ?_) rfl (by kernel_rfl) (by kernel_rfl) (by kernel_rfl) (fun _ _ _ h => h) (Or.inl ⟨by rfl, ?_⟩) hHeld ?_
  rotate_left
  · intro w hSw
    clear hSw
    go_simp
    try with_reducible rfl
  try simp only [Act.put, List.setIfInBounds_toArray, List.set_cons_zero, List.set_cons_succ]
  refine wpAnyH_take (i := 1) (oi := { dst := Option.some 4, op := Go.Op.load 3 (Go.Operand.tmp 3), type := 3, pos := "ref.go:286", after := #[{ on := 0, ground := Go.Ground.data }], guard := Option.none }) (v := ?_) rfl (by kernel_rfl) (by kernel_rfl) (by kernel_rfl) (fun _ _ _ h => h) (Or.inl ⟨by rfl, ?_⟩) hHeld ?_
  rotate_left
  · intro w hSw
    have hfc0 := hSw.1
    clear hSw
    go_simp
    try with_reducible rfl
  try simp only [Act.put, List.setIfInBounds_toArray, List.set_cons_zero, List.set_cons_succ]
  refine wpAnyH_take (i := 3) (oi := { dst := Option.some 6, op := Go.Op.fieldAddr 28 (Go.Operand.tmp 1) 1, type := 0, pos := "ref.go:286", after := #[], guard := Option.none }) (v := ?_) rfl (by kernel_rfl) (by kernel_rfl) (by kernel_rfl) (fun _ _ _ h => h) (Or.inl ⟨by rfl, ?_⟩) hHeld ?_
  rotate_left
  · intro w hSw
    clear hSw
    go_simp
    try with_reducible rfl
  try simp only [Act.put, List.setIfInBounds_toArray, List.set_cons_zero, List.set_cons_succ]
  refine wpAnyH_take (i := 4) (oi := { dst := Option.some 7, op := Go.Op.load 26 (Go.Operand.tmp 6), type := 26, pos := "ref.go:286", after := #[{ on := 3, ground := Go.Ground.data }], guard := Option.none }) (v := ?_) rfl (by kernel_rfl) (by kernel_rfl) (by kernel_rfl) (fun _ _ _ h => h) (Or.inl ⟨by rfl, ?_⟩) hHeld ?_
  rotate_left
  · intro w hSw
    have hfc0 := hSw.2.1
    clear hSw
    go_simp
    try with_reducible rfl
  try simp only [Act.put, List.setIfInBounds_toArray, List.set_cons_zero, List.set_cons_succ]
  refine wpAnyH_take (i := 7) (oi := { dst := Option.some 10, op := Go.Op.fieldAddr 28 (Go.Operand.tmp 1) 2, type := 0, pos := "ref.go:286", after := #[], guard := Option.none }) (v := ?_) rfl (by kernel_rfl) (by kernel_rfl) (by kernel_rfl) (fun _ _ _ h => h) (Or.inl ⟨by rfl, ?_⟩) hHeld ?_
  rotate_left
  · intro w hSw
    clear hSw
    go_simp
    try with_reducible rfl
  try simp only [Act.put, List.setIfInBounds_toArray, List.set_cons_zero, List.set_cons_succ]
  refine wpAnyH_take (i := 8) (oi := { dst := Option.some 11, op := Go.Op.load 26 (Go.Operand.tmp 10), type := 26, pos := "ref.go:286", after := #[{ on := 7, ground := Go.Ground.data }], guard := Option.none }) (v := ?_) rfl (by kernel_rfl) (by kernel_rfl) (by kernel_rfl) (fun _ _ _ h => h) (Or.inl ⟨by rfl, ?_⟩) hHeld ?_
  rotate_left
  · intro w hSw
    have hfc0 := hSw.2.2
    clear hSw
    go_simp
    try with_reducible rfl
  try simp only [Act.put, List.setIfInBounds_toArray, List.set_cons_zero, List.set_cons_succ]
  refine wpAnyH_ready (rs := [2, 6]) (by kernel_rfl) (by simp) (AllReadyH.cons (o := { dst := Option.some 5, op := Go.Op.buildSlice 26 0 #[], type := 26, pos := "ref.go:286", after := #[], guard := Option.none }) rfl (fun K hK => ?_) (AllReadyH.cons (o := { dst := Option.some 9, op := Go.Op.buildSlice 26 0 #[], type := 26, pos := "ref.go:286", after := #[], guard := Option.none }) rfl (fun K hK => ?_) AllReadyH.nil))
  · go_simp
    generalize hq : World.alloc _ _ = z0
    have rz0 : z0.heap[U.heap.size]? = some (.cells #[] 58 (0, 0)) := by rw [← hq]; exact heap_alloc_new _ _
    have nz0 : Below U.heap.size U z0 := by rw [← hq]; exact below_new _ _
    have sz0 : U.heap.size < z0.heap.size := by rw [← hq]; simp
    have bz0 : Below U.heap.size U z0 := nz0
    clear hq
    refine hK.out _ _ (mkS _ bz0) (fun hHeld2 => ?_)
    clear hK K hHeld
    have hHeld := hHeld2
    clear hHeld2
    try simp only [Act.put, List.setIfInBounds_toArray, List.set_cons_zero, List.set_cons_succ]
    refine wpAnyH_ready (rs := [5, 6]) (by kernel_rfl) (by simp) (AllReadyH.cons (o := { dst := Option.some 8, op := Go.Op.call { callee := Go.Callee.builtin Go.Builtin.append, args := #[Go.Operand.tmp 5, Go.Operand.tmp 7], argTypes := #[26, 26] }, type := 26, pos := "ref.go:286", after := #[{ on := 2, ground := Go.Ground.data }, { on := 4, ground := Go.Ground.data }], guard := Option.none }) rfl (fun K hK => ?_) (AllReadyH.cons (o := { dst := Option.some 9, op := Go.Op.buildSlice 26 0 #[], type := 26, pos := "ref.go:286", after := #[], guard := Option.none }) rfl (fun K hK => ?_) AllReadyH.nil))
    · try rw [if_pos (by rfl)]
      refine wp_append_copy (.tmp 5) (.tmp 7) rfl U.heap.size rfl (rz0) CA cs _ cc rfl rfl HCN.out (HSC.out.on (chain HWU.out bz0)) (by have := HLL.out; omega) ?_
      intro A1 c1 z1 hA1 mA1 gz1 lA1
      have bz1 : Below U.heap.size U z1 := bz0.grown gz1 bz0.size (fun j hj => by have hj2 := Option.some.inj hj; have := bz0.size; have := bz0.size;  omega)
      refine hK.out _ _ (mkS _ bz1) (fun hHeld2 => ?_)
      clear hK K hHeld
      have hHeld := hHeld2
      clear hHeld2
      try simp only [Act.put, List.setIfInBounds_toArray, List.set_cons_zero, List.set_cons_succ]
      refine wpAnyH_ready (rs := [6]) (by kernel_rfl) (by simp) (AllReadyH.cons (o := { dst := Option.some 9, op := Go.Op.buildSlice 26 0 #[], type := 26, pos := "ref.go:286", after := #[], guard := Option.none }) rfl (fun K hK => ?_) AllReadyH.nil)
      go_simp
      generalize hq : World.alloc _ _ = z2
      have rz2 : z2.heap[z1.heap.size]? = some (.cells #[] 58 (0, 0)) := by rw [← hq]; exact heap_alloc_new _ _
      have nz2 : Below z1.heap.size z1 z2 := by rw [← hq]; exact below_new _ _
      have sz2 : z1.heap.size < z2.heap.size := by rw [← hq]; simp
      have bz2 : Below U.heap.size U z2 := chain bz1 nz2
      clear hq
      refine hK.out _ _ (mkS _ bz2) (fun hHeld2 => ?_)
      clear hK K hHeld
      have hHeld := hHeld2
      clear hHeld2
      try simp only [Act.put, List.setIfInBounds_toArray, List.set_cons_zero, List.set_cons_succ]
      refine wpAnyH_ready (rs := [9]) (by kernel_rfl) (by simp) (AllReadyH.cons (o := { dst := Option.some 12, op := Go.Op.call { callee := Go.Callee.builtin Go.Builtin.append, args := #[Go.Operand.tmp 9, Go.Operand.tmp 11], argTypes := #[26, 26] }, type := 26, pos := "ref.go:286", after := #[{ on := 6, ground := Go.Ground.data }, { on := 8, ground := Go.Ground.data }, { on := 5, ground := Go.Ground.chain }], guard := Option.none }) rfl (fun K hK => ?_) AllReadyH.nil)
      try rw [if_pos (by rfl)]
      refine wp_append_copy (.tmp 9) (.tmp 11) rfl z1.heap.size rfl (rz2) PA ps _ pc rfl rfl HPN.out (HSP.out.on (chain HWU.out bz2)) (by have := HLL.out; omega) ?_
      intro A2 c2 z3 hA2 mA2 gz3 lA2
      have bz3 : Below U.heap.size U z3 := bz2.grown gz3 bz2.size (fun j hj => by have hj2 := Option.some.inj hj; have := bz2.size; have := bz0.size; have := bz1.size; omega)
      refine hK.out _ _ (mkS _ bz3) (fun hHeld2 => ?_)
      clear hK K hHeld
      have hHeld := hHeld2
      clear hHeld2
      try simp only [Act.put, List.setIfInBounds_toArray, List.set_cons_zero, List.set_cons_succ]
      have hs1 : Shs A1 cs z3 := shorts_grown (hA1.on nz2) gz3 (fun g o e h => by have h1 := lA1 g o e; have h2 := Option.some.inj h; omega)
      refine wpAnyH_take (i := 10) (oi := { dst := Option.some 13, op := Go.Op.build 28 #[(0, Go.Operand.tmp 4), (1, Go.Operand.tmp 8), (2, Go.Operand.tmp 12)], type := 28, pos := "ref.go:286", after := #[{ on := 1, ground := Go.Ground.data }, { on := 5, ground := Go.Ground.data }, { on := 9, ground := Go.Ground.data }], guard := Option.none }) (v := ?_) rfl (by kernel_rfl) (by kernel_rfl) (by kernel_rfl) (fun _ _ _ h => h) (Or.inl ⟨by rfl, ?_⟩) hHeld ?_
      rotate_left
      · intro w hSw
        clear hSw
        go_simp
        try with_reducible rfl
      try simp only [Act.put, List.setIfInBounds_toArray, List.set_cons_zero, List.set_cons_succ]
      refine wpAnyH_ready (rs := [11]) (by kernel_rfl) (by simp) (AllReadyH.cons (o := { dst := Option.none, op := Go.Op.store 28 (Go.Operand.tmp 2) (Go.Operand.tmp 13), type := 0, pos := "ref.go:286", after := #[{ on := 10, ground := Go.Ground.data }, { on := 9, ground := Go.Ground.chain }, { on := 0, ground := Go.Ground.phase }, { on := 1, ground := Go.Ground.phase }, { on := 2, ground := Go.Ground.phase }, { on := 3, ground := Go.Ground.phase }, { on := 4, ground := Go.Ground.phase }, { on := 5, ground := Go.Ground.phase }, { on := 6, ground := Go.Ground.phase }, { on := 7, ground := Go.Ground.phase }, { on := 8, ground := Go.Ground.phase }, { on := 9, ground := Go.Ground.phase }, { on := 10, ground := Go.Ground.phase }], guard := Option.none }) rfl (fun K hK => ?_) AllReadyH.nil)
      try rw [if_pos (by rfl)]
      have HR3 := Lib.hid (row_on HRR.out bz3)
      refine wp_store_mid 28 (.tmp 2) (.tmp 13) rfl (w.heap.size + 1) 0 #[.int .i64 n, .slice A1 cs.length c1, .slice A2 ps.length c2] rfl rfl (there_row HR3.out 3 (by decide)) (sz3 _ _ _) (by simp [Value.oneCell']) ?_
      have HR4 := Lib.hid (row_setCells HR3.out (cs := #[.int .i64 n, .slice A1 cs.length c1, .slice A2 ps.length c2]) rfl)
      have HB4 := Lib.hid (below_setCells [.int .i64 n, .slice A1 cs.length c1, .slice A2 ps.length c2] 0 _ (chain HWU.out bz3) (show w.heap.size ≤ w.heap.size + 1 by omega))
      have HS41 := Lib.hid (shorts_setCells hs1 (X := w.heap.size + 1) (fun g o e => by have h1 := lA1 g o e; have h2 := HLE.out; have h3 := bz0.size; have h4 := bz1.size; have h5 := bz2.size; omega) 0 [.int .i64 n, .slice A1 cs.length c1, .slice A2 ps.length c2])
      have HS42 := Lib.hid (shorts_setCells hA2 (X := w.heap.size + 1) (fun g o e => by have h1 := lA2 g o e; have h2 := HLE.out; have h3 := bz0.size; have h4 := bz1.size; have h5 := bz2.size; omega) 0 [.int .i64 n, .slice A1 cs.length c1, .slice A2 ps.length c2])
      refine hK.out _ _ (facts3 ((heap_setCells_other _ _ _ (by omega)).trans (row_on HSG.out bz3))).2 (fun hHeld2 => ?_)
      clear hK K hHeld hHeld2
      try simp only [Act.put, List.setIfInBounds_toArray, List.set_cons_zero, List.set_cons_succ]
      refine wpAnyH_done (by kernel_rfl) ?_ _
      generalize World.setCells _ _ _ _ = z9 at HR4 HB4 HS41 HS42 ⊢
      clear mkS
      go_wp2_with fail
      refine bodyPost_ret (v := .agg #[.int .i64 n, .slice A1 cs.length c1, .slice A2 ps.length c2]) (results_cell_row rfl _ _ (w.heap.size + 1) 28 _ (0, 0) _ rfl HR4.out Try.underlying28 rfl (sz3 _ _ _)) rfl ⟨A1, A2, c1, c2, rfl, HS41.out, HS42.out, HB4.out, mA1, mA2⟩
    · go_simp
      generalize hq : World.alloc _ _ = z1
      have rz1 : z1.heap[z0.heap.size]? = some (.cells #[] 58 (0, 0)) := by rw [← hq]; exact heap_alloc_new _ _
      have nz1 : Below z0.heap.size z0 z1 := by rw [← hq]; exact below_new _ _
      have sz1 : z0.heap.size < z1.heap.size := by rw [← hq]; simp
      have bz1 : Below U.heap.size U z1 := chain bz0 nz1
      clear hq
      refine hK.out _ _ (mkS _ bz1) (fun hHeld2 => ?_)
      clear hK K hHeld
      have hHeld := hHeld2
      clear hHeld2
      try simp only [Act.put, List.setIfInBounds_toArray, List.set_cons_zero, List.set_cons_succ]
      refine wpAnyH_ready (rs := [5]) (by kernel_rfl) (by simp) (AllReadyH.cons (o := { dst := Option.some 8, op := Go.Op.call { callee := Go.Callee.builtin Go.Builtin.append, args := #[Go.Operand.tmp 5, Go.Operand.tmp 7], argTypes := #[26, 26] }, type := 26, pos := "ref.go:286", after := #[{ on := 2, ground := Go.Ground.data }, { on := 4, ground := Go.Ground.data }], guard := Option.none }) rfl (fun K hK => ?_) AllReadyH.nil)
      try rw [if_pos (by rfl)]
      refine wp_append_copy (.tmp 5) (.tmp 7) rfl U.heap.size rfl ((nz1.block _ (Array.getElem?_eq_some_iff.1 rz0).1).trans rz0) CA cs _ cc rfl rfl HCN.out (HSC.out.on (chain HWU.out bz1)) (by have := HLL.out; omega) ?_
      intro A1 c1 z2 hA1 mA1 gz2 lA1
      have bz2 : Below U.heap.size U z2 := bz1.grown gz2 bz1.size (fun j hj => by have hj2 := Option.some.inj hj; have := bz1.size; have := bz0.size;  omega)
      refine hK.out _ _ (mkS _ bz2) (fun hHeld2 => ?_)
      clear hK K hHeld
      have hHeld := hHeld2
      clear hHeld2
      try simp only [Act.put, List.setIfInBounds_toArray, List.set_cons_zero, List.set_cons_succ]
      have rq : z2.heap[z0.heap.size]? = some (.cells #[] 58 (0, 0)) := (gz2.block _ (by omega) (fun e => by have e2 := Option.some.inj e; omega)).trans rz1
      refine wpAnyH_ready (rs := [9]) (by kernel_rfl) (by simp) (AllReadyH.cons (o := { dst := Option.some 12, op := Go.Op.call { callee := Go.Callee.builtin Go.Builtin.append, args := #[Go.Operand.tmp 9, Go.Operand.tmp 11], argTypes := #[26, 26] }, type := 26, pos := "ref.go:286", after := #[{ on := 6, ground := Go.Ground.data }, { on := 8, ground := Go.Ground.data }, { on := 5, ground := Go.Ground.chain }], guard := Option.none }) rfl (fun K hK => ?_) AllReadyH.nil)
      try rw [if_pos (by rfl)]
      refine wp_append_copy (.tmp 9) (.tmp 11) rfl z0.heap.size rfl (rq) PA ps _ pc rfl rfl HPN.out (HSP.out.on (chain HWU.out bz2)) (by have := HLL.out; omega) ?_
      intro A2 c2 z3 hA2 mA2 gz3 lA2
      have bz3 : Below U.heap.size U z3 := bz2.grown gz3 bz2.size (fun j hj => by have hj2 := Option.some.inj hj; have := bz2.size; have := bz0.size;  omega)
      refine hK.out _ _ (mkS _ bz3) (fun hHeld2 => ?_)
      clear hK K hHeld
      have hHeld := hHeld2
      clear hHeld2
      try simp only [Act.put, List.setIfInBounds_toArray, List.set_cons_zero, List.set_cons_succ]
      have hs1 : Shs A1 cs z3 := shorts_grown hA1 gz3 (fun g o e h => by have h1 := lA1 g o e; have h2 := Option.some.inj h; omega)
      refine wpAnyH_take (i := 10) (oi := { dst := Option.some 13, op := Go.Op.build 28 #[(0, Go.Operand.tmp 4), (1, Go.Operand.tmp 8), (2, Go.Operand.tmp 12)], type := 28, pos := "ref.go:286", after := #[{ on := 1, ground := Go.Ground.data }, { on := 5, ground := Go.Ground.data }, { on := 9, ground := Go.Ground.data }], guard := Option.none }) (v := ?_) rfl (by kernel_rfl) (by kernel_rfl) (by kernel_rfl) (fun _ _ _ h => h) (Or.inl ⟨by rfl, ?_⟩) hHeld ?_
      rotate_left
      · intro w hSw
        clear hSw
        go_simp
        try with_reducible rfl
      try simp only [Act.put, List.setIfInBounds_toArray, List.set_cons_zero, List.set_cons_succ]
      refine wpAnyH_ready (rs := [11]) (by kernel_rfl) (by simp) (AllReadyH.cons (o := { dst := Option.none, op := Go.Op.store 28 (Go.Operand.tmp 2) (Go.Operand.tmp 13), type := 0, pos := "ref.go:286", after := #[{ on := 10, ground := Go.Ground.data }, { on := 9, ground := Go.Ground.chain }, { on := 0, ground := Go.Ground.phase }, { on := 1, ground := Go.Ground.phase }, { on := 2, ground := Go.Ground.phase }, { on := 3, ground := Go.Ground.phase }, { on := 4, ground := Go.Ground.phase }, { on := 5, ground := Go.Ground.phase }, { on := 6, ground := Go.Ground.phase }, { on := 7, ground := Go.Ground.phase }, { on := 8, ground := Go.Ground.phase }, { on := 9, ground := Go.Ground.phase }, { on := 10, ground := Go.Ground.phase }], guard := Option.none }) rfl (fun K hK => ?_) AllReadyH.nil)
      try rw [if_pos (by rfl)]
      have HR3 := Lib.hid (row_on HRR.out bz3)
      refine wp_store_mid 28 (.tmp 2) (.tmp 13) rfl (w.heap.size + 1) 0 #[.int .i64 n, .slice A1 cs.length c1, .slice A2 ps.length c2] rfl rfl (there_row HR3.out 3 (by decide)) (sz3 _ _ _) (by simp [Value.oneCell']) ?_
      have HR4 := Lib.hid (row_setCells HR3.out (cs := #[.int .i64 n, .slice A1 cs.length c1, .slice A2 ps.length c2]) rfl)
      have HB4 := Lib.hid (below_setCells [.int .i64 n, .slice A1 cs.length c1, .slice A2 ps.length c2] 0 _ (chain HWU.out bz3) (show w.heap.size ≤ w.heap.size + 1 by omega))
      have HS41 := Lib.hid (shorts_setCells hs1 (X := w.heap.size + 1) (fun g o e => by have h1 := lA1 g o e; have h2 := HLE.out; have h3 := bz0.size; have h4 := bz1.size; have h5 := bz2.size; omega) 0 [.int .i64 n, .slice A1 cs.length c1, .slice A2 ps.length c2])
      have HS42 := Lib.hid (shorts_setCells hA2 (X := w.heap.size + 1) (fun g o e => by have h1 := lA2 g o e; have h2 := HLE.out; have h3 := bz0.size; have h4 := bz1.size; have h5 := bz2.size; omega) 0 [.int .i64 n, .slice A1 cs.length c1, .slice A2 ps.length c2])
      refine hK.out _ _ (facts3 ((heap_setCells_other _ _ _ (by omega)).trans (row_on HSG.out bz3))).2 (fun hHeld2 => ?_)
      clear hK K hHeld hHeld2
      try simp only [Act.put, List.setIfInBounds_toArray, List.set_cons_zero, List.set_cons_succ]
      refine wpAnyH_done (by kernel_rfl) ?_ _
      generalize World.setCells _ _ _ _ = z9 at HR4 HB4 HS41 HS42 ⊢
      clear mkS
      go_wp2_with fail
      refine bodyPost_ret (v := .agg #[.int .i64 n, .slice A1 cs.length c1, .slice A2 ps.length c2]) (results_cell_row rfl _ _ (w.heap.size + 1) 28 _ (0, 0) _ rfl HR4.out Try.underlying28 rfl (sz3 _ _ _)) rfl ⟨A1, A2, c1, c2, rfl, HS41.out, HS42.out, HB4.out, mA1, mA2⟩
  · go_simp
    generalize hq : World.alloc _ _ = z0
    have rz0 : z0.heap[U.heap.size]? = some (.cells #[] 58 (0, 0)) := by rw [← hq]; exact heap_alloc_new _ _
    have nz0 : Below U.heap.size U z0 := by rw [← hq]; exact below_new _ _
    have sz0 : U.heap.size < z0.heap.size := by rw [← hq]; simp
    have bz0 : Below U.heap.size U z0 := nz0
    clear hq
    refine hK.out _ _ (mkS _ bz0) (fun hHeld2 => ?_)
    clear hK K hHeld
    have hHeld := hHeld2
    clear hHeld2
    try simp only [Act.put, List.setIfInBounds_toArray, List.set_cons_zero, List.set_cons_succ]
    refine wpAnyH_ready (rs := [2]) (by kernel_rfl) (by simp) (AllReadyH.cons (o := { dst := Option.some 5, op := Go.Op.buildSlice 26 0 #[], type := 26, pos := "ref.go:286", after := #[], guard := Option.none }) rfl (fun K hK => ?_) AllReadyH.nil)
    go_simp
    generalize hq : World.alloc _ _ = z1
    have rz1 : z1.heap[z0.heap.size]? = some (.cells #[] 58 (0, 0)) := by rw [← hq]; exact heap_alloc_new _ _
    have nz1 : Below z0.heap.size z0 z1 := by rw [← hq]; exact below_new _ _
    have sz1 : z0.heap.size < z1.heap.size := by rw [← hq]; simp
    have bz1 : Below U.heap.size U z1 := chain bz0 nz1
    clear hq
    refine hK.out _ _ (mkS _ bz1) (fun hHeld2 => ?_)
    clear hK K hHeld
    have hHeld := hHeld2
    clear hHeld2
    try simp only [Act.put, List.setIfInBounds_toArray, List.set_cons_zero, List.set_cons_succ]
    refine wpAnyH_ready (rs := [5]) (by kernel_rfl) (by simp) (AllReadyH.cons (o := { dst := Option.some 8, op := Go.Op.call { callee := Go.Callee.builtin Go.Builtin.append, args := #[Go.Operand.tmp 5, Go.Operand.tmp 7], argTypes := #[26, 26] }, type := 26, pos := "ref.go:286", after := #[{ on := 2, ground := Go.Ground.data }, { on := 4, ground := Go.Ground.data }], guard := Option.none }) rfl (fun K hK => ?_) AllReadyH.nil)
    try rw [if_pos (by rfl)]
    refine wp_append_copy (.tmp 5) (.tmp 7) rfl z0.heap.size rfl (rz1) CA cs _ cc rfl rfl HCN.out (HSC.out.on (chain HWU.out bz1)) (by have := HLL.out; omega) ?_
    intro A1 c1 z2 hA1 mA1 gz2 lA1
    have bz2 : Below U.heap.size U z2 := bz1.grown gz2 bz1.size (fun j hj => by have hj2 := Option.some.inj hj; have := bz1.size; have := bz0.size;  omega)
    refine hK.out _ _ (mkS _ bz2) (fun hHeld2 => ?_)
    clear hK K hHeld
    have hHeld := hHeld2
    clear hHeld2
    try simp only [Act.put, List.setIfInBounds_toArray, List.set_cons_zero, List.set_cons_succ]
    have rq : z2.heap[U.heap.size]? = some (.cells #[] 58 (0, 0)) := (gz2.block _ (by omega) (fun e => by have e2 := Option.some.inj e; omega)).trans ((nz1.block _ (by omega)).trans rz0)
    refine wpAnyH_ready (rs := [9]) (by kernel_rfl) (by simp) (AllReadyH.cons (o := { dst := Option.some 12, op := Go.Op.call { callee := Go.Callee.builtin Go.Builtin.append, args := #[Go.Operand.tmp 9, Go.Operand.tmp 11], argTypes := #[26, 26] }, type := 26, pos := "ref.go:286", after := #[{ on := 6, ground := Go.Ground.data }, { on := 8, ground := Go.Ground.data }, { on := 5, ground := Go.Ground.chain }], guard := Option.none }) rfl (fun K hK => ?_) AllReadyH.nil)
    try rw [if_pos (by rfl)]
    refine wp_append_copy (.tmp 9) (.tmp 11) rfl U.heap.size rfl (rq) PA ps _ pc rfl rfl HPN.out (HSP.out.on (chain HWU.out bz2)) (by have := HLL.out; omega) ?_
    intro A2 c2 z3 hA2 mA2 gz3 lA2
    have bz3 : Below U.heap.size U z3 := bz2.grown gz3 bz2.size (fun j hj => by have hj2 := Option.some.inj hj; have := bz2.size; have := bz0.size;  omega)
    refine hK.out _ _ (mkS _ bz3) (fun hHeld2 => ?_)
    clear hK K hHeld
    have hHeld := hHeld2
    clear hHeld2
    try simp only [Act.put, List.setIfInBounds_toArray, List.set_cons_zero, List.set_cons_succ]
    have hs1 : Shs A1 cs z3 := shorts_grown hA1 gz3 (fun g o e h => by have h1 := lA1 g o e; have h2 := Option.some.inj h; omega)
    refine wpAnyH_take (i := 10) (oi := { dst := Option.some 13, op := Go.Op.build 28 #[(0, Go.Operand.tmp 4), (1, Go.Operand.tmp 8), (2, Go.Operand.tmp 12)], type := 28, pos := "ref.go:286", after := #[{ on := 1, ground := Go.Ground.data }, { on := 5, ground := Go.Ground.data }, { on := 9, ground := Go.Ground.data }], guard := Option.none }) (v := ?_) rfl (by kernel_rfl) (by kernel_rfl) (by kernel_rfl) (fun _ _ _ h => h) (Or.inl ⟨by rfl, ?_⟩) hHeld ?_
    rotate_left
    · intro w hSw
      clear hSw
      go_simp
      try with_reducible rfl
    try simp only [Act.put, List.setIfInBounds_toArray, List.set_cons_zero, List.set_cons_succ]
    refine wpAnyH_ready (rs := [11]) (by kernel_rfl) (by simp) (AllReadyH.cons (o := { dst := Option.none, op := Go.Op.store 28 (Go.Operand.tmp 2) (Go.Operand.tmp 13), type := 0, pos := "ref.go:286", after := #[{ on := 10, ground := Go.Ground.data }, { on := 9, ground := Go.Ground.chain }, { on := 0, ground := Go.Ground.phase }, { on := 1, ground := Go.Ground.phase }, { on := 2, ground := Go.Ground.phase }, { on := 3, ground := Go.Ground.phase }, { on := 4, ground := Go.Ground.phase }, { on := 5, ground := Go.Ground.phase }, { on := 6, ground := Go.Ground.phase }, { on := 7, ground := Go.Ground.phase }, { on := 8, ground := Go.Ground.phase }, { on := 9, ground := Go.Ground.phase }, { on := 10, ground := Go.Ground.phase }], guard := Option.none }) rfl (fun K hK => ?_) AllReadyH.nil)
    try rw [if_pos (by rfl)]
    have HR3 := Lib.hid (row_on HRR.out bz3)
    refine wp_store_mid 28 (.tmp 2) (.tmp 13) rfl (w.heap.size + 1) 0 #[.int .i64 n, .slice A1 cs.length c1, .slice A2 ps.length c2] rfl rfl (there_row HR3.out 3 (by decide)) (sz3 _ _ _) (by simp [Value.oneCell']) ?_
    have HR4 := Lib.hid (row_setCells HR3.out (cs := #[.int .i64 n, .slice A1 cs.length c1, .slice A2 ps.length c2]) rfl)
    have HB4 := Lib.hid (below_setCells [.int .i64 n, .slice A1 cs.length c1, .slice A2 ps.length c2] 0 _ (chain HWU.out bz3) (show w.heap.size ≤ w.heap.size + 1 by omega))
    have HS41 := Lib.hid (shorts_setCells hs1 (X := w.heap.size + 1) (fun g o e => by have h1 := lA1 g o e; have h2 := HLE.out; have h3 := bz0.size; have h4 := bz1.size; have h5 := bz2.size; omega) 0 [.int .i64 n, .slice A1 cs.length c1, .slice A2 ps.length c2])
    have HS42 := Lib.hid (shorts_setCells hA2 (X := w.heap.size + 1) (fun g o e => by have h1 := lA2 g o e; have h2 := HLE.out; have h3 := bz0.size; have h4 := bz1.size; have h5 := bz2.size; omega) 0 [.int .i64 n, .slice A1 cs.length c1, .slice A2 ps.length c2])
    refine hK.out _ _ (facts3 ((heap_setCells_other _ _ _ (by omega)).trans (row_on HSG.out bz3))).2 (fun hHeld2 => ?_)
    clear hK K hHeld hHeld2
    try simp only [Act.put, List.setIfInBounds_toArray, List.set_cons_zero, List.set_cons_succ]
    refine wpAnyH_done (by kernel_rfl) ?_ _
    generalize World.setCells _ _ _ _ = z9 at HR4 HB4 HS41 HS42 ⊢
    clear mkS
    go_wp2_with fail
    refine bodyPost_ret (v := .agg #[.int .i64 n, .slice A1 cs.length c1, .slice A2 ps.length c2]) (results_cell_row rfl _ _ (w.heap.size + 1) 28 _ (0, 0) _ rfl HR4.out Try.underlying28 rfl (sz3 _ _ _)) rfl ⟨A1, A2, c1, c2, rfl, HS41.out, HS42.out, HB4.out, mA1, mA2⟩
end Sg
end Go.Proofs.Ytganaidlpnnajaa
