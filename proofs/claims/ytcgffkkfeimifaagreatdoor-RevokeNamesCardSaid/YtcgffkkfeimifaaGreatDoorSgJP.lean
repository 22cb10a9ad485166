import Derived.Test.YtcgffkkfeimifaaGreatDoorSgBI
import Derived.Deep.RegionHeld3
import Derived.Deep.MidRow
import Derived.Test.YtcgffkkfeimifaaGreatDoorOcKP
namespace Go.Proofs.YtcgffkkfeimifaaGreatDoor
namespace Sg
open Go.RowKit Sha
set_option linter.unusedVariables false
set_option linter.unusedSimpArgs false
end Sg
end Go.Proofs.YtcgffkkfeimifaaGreatDoor
namespace Go.Proofs.YtcgffkkfeimifaaGreatDoor
namespace Sg
open Go.RowKit Sha
set_option linter.unusedVariables false
set_option linter.unusedSimpArgs false
theorem Tryz.info_short : (Tryz.prog.info? 41).map (fun i => (i.zero, i.size, i.bytes)) = some (some (.agg (bcells (List.replicate 16 0))), 16, 16) := by kernel_rfl
theorem there_row {w : World} {g : Nat} {cur : Array Value} {T : TypeId} (h : w.heap[g]? = some (.cells cur T (0, 0))) (n : Nat) (hn : n ≤ cur.size) : w.there g 0 n := fun j hj => by
 rw [Nat.zero_add]
 refine ⟨?_, frozen_of_row _ _ _ _ _ h⟩
 rw [cell_of_row _ _ _ _ _ _ h, Array.getElem?_eq_getElem (by omega)]
 rfl
theorem below_setCells {n g : Nat} {u : World} : ∀ (vs : List Value) (o : Nat) (w : World), Below n u w → n ≤ g → Below n u (w.setCells g o vs)
 | [], _, _, h, _ => h
 | v :: r, o, w, h, hg => by
  rw [World.setCells]
  exact below_setCells r (o + 1) _ (h.trans ⟨rfl, rfl, rfl, by simp [World.setCell], fun k hk => Below.heap_setCell _ _ _ _ (by show k ≠ g; omega)⟩) hg
theorem flat_len (ls : List (List UInt8)) (h : ∀ l ∈ ls, l.length = 16) : ls.flatten.length = 16 * ls.length := by
 induction ls with
 | nil => rfl
 | cons a r ih => rw [List.flatten_cons, List.length_append, h a (List.mem_cons_self ..), ih fun l hl => h l (List.mem_cons_of_mem _ hl), List.length_cons]; omega
theorem flat_at : ∀ (ls : List (List UInt8)), (∀ l ∈ ls, l.length = 16) → ∀ i l, ls[i]? = some l → ∀ j x, l[j]? = some x → ls.flatten[16 * i + j]? = some x
 | [], _, i, l, h, _, _, _ => by simp at h
 | a :: r, hl, 0, l, h, j, x, hj => by
  obtain rfl : a = l := by simpa using h
  rw [List.flatten_cons, List.getElem?_append_left (by have := (List.getElem?_eq_some_iff.1 hj).1; omega), Nat.mul_zero, Nat.zero_add]
  exact hj
 | a :: r, hl, i + 1, l, h, j, x, hj => by
  have ha := hl a (List.mem_cons_self ..)
  rw [List.flatten_cons, List.getElem?_append_right (by omega), ha, show 16 * (i + 1) + j - 16 = 16 * i + j by omega]
  exact flat_at r (fun l hl' => hl l (List.mem_cons_of_mem _ hl')) i l (by simpa using h) j x hj
theorem shorts_own {w : World} {b : Nat} {v : Value} {ls : List (List UInt8)} (hl : ∀ l ∈ ls, l.length = 16) (h : w.ownsRow b 41 16 v ls.length (bvals ls.flatten)) : ∃ A c, v = .slice A ls.length c ∧ ls.length ≤ c ∧ (A = none → c = 0) ∧ Shs A ls w := by
 obtain ⟨h1, ⟨rfl, h2⟩ | ⟨g, cap, cur, rfl, h3, h4, h5, h6, h7, h8⟩⟩ := h
 ·
  have : ls = [] := List.length_eq_zero_iff.1 h2
  subst this
  exact ⟨none, 0, rfl, Nat.le_refl _, fun _ => rfl, fun i l hi => by simp at hi, fun l hl => by simp at hl⟩
 ·
  refine ⟨some ⟨g, 0, none⟩, cap, rfl, h5, (fun e => by cases e), fun i l hi => ⟨g, 0, rfl, fun j u hj => ?_⟩, hl⟩
  unfold bvals at hj
  rw [List.getElem?_map] at hj
  obtain ⟨x, hx, rfl⟩ := Option.map_eq_some_iff.1 hj
  have hf := flat_at ls hl i l hi j x hx
  rw [cell_of_row w g _ cur _ _ h4, Nat.zero_add, ← Array.getElem?_toList]
  have h9 : (cur.toList.take (ls.length * 16))[16 * i + j]? = some (.int .u8 (x.toNat : Int)) := by
   rw [h8]
   unfold bvals
   rw [List.getElem?_map, hf]
   rfl
  rw [List.getElem?_take] at h9
  split at h9
  ·
   exact h9
  ·
   cases h9
theorem shorts_grown {A : Option Addr} {ls : List (List UInt8)} {w V : World} {u : Option Nat} (h : Shs A ls w) (hg : w.grownBy V u) (hne : ∀ g o, A = some ⟨g, o, none⟩ → u ≠ some g) : Shs A ls V :=
 ⟨fun i l hi => by
  obtain ⟨g, o, e, hr⟩ := h.row i l hi
  refine ⟨g, o, e, fun j v hv => ?_⟩
  have h1 := hr j v hv
  have hlt : g < w.heap.size := World.block_lt_of_cell? _ _ h1
  have hb := hg.block g hlt (fun e2 => hne g o e e2.symm)
  have h2 : V.cell? ⟨g, o + 16 * i + j, none⟩ = w.cell? ⟨g, o + 16 * i + j, none⟩ := by
   simp only [World.cell?, hb]
  rw [h2]
  exact h1, h.len⟩
theorem heap_setCells {g : Nat} {T : TypeId} : ∀ (vs : List Value) (o : Nat) (w : World) (cur : Array Value), w.heap[g]? = some (.cells cur T (0, 0)) → ∃ cur', (w.setCells g o vs).heap[g]? = some (.cells cur' T (0, 0)) ∧ cur'.size = cur.size
 | [], _, _, cur, h => ⟨cur, h, rfl⟩
 | v :: r, o, w, cur, h => by
  rw [World.setCells]
  obtain ⟨c2, h2, h3⟩ := heap_setCells r (o + 1) _ _ (heap_setCell_same w g o cur T v h)
  exact ⟨c2, h2, by rw [h3]; simp⟩
theorem row_setCells {w : World} {g : Nat} {cur cs : Array Value} {T : TypeId} (h : w.heap[g]? = some (.cells cur T (0, 0))) (hn : cur.size = cs.size) : (w.setCells g 0 cs.toList).heap[g]? = some (.cells cs T (0, 0)) := by
 obtain ⟨c2, h2, h3⟩ := heap_setCells cs.toList 0 w cur h
 have hr := World.rangeAt_setCells_same w g 0 cs.toList (there_row h _ (by rw [Array.length_toList, hn]; exact Nat.le_refl _))
 have he : c2 = cs := by
  apply Array.ext
  ·
   rw [h3, hn]
  ·
   intro j h4 h5
   have h6 := hr j cs[j] (by simp [h5])
   rw [Nat.zero_add, cell_of_row _ _ _ _ _ _ h2, Array.getElem?_eq_getElem h4] at h6
   exact Option.some.inj h6
 rw [h2, he]
theorem heap_setCells_other {g b : Nat} : ∀ (vs : List Value) (o : Nat) (w : World), b ≠ g → (w.setCells g o vs).heap[b]? = w.heap[b]?
 | [], _, _, _ => rfl
 | v :: r, o, w, h => by
  rw [World.setCells, heap_setCells_other r (o + 1) _ h]
  exact Below.heap_setCell _ _ _ _ h
theorem sz3 (n : Int) (A B : Value) : (Tryz.prog.info? 30).map (·.size) = some (#[.int .i64 n, A, B] : Array Value).size := by
 show _ = some 3
 kernel_rfl
theorem run_copy (w : World) (Y : Nat) (hY : w.heap[Y]? = some (.cells #[] 41 (0, 0))) (ty : TypeId) (B : Option Addr) (ls : List (List UInt8)) (m c : Nat) (hm : ls.length = m) (hB : B = none → c = 0) (hsh : Shs B ls w) (h63 : m ≤ 100000) :
  ∃ A' c' w', (Builtin.append_ #[28, 28] ty #[.slice (some ⟨Y, 0, none⟩) 0 0, .slice B m c]).run Tryz.prog w = .ok (.slice A' m c') w' ∧ Shs A' ls w' ∧ m ≤ c' ∧ w.grownBy w' (some Y) ∧ (∀ g o, A' = some ⟨g, o, none⟩ → (g = Y ∨ g = w.heap.size) ∧ g < w'.heap.size) := by
 have hlt : Y < w.heap.size := (Array.getElem?_eq_some_iff.1 hY).1
 have hown : w.ownsRow Y 41 16 (.slice (some ⟨Y, 0, none⟩) 0 0) 0 [] := ⟨rfl, .inr ⟨Y, 0, #[], rfl, Nat.le_refl _, hY, Nat.le_refl _, Nat.zero_le _, rfl, rfl⟩⟩
 obtain ⟨i0, hi, hz0, hz1, hz2⟩ := info_parts Tryz.info_short
 have fin : ∀ v' w', (Builtin.append_ #[28, 28] ty #[.slice (some ⟨Y, 0, none⟩) 0 0, .slice B m c]).run Tryz.prog w = .ok v' w' → w'.ownsRow Y 41 16 v' m (bvals ls.flatten) → w.grownBy w' (some Y) → (v'.ownBlock = some Y ∨ v'.ownBlock = some w.heap.size) → ∃ A' c' w', (Builtin.append_ #[28, 28] ty #[.slice (some ⟨Y, 0, none⟩) 0 0, .slice B m c]).run Tryz.prog w = .ok (.slice A' m c') w' ∧ Shs A' ls w' ∧ m ≤ c' ∧ w.grownBy w' (some Y) ∧ (∀ g o, A' = some ⟨g, o, none⟩ → (g = Y ∨ g = w.heap.size) ∧ g < w'.heap.size) := fun v' w' h0 h1 h2 h3 => by
  subst hm
  have h5 := h1.lt
  obtain ⟨A', c', rfl, h6, _, h4⟩ := shorts_own hsh.len h1
  refine ⟨A', c', w', h0, h4, h6, h2, fun g o e => ?_⟩
  subst e
  refine ⟨?_, (h5 g rfl).2⟩
  rcases h3 with h3 | h3
  ·
   exact .inl (Option.some.inj h3)
  ·
   exact .inr (Option.some.inj h3)
 cases B with
 | none =>
  have hls : ls = [] := by
   cases ls with
   | nil => rfl
   | cons y r =>
    obtain ⟨g, o, e, _⟩ := hsh.row 0 y rfl
    cases e
  subst hls
  subst hm
  obtain rfl := hB rfl
  exact fin _ w (run_append_owned_none (P := Tryz.prog) (w := w) Y 28 ty 41 i0 16 Tryz.underlying28 hi _ 0 [] hown) hown (World.grownBy.refl _ _) (.inl rfl)
 | some ad =>
  have hcells : ∀ j u, (bvals ls.flatten)[j]? = some u → w.cell? (ad.add j) = some u := fun j u hj => by
   unfold bvals at hj
   rw [List.getElem?_map] at hj
   obtain ⟨y, hy, rfl⟩ := Option.map_eq_some_iff.1 hj
   have hjl := (List.getElem?_eq_some_iff.1 hy).1
   rw [flat_len ls hsh.len] at hjl
   have hq := List.getElem?_eq_getElem (show j / 16 < ls.length by omega)
   obtain ⟨l, hl⟩ : ∃ l, ls[j / 16]? = some l := ⟨_, hq⟩
   obtain ⟨g, o, e, hr⟩ := hsh.row (j / 16) l hl
   obtain rfl := Option.some.inj e
   have hl16 := hsh.len l (List.mem_of_getElem? hl)
   obtain ⟨z, hz⟩ : ∃ z, l[j % 16]? = some z := ⟨_, List.getElem?_eq_getElem (by omega)⟩
   have hf := flat_at ls hsh.len (j / 16) l hl (j % 16) z hz
   rw [show 16 * (j / 16) + j % 16 = j by omega, hy] at hf
   obtain rfl := Option.some.inj hf
   have h9 := hr (j % 16) (.int .u8 (y.toNat : Int)) (by unfold bvals; rw [List.getElem?_map, hz]; rfl)
   rw [Nat.add_assoc, show 16 * (j / 16) + j % 16 = j by omega] at h9
   rw [add_eq]
   exact h9
  obtain ⟨v', w', h0, h1, h2, _, h3⟩ := run_append_own_at (P := Tryz.prog) w Y 28 ty 41 i0 (.agg (bcells (List.replicate 16 0))) 16 16 Tryz.underlying28 hi hz0 hz1 hz2 rfl (by decide) _ 0 [] hown ad m c (bvals ls.flatten) (by rw [bvals_len, flat_len ls hsh.len, hm, Nat.mul_comm]) hcells (fun u hu => by
   unfold bvals at hu
   obtain ⟨x, _, rfl⟩ := List.mem_map.1 hu
   rfl) (by unfold maxLen; omega) (by omega) (Nat.le_of_lt hlt)
  rw [Nat.zero_add, List.nil_append] at h1
  exact fin v' w' h0 h1 h2 h3
theorem wp_append_copy {w : World} {o : Oper} {a : Act} {K : Act → World → Prop} {Q : Exit → Act → World → Prop} (s x : Operand)
  (ho : o.op = .call { callee := .builtin .append, args := #[s, x], argTypes := #[28, 28] }) (Y : Nat) (hs : a.eval s = .slice (some ⟨Y, 0, none⟩) 0 0) (hY : w.heap[Y]? = some (.cells #[] 41 (0, 0)))
  (B : Option Addr) (ls : List (List UInt8)) (m c : Nat) (hx : a.eval x = .slice B m c) (hm : ls.length = m) (hB : B = none → c = 0) (hsh : Shs B ls w) (h63 : m ≤ 100000)
  (h : ∀ A' c' w', Shs A' ls w' → m ≤ c' → w.grownBy w' (some Y) → (∀ g o, A' = some ⟨g, o, none⟩ → (g = Y ∨ g = w.heap.size) ∧ g < w'.heap.size) → K (a.put o.dst (.slice A' m c')) w') : o.wp Tryz.prog a w K Q := by
 obtain ⟨A', c', w', hr, h1, h6, h2, h3⟩ := run_copy w Y hY o.type B ls m c hm hB hsh h63
 unfold Oper.wp execOp
 simp only [ho, resolve, invoke, builtin, Sem.run_bind, Sem.run_pure, Result.andThen_ok, List.map_toArray, List.map_cons, List.map_nil, hs, hx, hr]
 exact h A' c' w' h1 h6 h2 h3
theorem rangeAt_setCells_far {z : World} {X Y o : Nat} {cs : List Value} (h : z.rangeAt X o cs) (o2 : Nat) (vs : List Value) (hne : X ≠ Y) : (z.setCells Y o2 vs).rangeAt X o cs :=
 World.rangeAt_setCells_apart h _ _ _ (.inl hne)
theorem shorts_setCells {A : Option Addr} {ls : List (List UInt8)} {w : World} {X : Nat} (h : Shs A ls w) (hne : ∀ g o, A = some ⟨g, o, none⟩ → g ≠ X) (o : Nat) (vs : List Value) : Shs A ls (w.setCells X o vs) :=
 ⟨fun i l hi => by
  obtain ⟨g, o1, e, hr⟩ := h.row i l hi
  exact ⟨g, o1, e, rangeAt_setCells_far hr _ _ (hne g o1 e)⟩, h.len⟩
def TwinPost (n : Int) (cs ps : List (List UInt8)) (w : World) (e : Ending) (w' : World) : Prop := ∃ A1 A2 c1 c2, e = .returned (.agg #[.int .i64 n, .slice A1 cs.length c1, .slice A2 ps.length c2]) ∧ Shs A1 cs w' ∧ Shs A2 ps w' ∧ Below w.heap.size w w' ∧ cs.length ≤ c1 ∧ ps.length ≤ c2
set_option maxRecDepth 100000 in
set_option maxHeartbeats 4000000 in
theorem twin_ref (n : Int) (CA PA : Option Addr) (cs ps : List (List UInt8)) (cc pc : Nat) (hcn : CA = none → cc = 0) (hpn : PA = none → pc = 0) (hl : cs.length ≤ 100000 ∧ ps.length ≤ 100000) (w : World) (hsc : Shs CA cs w) (hsp : Shs PA ps w) :
  Calls Tryz.prog 25 #[.agg #[.int .i64 n, .slice CA cs.length cc, .slice PA ps.length pc]] w (TwinPost n cs ps w) := by
 have HCN := Lib.hid hcn
 have HPN := Lib.hid hpn
 have HLL := Lib.hid hl
 have HSC := Lib.hid hsc
 have HSP := Lib.hid hsp
 clear hcn hpn hl hsc hsp
 go_enter Tryz.func25, Tryz.ntmps25
 go_upto_region 1 with (fail)
 generalize hV : World.alloc (World.alloc w _) _ = V
 have hb0 : Below w.heap.size w V := by rw [← hV]; exact (below_new _ _).alloc (by simp) _
 have hr0 : V.heap[w.heap.size]? = some (.cells #[.int .i64 n, .slice CA cs.length cc, .slice PA ps.length pc] 30 (0, 0)) := by rw [← hV]; exact heap_alloc2_old _ _ _
 have hr1 : V.heap[w.heap.size + 1]? = some (.cells #[.int .i64 0, .slice none 0 0, .slice none 0 0] 30 (0, 0)) := by rw [← hV]; exact (heap_alloc2_new _ _ _).trans rfl
 obtain ⟨U, hU⟩ : ∃ U, V.drew = U := ⟨_, rfl⟩
 have hbU : Below V.heap.size V U := by rw [← hU]; exact (Below.refl _ _).drew
 have HWU := Lib.hid (chain hb0 hbU)
 have HSG := Lib.hid (row_on hr0 hbU)
 have HRR := Lib.hid (row_on hr1 hbU)
 have HLE : RowKit.Hid (w.heap.size + 1 < U.heap.size) := Lib.hid (Array.getElem?_eq_some_iff.1 HRR.out).1
 have mkS : ∀ z, Below U.heap.size U z → z.cell? ⟨w.heap.size, 0, none⟩ = some (.int .i64 n) ∧ z.cell? ⟨w.heap.size, 1, none⟩ = some (.slice CA cs.length cc) ∧ z.cell? ⟨w.heap.size, 2, none⟩ = some (.slice PA ps.length pc) := fun z hz => (facts3 (row_on HSG.out hz)).2
 have hS0 : V.drew.cell? ⟨w.heap.size, 0, none⟩ = some (.int .i64 n) ∧ V.drew.cell? ⟨w.heap.size, 1, none⟩ = some (.slice CA cs.length cc) ∧ V.drew.cell? ⟨w.heap.size, 2, none⟩ = some (.slice PA ps.length pc) := by rw [hU]; exact mkS _ (Below.refl _ _)
 clear hV hb0 hr0 hr1 hbU
 refine wp_region_held_drew (S := fun z => z.cell? ⟨w.heap.size, 0, none⟩ = some (.int .i64 n) ∧ z.cell? ⟨w.heap.size, 1, none⟩ = some (.slice CA cs.length cc) ∧ z.cell? ⟨w.heap.size, 2, none⟩ = some (.slice PA ps.length pc)) (by kernel_rfl) hS0 (fun hHeld => ?_)
 rw [hU] at hHeld ⊢
 clear hS0 hU
 refine wpAnyH_take (i := 0) (oi := { dst := some 3, op := .fieldAddr 30 (.tmp 1) 0, type := 0, pos := "ref.go:286", after := #[], guard := none }) (v := ?_) rfl (by kernel_rfl) (by kernel_rfl) (by kernel_rfl) (fun _ _ _ h => h) (Or.inl ⟨by rfl, ?_⟩) hHeld ?_
 rotate_left
 ·
  intro w hSw
  clear hSw
  go_simp
  try with_reducible rfl
 try simp only [Act.put, List.setIfInBounds_toArray, List.set_cons_zero, List.set_cons_succ]
 refine wpAnyH_take (i := 1) (oi := { dst := some 4, op := .load 3 (.tmp 3), type := 3, pos := "ref.go:286", after := #[{ on := 0, ground := .data }], guard := none }) (v := ?_) rfl (by kernel_rfl) (by kernel_rfl) (by kernel_rfl) (fun _ _ _ h => h) (Or.inl ⟨by rfl, ?_⟩) hHeld ?_
 rotate_left
 ·
  intro w hSw
  have hfc0 := hSw.1
  clear hSw
  go_simp
  try with_reducible rfl
 try simp only [Act.put, List.setIfInBounds_toArray, List.set_cons_zero, List.set_cons_succ]
 refine wpAnyH_take (i := 3) (oi := { dst := some 6, op := .fieldAddr 30 (.tmp 1) 1, type := 0, pos := "ref.go:286", after := #[], guard := none }) (v := ?_) rfl (by kernel_rfl) (by kernel_rfl) (by kernel_rfl) (fun _ _ _ h => h) (Or.inl ⟨by rfl, ?_⟩) hHeld ?_
 rotate_left
 ·
  intro w hSw
  clear hSw
  go_simp
  try with_reducible rfl
 try simp only [Act.put, List.setIfInBounds_toArray, List.set_cons_zero, List.set_cons_succ]
 refine wpAnyH_take (i := 4) (oi := { dst := some 7, op := .load 28 (.tmp 6), type := 28, pos := "ref.go:286", after := #[{ on := 3, ground := .data }], guard := none }) (v := ?_) rfl (by kernel_rfl) (by kernel_rfl) (by kernel_rfl) (fun _ _ _ h => h) (Or.inl ⟨by rfl, ?_⟩) hHeld ?_
 rotate_left
 ·
  intro w hSw
  have hfc0 := hSw.2.1
  clear hSw
  go_simp
  try with_reducible rfl
 try simp only [Act.put, List.setIfInBounds_toArray, List.set_cons_zero, List.set_cons_succ]
 refine wpAnyH_take (i := 7) (oi := { dst := some 10, op := .fieldAddr 30 (.tmp 1) 2, type := 0, pos := "ref.go:286", after := #[], guard := none }) (v := ?_) rfl (by kernel_rfl) (by kernel_rfl) (by kernel_rfl) (fun _ _ _ h => h) (Or.inl ⟨by rfl, ?_⟩) hHeld ?_
 rotate_left
 ·
  intro w hSw
  clear hSw
  go_simp
  try with_reducible rfl
 try simp only [Act.put, List.setIfInBounds_toArray, List.set_cons_zero, List.set_cons_succ]
 refine wpAnyH_take (i := 8) (oi := { dst := some 11, op := .load 28 (.tmp 10), type := 28, pos := "ref.go:286", after := #[{ on := 7, ground := .data }], guard := none }) (v := ?_) rfl (by kernel_rfl) (by kernel_rfl) (by kernel_rfl) (fun _ _ _ h => h) (Or.inl ⟨by rfl, ?_⟩) hHeld ?_
 rotate_left
 ·
  intro w hSw
  have hfc0 := hSw.2.2
  clear hSw
  go_simp
  try with_reducible rfl
 try simp only [Act.put, List.setIfInBounds_toArray, List.set_cons_zero, List.set_cons_succ]
 refine wpAnyH_ready (rs := [2, 6]) (by kernel_rfl) (by simp) (AllReadyH.cons (o := { dst := some 5, op := .buildSlice 28 0 #[], type := 28, pos := "ref.go:286", after := #[], guard := none }) rfl (fun K hK => ?_) (AllReadyH.cons (o := { dst := some 9, op := .buildSlice 28 0 #[], type := 28, pos := "ref.go:286", after := #[], guard := none }) rfl (fun K hK => ?_) AllReadyH.nil))
 ·
  go_simp
  generalize hq : World.alloc _ _ = z0
  have rz0 : z0.heap[U.heap.size]? = some (.cells #[] 41 (0, 0)) := by rw [← hq]; exact heap_alloc_new _ _
  have nz0 : Below U.heap.size U z0 := by rw [← hq]; exact below_new _ _
  have sz0 : U.heap.size < z0.heap.size := by rw [← hq]; simp
  have bz0 : Below U.heap.size U z0 := nz0
  clear hq
  refine hK.out _ _ (mkS _ bz0) (fun hHeld2 => ?_)
  clear hK K hHeld
  have hHeld := hHeld2
  clear hHeld2
  try simp only [Act.put, List.setIfInBounds_toArray, List.set_cons_zero, List.set_cons_succ]
  refine wpAnyH_ready (rs := [5, 6]) (by kernel_rfl) (by simp) (AllReadyH.cons (o := { dst := some 8, op := .call { callee := .builtin .append, args := #[.tmp 5, .tmp 7], argTypes := #[28, 28] }, type := 28, pos := "ref.go:286", after := #[{ on := 2, ground := .data }, { on := 4, ground := .data }], guard := none }) rfl (fun K hK => ?_) (AllReadyH.cons (o := { dst := some 9, op := .buildSlice 28 0 #[], type := 28, pos := "ref.go:286", after := #[], guard := none }) rfl (fun K hK => ?_) AllReadyH.nil))
  ·
   try rw [if_pos (by rfl)]
   refine wp_append_copy (.tmp 5) (.tmp 7) rfl U.heap.size rfl (rz0) CA cs _ cc rfl rfl HCN.out (HSC.out.on (chain HWU.out bz0)) (by have := HLL.out; omega) ?_
   intro A1 c1 z1 hA1 mA1 gz1 lA1
   have bz1 : Below U.heap.size U z1 := bz0.grown gz1 bz0.size (fun j hj => by have hj2 := Option.some.inj hj; have := bz0.size; have := bz0.size;  omega)
   refine hK.out _ _ (mkS _ bz1) (fun hHeld2 => ?_)
   clear hK K hHeld
   have hHeld := hHeld2
   clear hHeld2
   try simp only [Act.put, List.setIfInBounds_toArray, List.set_cons_zero, List.set_cons_succ]
   refine wpAnyH_ready (rs := [6]) (by kernel_rfl) (by simp) (AllReadyH.cons (o := { dst := some 9, op := .buildSlice 28 0 #[], type := 28, pos := "ref.go:286", after := #[], guard := none }) rfl (fun K hK => ?_) AllReadyH.nil)
   go_simp
   generalize hq : World.alloc _ _ = z2
   have rz2 : z2.heap[z1.heap.size]? = some (.cells #[] 41 (0, 0)) := by rw [← hq]; exact heap_alloc_new _ _
   have nz2 : Below z1.heap.size z1 z2 := by rw [← hq]; exact below_new _ _
   have sz2 : z1.heap.size < z2.heap.size := by rw [← hq]; simp
   have bz2 : Below U.heap.size U z2 := chain bz1 nz2
   clear hq
   refine hK.out _ _ (mkS _ bz2) (fun hHeld2 => ?_)
   clear hK K hHeld
   have hHeld := hHeld2
   clear hHeld2
   try simp only [Act.put, List.setIfInBounds_toArray, List.set_cons_zero, List.set_cons_succ]
   refine wpAnyH_ready (rs := [9]) (by kernel_rfl) (by simp) (AllReadyH.cons (o := { dst := some 12, op := .call { callee := .builtin .append, args := #[.tmp 9, .tmp 11], argTypes := #[28, 28] }, type := 28, pos := "ref.go:286", after := #[{ on := 6, ground := .data }, { on := 8, ground := .data }, { on := 5, ground := .chain }], guard := none }) rfl (fun K hK => ?_) AllReadyH.nil)
   try rw [if_pos (by rfl)]
   refine wp_append_copy (.tmp 9) (.tmp 11) rfl z1.heap.size rfl (rz2) PA ps _ pc rfl rfl HPN.out (HSP.out.on (chain HWU.out bz2)) (by have := HLL.out; omega) ?_
   intro A2 c2 z3 hA2 mA2 gz3 lA2
   have bz3 : Below U.heap.size U z3 := bz2.grown gz3 bz2.size (fun j hj => by have hj2 := Option.some.inj hj; have := bz2.size; have := bz0.size; have := bz1.size; omega)
   refine hK.out _ _ (mkS _ bz3) (fun hHeld2 => ?_)
   clear hK K hHeld
   have hHeld := hHeld2
   clear hHeld2
   try simp only [Act.put, List.setIfInBounds_toArray, List.set_cons_zero, List.set_cons_succ]
   have hs1 : Shs A1 cs z3 := shorts_grown (hA1.on nz2) gz3 (fun g o e h => by have h1 := lA1 g o e; have h2 := Option.some.inj h; omega)
   refine wpAnyH_take (i := 10) (oi := { dst := some 13, op := .build 30 #[(0, .tmp 4), (1, .tmp 8), (2, .tmp 12)], type := 30, pos := "ref.go:286", after := #[{ on := 1, ground := .data }, { on := 5, ground := .data }, { on := 9, ground := .data }], guard := none }) (v := ?_) rfl (by kernel_rfl) (by kernel_rfl) (by kernel_rfl) (fun _ _ _ h => h) (Or.inl ⟨by rfl, ?_⟩) hHeld ?_
   rotate_left
   ·
    intro w hSw
    clear hSw
    go_simp
    try with_reducible rfl
   try simp only [Act.put, List.setIfInBounds_toArray, List.set_cons_zero, List.set_cons_succ]
   refine wpAnyH_ready (rs := [11]) (by kernel_rfl) (by simp) (AllReadyH.cons (o := { dst := none, op := .store 30 (.tmp 2) (.tmp 13), type := 0, pos := "ref.go:286", after := #[{ on := 10, ground := .data }, { on := 9, ground := .chain }, { on := 0, ground := .phase }, { on := 1, ground := .phase }, { on := 2, ground := .phase }, { on := 3, ground := .phase }, { on := 4, ground := .phase }, { on := 5, ground := .phase }, { on := 6, ground := .phase }, { on := 7, ground := .phase }, { on := 8, ground := .phase }, { on := 9, ground := .phase }, { on := 10, ground := .phase }], guard := none }) rfl (fun K hK => ?_) AllReadyH.nil)
   try rw [if_pos (by rfl)]
   have HR3 := Lib.hid (row_on HRR.out bz3)
   refine wp_store_mid 30 (.tmp 2) (.tmp 13) rfl (w.heap.size + 1) 0 #[.int .i64 n, .slice A1 cs.length c1, .slice A2 ps.length c2] rfl rfl (there_row HR3.out 3 (by decide)) (sz3 _ _ _) (by simp [Value.oneCell']) ?_
   have HR4 := Lib.hid (row_setCells HR3.out (cs := #[.int .i64 n, .slice A1 cs.length c1, .slice A2 ps.length c2]) rfl)
   have HB4 := Lib.hid (below_setCells [.int .i64 n, .slice A1 cs.length c1, .slice A2 ps.length c2] 0 _ (chain HWU.out bz3) (show w.heap.size ≤ w.heap.size + 1 by omega))
   have HS41 := Lib.hid (shorts_setCells hs1 (X := w.heap.size + 1) (fun g o e => by have h1 := lA1 g o e; have h2 := HLE.out; have h3 := bz0.size; have h4 := bz1.size; have h5 := bz2.size; omega) 0 [.int .i64 n, .slice A1 cs.length c1, .slice A2 ps.length c2])
   have HS42 := Lib.hid (shorts_setCells hA2 (X := w.heap.size + 1) (fun g o e => by have h1 := lA2 g o e; have h2 := HLE.out; have h3 := bz0.size; have h4 := bz1.size; have h5 := bz2.size; omega) 0 [.int .i64 n, .slice A1 cs.length c1, .slice A2 ps.length c2])
   refine hK.out _ _ (facts3 ((heap_setCells_other _ _ _ (by omega)).trans (row_on HSG.out bz3))).2 (fun hHeld2 => ?_)
   clear hK K hHeld hHeld2
   try simp only [Act.put, List.setIfInBounds_toArray, List.set_cons_zero, List.set_cons_succ]
   refine wpAnyH_done (by kernel_rfl) ?_ _
   generalize World.setCells _ _ _ _ = z9 at HR4 HB4 HS41 HS42 ⊢
   clear mkS
   go_wp2_with fail
   refine bodyPost_ret (v := .agg #[.int .i64 n, .slice A1 cs.length c1, .slice A2 ps.length c2]) (results_cell_row rfl _ _ (w.heap.size + 1) 30 _ (0, 0) _ rfl HR4.out Tryz.underlying30 rfl (sz3 _ _ _)) rfl ⟨A1, A2, c1, c2, rfl, HS41.out, HS42.out, HB4.out, mA1, mA2⟩
  ·
   go_simp
   generalize hq : World.alloc _ _ = z1
   have rz1 : z1.heap[z0.heap.size]? = some (.cells #[] 41 (0, 0)) := by rw [← hq]; exact heap_alloc_new _ _
   have nz1 : Below z0.heap.size z0 z1 := by rw [← hq]; exact below_new _ _
   have sz1 : z0.heap.size < z1.heap.size := by rw [← hq]; simp
   have bz1 : Below U.heap.size U z1 := chain bz0 nz1
   clear hq
   refine hK.out _ _ (mkS _ bz1) (fun hHeld2 => ?_)
   clear hK K hHeld
   have hHeld := hHeld2
   clear hHeld2
   try simp only [Act.put, List.setIfInBounds_toArray, List.set_cons_zero, List.set_cons_succ]
   refine wpAnyH_ready (rs := [5]) (by kernel_rfl) (by simp) (AllReadyH.cons (o := { dst := some 8, op := .call { callee := .builtin .append, args := #[.tmp 5, .tmp 7], argTypes := #[28, 28] }, type := 28, pos := "ref.go:286", after := #[{ on := 2, ground := .data }, { on := 4, ground := .data }], guard := none }) rfl (fun K hK => ?_) AllReadyH.nil)
   try rw [if_pos (by rfl)]
   refine wp_append_copy (.tmp 5) (.tmp 7) rfl U.heap.size rfl ((nz1.block _ (Array.getElem?_eq_some_iff.1 rz0).1).trans rz0) CA cs _ cc rfl rfl HCN.out (HSC.out.on (chain HWU.out bz1)) (by have := HLL.out; omega) ?_
   intro A1 c1 z2 hA1 mA1 gz2 lA1
   have bz2 : Below U.heap.size U z2 := bz1.grown gz2 bz1.size (fun j hj => by have hj2 := Option.some.inj hj; have := bz1.size; have := bz0.size;  omega)
   refine hK.out _ _ (mkS _ bz2) (fun hHeld2 => ?_)
   clear hK K hHeld
   have hHeld := hHeld2
   clear hHeld2
   try simp only [Act.put, List.setIfInBounds_toArray, List.set_cons_zero, List.set_cons_succ]
   have rq : z2.heap[z0.heap.size]? = some (.cells #[] 41 (0, 0)) := (gz2.block _ (by omega) (fun e => by have e2 := Option.some.inj e; omega)).trans rz1
   refine wpAnyH_ready (rs := [9]) (by kernel_rfl) (by simp) (AllReadyH.cons (o := { dst := some 12, op := .call { callee := .builtin .append, args := #[.tmp 9, .tmp 11], argTypes := #[28, 28] }, type := 28, pos := "ref.go:286", after := #[{ on := 6, ground := .data }, { on := 8, ground := .data }, { on := 5, ground := .chain }], guard := none }) rfl (fun K hK => ?_) AllReadyH.nil)
   try rw [if_pos (by rfl)]
   refine wp_append_copy (.tmp 9) (.tmp 11) rfl z0.heap.size rfl (rq) PA ps _ pc rfl rfl HPN.out (HSP.out.on (chain HWU.out bz2)) (by have := HLL.out; omega) ?_
   intro A2 c2 z3 hA2 mA2 gz3 lA2
   have bz3 : Below U.heap.size U z3 := bz2.grown gz3 bz2.size (fun j hj => by have hj2 := Option.some.inj hj; have := bz2.size; have := bz0.size;  omega)
   refine hK.out _ _ (mkS _ bz3) (fun hHeld2 => ?_)
   clear hK K hHeld
   have hHeld := hHeld2
   clear hHeld2
   try simp only [Act.put, List.setIfInBounds_toArray, List.set_cons_zero, List.set_cons_succ]
   have hs1 : Shs A1 cs z3 := shorts_grown hA1 gz3 (fun g o e h => by have h1 := lA1 g o e; have h2 := Option.some.inj h; omega)
   refine wpAnyH_take (i := 10) (oi := { dst := some 13, op := .build 30 #[(0, .tmp 4), (1, .tmp 8), (2, .tmp 12)], type := 30, pos := "ref.go:286", after := #[{ on := 1, ground := .data }, { on := 5, ground := .data }, { on := 9, ground := .data }], guard := none }) (v := ?_) rfl (by kernel_rfl) (by kernel_rfl) (by kernel_rfl) (fun _ _ _ h => h) (Or.inl ⟨by rfl, ?_⟩) hHeld ?_
   rotate_left
   ·
    intro w hSw
    clear hSw
    go_simp
    try with_reducible rfl
   try simp only [Act.put, List.setIfInBounds_toArray, List.set_cons_zero, List.set_cons_succ]
   refine wpAnyH_ready (rs := [11]) (by kernel_rfl) (by simp) (AllReadyH.cons (o := { dst := none, op := .store 30 (.tmp 2) (.tmp 13), type := 0, pos := "ref.go:286", after := #[{ on := 10, ground := .data }, { on := 9, ground := .chain }, { on := 0, ground := .phase }, { on := 1, ground := .phase }, { on := 2, ground := .phase }, { on := 3, ground := .phase }, { on := 4, ground := .phase }, { on := 5, ground := .phase }, { on := 6, ground := .phase }, { on := 7, ground := .phase }, { on := 8, ground := .phase }, { on := 9, ground := .phase }, { on := 10, ground := .phase }], guard := none }) rfl (fun K hK => ?_) AllReadyH.nil)
   try rw [if_pos (by rfl)]
   have HR3 := Lib.hid (row_on HRR.out bz3)
   refine wp_store_mid 30 (.tmp 2) (.tmp 13) rfl (w.heap.size + 1) 0 #[.int .i64 n, .slice A1 cs.length c1, .slice A2 ps.length c2] rfl rfl (there_row HR3.out 3 (by decide)) (sz3 _ _ _) (by simp [Value.oneCell']) ?_
   have HR4 := Lib.hid (row_setCells HR3.out (cs := #[.int .i64 n, .slice A1 cs.length c1, .slice A2 ps.length c2]) rfl)
   have HB4 := Lib.hid (below_setCells [.int .i64 n, .slice A1 cs.length c1, .slice A2 ps.length c2] 0 _ (chain HWU.out bz3) (show w.heap.size ≤ w.heap.size + 1 by omega))
   have HS41 := Lib.hid (shorts_setCells hs1 (X := w.heap.size + 1) (fun g o e => by have h1 := lA1 g o e; have h2 := HLE.out; have h3 := bz0.size; have h4 := bz1.size; have h5 := bz2.size; omega) 0 [.int .i64 n, .slice A1 cs.length c1, .slice A2 ps.length c2])
   have HS42 := Lib.hid (shorts_setCells hA2 (X := w.heap.size + 1) (fun g o e => by have h1 := lA2 g o e; have h2 := HLE.out; have h3 := bz0.size; have h4 := bz1.size; have h5 := bz2.size; omega) 0 [.int .i64 n, .slice A1 cs.length c1, .slice A2 ps.length c2])
   refine hK.out _ _ (facts3 ((heap_setCells_other _ _ _ (by omega)).trans (row_on HSG.out bz3))).2 (fun hHeld2 => ?_)
   clear hK K hHeld hHeld2
   try simp only [Act.put, List.setIfInBounds_toArray, List.set_cons_zero, List.set_cons_succ]
   refine wpAnyH_done (by kernel_rfl) ?_ _
   generalize World.setCells _ _ _ _ = z9 at HR4 HB4 HS41 HS42 ⊢
   clear mkS
   go_wp2_with fail
   refine bodyPost_ret (v := .agg #[.int .i64 n, .slice A1 cs.length c1, .slice A2 ps.length c2]) (results_cell_row rfl _ _ (w.heap.size + 1) 30 _ (0, 0) _ rfl HR4.out Tryz.underlying30 rfl (sz3 _ _ _)) rfl ⟨A1, A2, c1, c2, rfl, HS41.out, HS42.out, HB4.out, mA1, mA2⟩
 ·
  go_simp
  generalize hq : World.alloc _ _ = z0
  have rz0 : z0.heap[U.heap.size]? = some (.cells #[] 41 (0, 0)) := by rw [← hq]; exact heap_alloc_new _ _
  have nz0 : Below U.heap.size U z0 := by rw [← hq]; exact below_new _ _
  have sz0 : U.heap.size < z0.heap.size := by rw [← hq]; simp
  have bz0 : Below U.heap.size U z0 := nz0
  clear hq
  refine hK.out _ _ (mkS _ bz0) (fun hHeld2 => ?_)
  clear hK K hHeld
  have hHeld := hHeld2
  clear hHeld2
  try simp only [Act.put, List.setIfInBounds_toArray, List.set_cons_zero, List.set_cons_succ]
  refine wpAnyH_ready (rs := [2]) (by kernel_rfl) (by simp) (AllReadyH.cons (o := { dst := some 5, op := .buildSlice 28 0 #[], type := 28, pos := "ref.go:286", after := #[], guard := none }) rfl (fun K hK => ?_) AllReadyH.nil)
  go_simp
  generalize hq : World.alloc _ _ = z1
  have rz1 : z1.heap[z0.heap.size]? = some (.cells #[] 41 (0, 0)) := by rw [← hq]; exact heap_alloc_new _ _
  have nz1 : Below z0.heap.size z0 z1 := by rw [← hq]; exact below_new _ _
  have sz1 : z0.heap.size < z1.heap.size := by rw [← hq]; simp
  have bz1 : Below U.heap.size U z1 := chain bz0 nz1
  clear hq
  refine hK.out _ _ (mkS _ bz1) (fun hHeld2 => ?_)
  clear hK K hHeld
  have hHeld := hHeld2
  clear hHeld2
  try simp only [Act.put, List.setIfInBounds_toArray, List.set_cons_zero, List.set_cons_succ]
  refine wpAnyH_ready (rs := [5]) (by kernel_rfl) (by simp) (AllReadyH.cons (o := { dst := some 8, op := .call { callee := .builtin .append, args := #[.tmp 5, .tmp 7], argTypes := #[28, 28] }, type := 28, pos := "ref.go:286", after := #[{ on := 2, ground := .data }, { on := 4, ground := .data }], guard := none }) rfl (fun K hK => ?_) AllReadyH.nil)
  try rw [if_pos (by rfl)]
  refine wp_append_copy (.tmp 5) (.tmp 7) rfl z0.heap.size rfl (rz1) CA cs _ cc rfl rfl HCN.out (HSC.out.on (chain HWU.out bz1)) (by have := HLL.out; omega) ?_
  intro A1 c1 z2 hA1 mA1 gz2 lA1
  have bz2 : Below U.heap.size U z2 := bz1.grown gz2 bz1.size (fun j hj => by have hj2 := Option.some.inj hj; have := bz1.size; have := bz0.size;  omega)
  refine hK.out _ _ (mkS _ bz2) (fun hHeld2 => ?_)
  clear hK K hHeld
  have hHeld := hHeld2
  clear hHeld2
  try simp only [Act.put, List.setIfInBounds_toArray, List.set_cons_zero, List.set_cons_succ]
  have rq : z2.heap[U.heap.size]? = some (.cells #[] 41 (0, 0)) := (gz2.block _ (by omega) (fun e => by have e2 := Option.some.inj e; omega)).trans ((nz1.block _ (by omega)).trans rz0)
  refine wpAnyH_ready (rs := [9]) (by kernel_rfl) (by simp) (AllReadyH.cons (o := { dst := some 12, op := .call { callee := .builtin .append, args := #[.tmp 9, .tmp 11], argTypes := #[28, 28] }, type := 28, pos := "ref.go:286", after := #[{ on := 6, ground := .data }, { on := 8, ground := .data }, { on := 5, ground := .chain }], guard := none }) rfl (fun K hK => ?_) AllReadyH.nil)
  try rw [if_pos (by rfl)]
  refine wp_append_copy (.tmp 9) (.tmp 11) rfl U.heap.size rfl (rq) PA ps _ pc rfl rfl HPN.out (HSP.out.on (chain HWU.out bz2)) (by have := HLL.out; omega) ?_
  intro A2 c2 z3 hA2 mA2 gz3 lA2
  have bz3 : Below U.heap.size U z3 := bz2.grown gz3 bz2.size (fun j hj => by have hj2 := Option.some.inj hj; have := bz2.size; have := bz0.size;  omega)
  refine hK.out _ _ (mkS _ bz3) (fun hHeld2 => ?_)
  clear hK K hHeld
  have hHeld := hHeld2
  clear hHeld2
  try simp only [Act.put, List.setIfInBounds_toArray, List.set_cons_zero, List.set_cons_succ]
  have hs1 : Shs A1 cs z3 := shorts_grown hA1 gz3 (fun g o e h => by have h1 := lA1 g o e; have h2 := Option.some.inj h; omega)
  refine wpAnyH_take (i := 10) (oi := { dst := some 13, op := .build 30 #[(0, .tmp 4), (1, .tmp 8), (2, .tmp 12)], type := 30, pos := "ref.go:286", after := #[{ on := 1, ground := .data }, { on := 5, ground := .data }, { on := 9, ground := .data }], guard := none }) (v := ?_) rfl (by kernel_rfl) (by kernel_rfl) (by kernel_rfl) (fun _ _ _ h => h) (Or.inl ⟨by rfl, ?_⟩) hHeld ?_
  rotate_left
  ·
   intro w hSw
   clear hSw
   go_simp
   try with_reducible rfl
  try simp only [Act.put, List.setIfInBounds_toArray, List.set_cons_zero, List.set_cons_succ]
  refine wpAnyH_ready (rs := [11]) (by kernel_rfl) (by simp) (AllReadyH.cons (o := { dst := none, op := .store 30 (.tmp 2) (.tmp 13), type := 0, pos := "ref.go:286", after := #[{ on := 10, ground := .data }, { on := 9, ground := .chain }, { on := 0, ground := .phase }, { on := 1, ground := .phase }, { on := 2, ground := .phase }, { on := 3, ground := .phase }, { on := 4, ground := .phase }, { on := 5, ground := .phase }, { on := 6, ground := .phase }, { on := 7, ground := .phase }, { on := 8, ground := .phase }, { on := 9, ground := .phase }, { on := 10, ground := .phase }], guard := none }) rfl (fun K hK => ?_) AllReadyH.nil)
  try rw [if_pos (by rfl)]
  have HR3 := Lib.hid (row_on HRR.out bz3)
  refine wp_store_mid 30 (.tmp 2) (.tmp 13) rfl (w.heap.size + 1) 0 #[.int .i64 n, .slice A1 cs.length c1, .slice A2 ps.length c2] rfl rfl (there_row HR3.out 3 (by decide)) (sz3 _ _ _) (by simp [Value.oneCell']) ?_
  have HR4 := Lib.hid (row_setCells HR3.out (cs := #[.int .i64 n, .slice A1 cs.length c1, .slice A2 ps.length c2]) rfl)
  have HB4 := Lib.hid (below_setCells [.int .i64 n, .slice A1 cs.length c1, .slice A2 ps.length c2] 0 _ (chain HWU.out bz3) (show w.heap.size ≤ w.heap.size + 1 by omega))
  have HS41 := Lib.hid (shorts_setCells hs1 (X := w.heap.size + 1) (fun g o e => by have h1 := lA1 g o e; have h2 := HLE.out; have h3 := bz0.size; have h4 := bz1.size; have h5 := bz2.size; omega) 0 [.int .i64 n, .slice A1 cs.length c1, .slice A2 ps.length c2])
  have HS42 := Lib.hid (shorts_setCells hA2 (X := w.heap.size + 1) (fun g o e => by have h1 := lA2 g o e; have h2 := HLE.out; have h3 := bz0.size; have h4 := bz1.size; have h5 := bz2.size; omega) 0 [.int .i64 n, .slice A1 cs.length c1, .slice A2 ps.length c2])
  refine hK.out _ _ (facts3 ((heap_setCells_other _ _ _ (by omega)).trans (row_on HSG.out bz3))).2 (fun hHeld2 => ?_)
  clear hK K hHeld hHeld2
  try simp only [Act.put, List.setIfInBounds_toArray, List.set_cons_zero, List.set_cons_succ]
  refine wpAnyH_done (by kernel_rfl) ?_ _
  generalize World.setCells _ _ _ _ = z9 at HR4 HB4 HS41 HS42 ⊢
  clear mkS
  go_wp2_with fail
  refine bodyPost_ret (v := .agg #[.int .i64 n, .slice A1 cs.length c1, .slice A2 ps.length c2]) (results_cell_row rfl _ _ (w.heap.size + 1) 30 _ (0, 0) _ rfl HR4.out Tryz.underlying30 rfl (sz3 _ _ _)) rfl ⟨A1, A2, c1, c2, rfl, HS41.out, HS42.out, HB4.out, mA1, mA2⟩
end Sg
end Go.Proofs.YtcgffkkfeimifaaGreatDoor
namespace Go.Proofs.YtcgffkkfeimifaaGreatDoor
namespace Sg
open Go.RowKit Sha
set_option linter.unusedVariables false
set_option linter.unusedSimpArgs false
theorem Tryz.info_u64 : (Tryz.prog.info? 23).map (fun i => (i.zero, i.size, i.bytes)) = some (some (.int .u64 0), 1, 8) := by kernel_rfl
def uvals (xs : List Int) : List Value := xs.map fun x => .int .u64 x
theorem uvals_len (xs : List Int) : (uvals xs).length = xs.length := by unfold uvals; rw [List.length_map]
theorem nums_own {w : World} {b : Nat} {v : Value} {xs : List Int} (h : w.ownsRow b 23 1 v xs.length (uvals xs)) : ∃ A c, v = .slice A xs.length c ∧ xs.length ≤ c ∧ Nums A xs w := by
 obtain ⟨h1, ⟨rfl, h2⟩ | ⟨g, cap, cur, rfl, h3, h4, h5, h6, h7, h8⟩⟩ := h
 ·
  have : xs = [] := List.length_eq_zero_iff.1 h2
  subst this
  exact ⟨none, 0, rfl, Nat.le_refl _, ⟨fun i x hi => by simp at hi⟩⟩
 ·
  refine ⟨some ⟨g, 0, none⟩, cap, rfl, h5, ⟨fun i x hi => ⟨g, 0, rfl, ?_⟩⟩⟩
  rw [cell_of_row w g _ cur _ _ h4, Nat.zero_add, ← Array.getElem?_toList]
  have h9 : (cur.toList.take (xs.length * 1))[i]? = some (.int .u64 x) := by
   rw [h8]
   unfold uvals
   rw [List.getElem?_map, hi]
   rfl
  rw [List.getElem?_take] at h9
  split at h9
  ·
   exact h9
  ·
   cases h9
theorem own_row {w : World} {b : Nat} {E : TypeId} {k : Nat} {v : Value} {n : Nat} {xs : List Value} (h : w.ownsRow b E k v n xs) : ∀ g o m c, v = .slice (some ⟨g, o, none⟩) m c → ∃ cur, w.heap[g]? = some (.cells cur E (0, 0)) := by
 obtain ⟨h1, ⟨rfl, h2⟩ | ⟨g, cap, cur, rfl, h3, h4, _⟩⟩ := h
 ·
  intro _ _ _ _ e
  cases e
 ·
  intro g' o m c e
  cases e
  exact ⟨cur, h4⟩
theorem run_copy_u (w : World) (Y : Nat) (hY : w.heap[Y]? = some (.cells #[] 23 (0, 0))) (ty : TypeId) (B : Option Addr) (xs : List Int) (m c : Nat) (hm : xs.length = m) (hB : B = none → c = 0) (hsh : Nums B xs w) (h63 : m ≤ 1000000) :
  ∃ A' c' w', (Builtin.append_ #[22, 22] ty #[.slice (some ⟨Y, 0, none⟩) 0 0, .slice B m c]).run Tryz.prog w = .ok (.slice A' m c') w' ∧ Nums A' xs w' ∧ m ≤ c' ∧ w.grownBy w' (some Y) ∧ (∀ g o, A' = some ⟨g, o, none⟩ → (g = Y ∨ g = w.heap.size) ∧ ∃ cur, w'.heap[g]? = some (.cells cur 23 (0, 0))) := by
 have hlt : Y < w.heap.size := (Array.getElem?_eq_some_iff.1 hY).1
 have hown : w.ownsRow Y 23 1 (.slice (some ⟨Y, 0, none⟩) 0 0) 0 [] := ⟨rfl, .inr ⟨Y, 0, #[], rfl, Nat.le_refl _, hY, Nat.le_refl _, Nat.zero_le _, rfl, rfl⟩⟩
 obtain ⟨i0, hi, hz0, hz1, hz2⟩ := info_parts Tryz.info_u64
 have fin : ∀ v' w', (Builtin.append_ #[22, 22] ty #[.slice (some ⟨Y, 0, none⟩) 0 0, .slice B m c]).run Tryz.prog w = .ok v' w' → w'.ownsRow Y 23 1 v' m (uvals xs) → w.grownBy w' (some Y) → (v'.ownBlock = some Y ∨ v'.ownBlock = some w.heap.size) → ∃ A' c' w', (Builtin.append_ #[22, 22] ty #[.slice (some ⟨Y, 0, none⟩) 0 0, .slice B m c]).run Tryz.prog w = .ok (.slice A' m c') w' ∧ Nums A' xs w' ∧ m ≤ c' ∧ w.grownBy w' (some Y) ∧ (∀ g o, A' = some ⟨g, o, none⟩ → (g = Y ∨ g = w.heap.size) ∧ ∃ cur, w'.heap[g]? = some (.cells cur 23 (0, 0))) := fun v' w' h0 h1 h2 h3 => by
  subst hm
  obtain ⟨A', c', rfl, h6, h4⟩ := nums_own h1
  refine ⟨A', c', w', h0, h4, h6, h2, fun g o e => ?_⟩
  subst e
  refine ⟨?_, own_row h1 g o _ _ rfl⟩
  rcases h3 with h3 | h3
  ·
   exact .inl (Option.some.inj h3)
  ·
   exact .inr (Option.some.inj h3)
 cases B with
 | none =>
  have hls : xs = [] := by
   cases xs with
   | nil => rfl
   | cons y r =>
    obtain ⟨g, o, e, _⟩ := hsh.row 0 y rfl
    cases e
  subst hls
  subst hm
  obtain rfl := hB rfl
  exact fin _ w (run_append_owned_none (P := Tryz.prog) (w := w) Y 22 ty 23 i0 1 Tryz.underlying22 hi _ 0 [] hown) hown (World.grownBy.refl _ _) (.inl rfl)
 | some ad =>
  have hcells : ∀ j u, (uvals xs)[j]? = some u → w.cell? (ad.add j) = some u := fun j u hj => by
   unfold uvals at hj
   rw [List.getElem?_map] at hj
   obtain ⟨y, hy, rfl⟩ := Option.map_eq_some_iff.1 hj
   obtain ⟨g, o, e, hr⟩ := hsh.row j y hy
   obtain rfl := Option.some.inj e
   rw [add_eq]
   exact hr
  obtain ⟨v', w', h0, h1, h2, _, h3⟩ := run_append_own_at (P := Tryz.prog) w Y 22 ty 23 i0 (.int .u64 0) 1 8 Tryz.underlying22 hi hz0 hz1 hz2 rfl (by decide) _ 0 [] hown ad m c (uvals xs) (by rw [uvals_len, hm, Nat.mul_one]) hcells (fun u hu => by
   unfold uvals at hu
   obtain ⟨x, _, rfl⟩ := List.mem_map.1 hu
   rfl) (by unfold maxLen; omega) (by omega) (Nat.le_of_lt hlt)
  rw [Nat.zero_add, List.nil_append] at h1
  exact fin v' w' h0 h1 h2 h3
theorem wp_append_copy_u {w : World} {o : Oper} {a : Act} {K : Act → World → Prop} {Q : Exit → Act → World → Prop} (s x : Operand)
  (ho : o.op = .call { callee := .builtin .append, args := #[s, x], argTypes := #[22, 22] }) (Y : Nat) (hs : a.eval s = .slice (some ⟨Y, 0, none⟩) 0 0) (hY : w.heap[Y]? = some (.cells #[] 23 (0, 0)))
  (B : Option Addr) (xs : List Int) (m c : Nat) (hx : a.eval x = .slice B m c) (hm : xs.length = m) (hB : B = none → c = 0) (hsh : Nums B xs w) (h63 : m ≤ 1000000)
  (h : ∀ A' c' w', Nums A' xs w' → m ≤ c' → w.grownBy w' (some Y) → (∀ g o, A' = some ⟨g, o, none⟩ → (g = Y ∨ g = w.heap.size) ∧ ∃ cur, w'.heap[g]? = some (.cells cur 23 (0, 0))) → K (a.put o.dst (.slice A' m c')) w') : o.wp Tryz.prog a w K Q := by
 obtain ⟨A', c', w', hr, h1, h6, h2, h3⟩ := run_copy_u w Y hY o.type B xs m c hm hB hsh h63
 unfold Oper.wp execOp
 simp only [ho, resolve, invoke, builtin, Sem.run_bind, Sem.run_pure, Result.andThen_ok, List.map_toArray, List.map_cons, List.map_nil, hs, hx, hr]
 exact h A' c' w' h1 h6 h2 h3
theorem append_copy_u {w : World} {ops : Array Oper} {rest : List Oper} {o : Oper} {a : Act} {Q : Exit → Act → World → Prop} (hgd : o.guard = none) (s x : Operand)
  (ho : o.op = .call { callee := .builtin .append, args := #[s, x], argTypes := #[22, 22] }) (Y : Nat) (hs : a.eval s = .slice (some ⟨Y, 0, none⟩) 0 0) (hY : w.heap[Y]? = some (.cells #[] 23 (0, 0)))
  (B : Option Addr) (xs : List Int) (m c : Nat) (hx : a.eval x = .slice B m c) (hm : xs.length = m) (hB : B = none → c = 0) (hsh : Nums B xs w) (h63 : m ≤ 1000000)
  (h : ∀ A' c' w', Nums A' xs w' → m ≤ c' → w.grownBy w' (some Y) → (∀ g o, A' = some ⟨g, o, none⟩ → (g = Y ∨ g = w.heap.size) ∧ ∃ cur, w'.heap[g]? = some (.cells cur 23 (0, 0))) → wpList Tryz.prog ops Q rest (a.put o.dst (.slice A' m c')) w') : wpList Tryz.prog ops Q (o :: rest) a w :=
 wpList_plain hgd fun K hK => wp_append_copy_u s x ho Y hs hY B xs m c hx hm hB hsh h63 fun A' c' w' h1 h2 h3 h4 => hK _ _ (h A' c' w' h1 h2 h3 h4)
theorem run_copy_s (w : World) (Y : Nat) (hY : w.heap[Y]? = some (.cells #[] 41 (0, 0))) (ty : TypeId) (B : Option Addr) (ls : List (List UInt8)) (m c : Nat) (hm : ls.length = m) (hB : B = none → c = 0) (hsh : Shs B ls w) (h63 : m ≤ 100000) :
  ∃ A' c' w', (Builtin.append_ #[28, 28] ty #[.slice (some ⟨Y, 0, none⟩) 0 0, .slice B m c]).run Tryz.prog w = .ok (.slice A' m c') w' ∧ Shs A' ls w' ∧ m ≤ c' ∧ w.grownBy w' (some Y) ∧ (∀ g o, A' = some ⟨g, o, none⟩ → (g = Y ∨ g = w.heap.size) ∧ ∃ cur, w'.heap[g]? = some (.cells cur 41 (0, 0))) := by
 have hlt : Y < w.heap.size := (Array.getElem?_eq_some_iff.1 hY).1
 have hown : w.ownsRow Y 41 16 (.slice (some ⟨Y, 0, none⟩) 0 0) 0 [] := ⟨rfl, .inr ⟨Y, 0, #[], rfl, Nat.le_refl _, hY, Nat.le_refl _, Nat.zero_le _, rfl, rfl⟩⟩
 obtain ⟨i0, hi, hz0, hz1, hz2⟩ := info_parts Tryz.info_short
 have fin : ∀ v' w', (Builtin.append_ #[28, 28] ty #[.slice (some ⟨Y, 0, none⟩) 0 0, .slice B m c]).run Tryz.prog w = .ok v' w' → w'.ownsRow Y 41 16 v' m (bvals ls.flatten) → w.grownBy w' (some Y) → (v'.ownBlock = some Y ∨ v'.ownBlock = some w.heap.size) → ∃ A' c' w', (Builtin.append_ #[28, 28] ty #[.slice (some ⟨Y, 0, none⟩) 0 0, .slice B m c]).run Tryz.prog w = .ok (.slice A' m c') w' ∧ Shs A' ls w' ∧ m ≤ c' ∧ w.grownBy w' (some Y) ∧ (∀ g o, A' = some ⟨g, o, none⟩ → (g = Y ∨ g = w.heap.size) ∧ ∃ cur, w'.heap[g]? = some (.cells cur 41 (0, 0))) := fun v' w' h0 h1 h2 h3 => by
  subst hm
  obtain ⟨A', c', rfl, h6, _, h4⟩ := shorts_own hsh.len h1
  refine ⟨A', c', w', h0, h4, h6, h2, fun g o e => ?_⟩
  subst e
  refine ⟨?_, own_row h1 g o _ _ rfl⟩
  rcases h3 with h3 | h3
  ·
   exact .inl (Option.some.inj h3)
  ·
   exact .inr (Option.some.inj h3)
 cases B with
 | none =>
  have hls : ls = [] := by
   cases ls with
   | nil => rfl
   | cons y r =>
    obtain ⟨g, o, e, _⟩ := hsh.row 0 y rfl
    cases e
  subst hls
  subst hm
  obtain rfl := hB rfl
  exact fin _ w (run_append_owned_none (P := Tryz.prog) (w := w) Y 28 ty 41 i0 16 Tryz.underlying28 hi _ 0 [] hown) hown (World.grownBy.refl _ _) (.inl rfl)
 | some ad =>
  have hcells : ∀ j u, (bvals ls.flatten)[j]? = some u → w.cell? (ad.add j) = some u := fun j u hj => by
   unfold bvals at hj
   rw [List.getElem?_map] at hj
   obtain ⟨y, hy, rfl⟩ := Option.map_eq_some_iff.1 hj
   have hjl := (List.getElem?_eq_some_iff.1 hy).1
   rw [flat_len ls hsh.len] at hjl
   have hq := List.getElem?_eq_getElem (show j / 16 < ls.length by omega)
   obtain ⟨l, hl⟩ : ∃ l, ls[j / 16]? = some l := ⟨_, hq⟩
   obtain ⟨g, o, e, hr⟩ := hsh.row (j / 16) l hl
   obtain rfl := Option.some.inj e
   have hl16 := hsh.len l (List.mem_of_getElem? hl)
   obtain ⟨z, hz⟩ : ∃ z, l[j % 16]? = some z := ⟨_, List.getElem?_eq_getElem (by omega)⟩
   have hf := flat_at ls hsh.len (j / 16) l hl (j % 16) z hz
   rw [show 16 * (j / 16) + j % 16 = j by omega, hy] at hf
   obtain rfl := Option.some.inj hf
   have h9 := hr (j % 16) (.int .u8 (y.toNat : Int)) (by unfold bvals; rw [List.getElem?_map, hz]; rfl)
   rw [Nat.add_assoc, show 16 * (j / 16) + j % 16 = j by omega] at h9
   rw [add_eq]
   exact h9
  obtain ⟨v', w', h0, h1, h2, _, h3⟩ := run_append_own_at (P := Tryz.prog) w Y 28 ty 41 i0 (.agg (bcells (List.replicate 16 0))) 16 16 Tryz.underlying28 hi hz0 hz1 hz2 rfl (by decide) _ 0 [] hown ad m c (bvals ls.flatten) (by rw [bvals_len, flat_len ls hsh.len, hm, Nat.mul_comm]) hcells (fun u hu => by
   unfold bvals at hu
   obtain ⟨x, _, rfl⟩ := List.mem_map.1 hu
   rfl) (by unfold maxLen; omega) (by omega) (Nat.le_of_lt hlt)
  rw [Nat.zero_add, List.nil_append] at h1
  exact fin v' w' h0 h1 h2 h3
theorem wp_append_copy_s {w : World} {o : Oper} {a : Act} {K : Act → World → Prop} {Q : Exit → Act → World → Prop} (s x : Operand)
  (ho : o.op = .call { callee := .builtin .append, args := #[s, x], argTypes := #[28, 28] }) (Y : Nat) (hs : a.eval s = .slice (some ⟨Y, 0, none⟩) 0 0) (hY : w.heap[Y]? = some (.cells #[] 41 (0, 0)))
  (B : Option Addr) (ls : List (List UInt8)) (m c : Nat) (hx : a.eval x = .slice B m c) (hm : ls.length = m) (hB : B = none → c = 0) (hsh : Shs B ls w) (h63 : m ≤ 100000)
  (h : ∀ A' c' w', Shs A' ls w' → m ≤ c' → w.grownBy w' (some Y) → (∀ g o, A' = some ⟨g, o, none⟩ → (g = Y ∨ g = w.heap.size) ∧ ∃ cur, w'.heap[g]? = some (.cells cur 41 (0, 0))) → K (a.put o.dst (.slice A' m c')) w') : o.wp Tryz.prog a w K Q := by
 obtain ⟨A', c', w', hr, h1, h6, h2, h3⟩ := run_copy_s w Y hY o.type B ls m c hm hB hsh h63
 unfold Oper.wp execOp
 simp only [ho, resolve, invoke, builtin, Sem.run_bind, Sem.run_pure, Result.andThen_ok, List.map_toArray, List.map_cons, List.map_nil, hs, hx, hr]
 exact h A' c' w' h1 h6 h2 h3
theorem append_copy_s {w : World} {ops : Array Oper} {rest : List Oper} {o : Oper} {a : Act} {Q : Exit → Act → World → Prop} (hgd : o.guard = none) (s x : Operand)
  (ho : o.op = .call { callee := .builtin .append, args := #[s, x], argTypes := #[28, 28] }) (Y : Nat) (hs : a.eval s = .slice (some ⟨Y, 0, none⟩) 0 0) (hY : w.heap[Y]? = some (.cells #[] 41 (0, 0)))
  (B : Option Addr) (ls : List (List UInt8)) (m c : Nat) (hx : a.eval x = .slice B m c) (hm : ls.length = m) (hB : B = none → c = 0) (hsh : Shs B ls w) (h63 : m ≤ 100000)
  (h : ∀ A' c' w', Shs A' ls w' → m ≤ c' → w.grownBy w' (some Y) → (∀ g o, A' = some ⟨g, o, none⟩ → (g = Y ∨ g = w.heap.size) ∧ ∃ cur, w'.heap[g]? = some (.cells cur 41 (0, 0))) → wpList Tryz.prog ops Q rest (a.put o.dst (.slice A' m c')) w') : wpList Tryz.prog ops Q (o :: rest) a w :=
 wpList_plain hgd fun K hK => wp_append_copy_s s x ho Y hs hY B ls m c hx hm hB hsh h63 fun A' c' w' h1 h2 h3 h4 => hK _ _ (h A' c' w' h1 h2 h3 h4)
theorem eqn_u (B : Option Addr) (n c : Nat) (w : World) : (binOp .eql 22 (.slice B n c) (.slice none 0 0)).run Tryz.prog w = .ok (.bool B.isNone) w := by
 cases B <;> kernel_rfl
theorem eqn_s (B : Option Addr) (n c : Nat) (w : World) : (binOp .eql 28 (.slice B n c) (.slice none 0 0)).run Tryz.prog w = .ok (.bool B.isNone) w := by
 cases B <;> kernel_rfl
theorem below_grown {w V w' : World} (hV : Below w.heap.size w V) {Y : Nat} (hY : w.heap.size ≤ Y) (h : V.grownBy w' (some Y)) : Below w.heap.size w w' := hV.grown h hV.size (fun j hj => by have hj2 := Option.some.inj hj; omega)
def clone_uP (xs : List Int) (w : World) (e : Ending) (w' : World) : Prop := ∃ A' c', e = .returned (.slice A' xs.length c') ∧ Nums A' xs w' ∧ (∀ g o, A' = some ⟨g, o, none⟩ → w.heap.size ≤ g ∧ ∃ cur, w'.heap[g]? = some (.cells cur 23 (0, 0))) ∧ Below w.heap.size w w'
set_option maxRecDepth 100000 in
set_option maxHeartbeats 4000000 in
theorem clone_u (B : Option Addr) (xs : List Int) (c : Nat) (hB : B = none → c = 0) (h63 : xs.length ≤ 1000000) (w : World) (h1 : Nums B xs w) :
  Calls Tryz.prog 72 #[.slice B xs.length c] w (clone_uP xs w) := by
 have HX := Lib.hid hB
 have HL := Lib.hid h63
 have HS := Lib.hid h1
 clear hB h63 h1
 cases B with
 | none =>
  have hls : xs = [] := by
   cases xs with
   | nil => rfl
   | cons y r =>
    obtain ⟨g, o, e, _⟩ := HS.out.row 0 y rfl
    cases e
  subst hls
  obtain rfl := HX.out rfl
  have he := eqn_u none 0 0 w
  simp only [Option.isNone_none] at he
  go_enter Tryz.func72, Tryz.ntmps72
  go_wp2_with fail
  go_ret
  exact ⟨none, 0, rfl, HS.out, (fun g o e => by cases e), Below.refl _ _⟩
 | some ad =>
  obtain ⟨n, hn⟩ : ∃ n, xs.length = n := ⟨_, rfl⟩
  have HN := Lib.hid hn
  rw [hn] at HL
  rw [hn]
  clear hn
  have he := eqn_u (some ad) n c w
  simp only [Option.isNone_some] at he
  go_enter Tryz.func72, Tryz.ntmps72
  go_wp2_with (at_builtin; refine append_copy_u rfl (.tmp 5) (.tmp 6) rfl w.heap.size rfl (heap_alloc_new _ _) (some ad) xs n c rfl HN.out HX.out (HS.out.on (below_new _ _)) HL.out ?_; intro A1 c1 w1 hsh1 hm1 hg1 hl1; have HSH1 := Lib.hid hsh1; have HG1 := Lib.hid hg1; have HL1 := Lib.hid hl1; clear hsh1 hg1 hl1 hm1)
  go_ret
  refine ⟨A1, c1, by rw [HN.out]; rfl, HSH1.out, fun g o e => ?_, below_grown (below_new _ _) (Nat.le_refl _) HG1.out⟩
  obtain ⟨h1, h2⟩ := HL1.out g o e
  rw [World.size_alloc] at h1
  exact ⟨by omega, h2⟩
def clone_sP (ls : List (List UInt8)) (w : World) (e : Ending) (w' : World) : Prop := ∃ A' c', e = .returned (.slice A' ls.length c') ∧ Shs A' ls w' ∧ (∀ g o, A' = some ⟨g, o, none⟩ → w.heap.size ≤ g ∧ ∃ cur, w'.heap[g]? = some (.cells cur 41 (0, 0))) ∧ Below w.heap.size w w'
set_option maxRecDepth 100000 in
set_option maxHeartbeats 4000000 in
theorem clone_s (B : Option Addr) (ls : List (List UInt8)) (c : Nat) (hB : B = none → c = 0) (h63 : ls.length ≤ 100000) (w : World) (h1 : Shs B ls w) :
  Calls Tryz.prog 73 #[.slice B ls.length c] w (clone_sP ls w) := by
 have HX := Lib.hid hB
 have HL := Lib.hid h63
 have HS := Lib.hid h1
 clear hB h63 h1
 cases B with
 | none =>
  have hls : ls = [] := by
   cases ls with
   | nil => rfl
   | cons y r =>
    obtain ⟨g, o, e, _⟩ := HS.out.row 0 y rfl
    cases e
  subst hls
  obtain rfl := HX.out rfl
  have he := eqn_s none 0 0 w
  simp only [Option.isNone_none] at he
  go_enter Tryz.func73, Tryz.ntmps73
  go_wp2_with fail
  go_ret
  exact ⟨none, 0, rfl, HS.out, (fun g o e => by cases e), Below.refl _ _⟩
 | some ad =>
  obtain ⟨n, hn⟩ : ∃ n, ls.length = n := ⟨_, rfl⟩
  have HN := Lib.hid hn
  rw [hn] at HL
  rw [hn]
  clear hn
  have he := eqn_s (some ad) n c w
  simp only [Option.isNone_some] at he
  go_enter Tryz.func73, Tryz.ntmps73
  go_wp2_with (at_builtin; refine append_copy_s rfl (.tmp 5) (.tmp 6) rfl w.heap.size rfl (heap_alloc_new _ _) (some ad) ls n c rfl HN.out HX.out (HS.out.on (below_new _ _)) HL.out ?_; intro A1 c1 w1 hsh1 hm1 hg1 hl1; have HSH1 := Lib.hid hsh1; have HG1 := Lib.hid hg1; have HL1 := Lib.hid hl1; clear hsh1 hg1 hl1 hm1)
  go_ret
  refine ⟨A1, c1, by rw [HN.out]; rfl, HSH1.out, fun g o e => ?_, below_grown (below_new _ _) (Nat.le_refl _) HG1.out⟩
  obtain ⟨h1, h2⟩ := HL1.out g o e
  rw [World.size_alloc] at h1
  exact ⟨by omega, h2⟩
end Sg
end Go.Proofs.YtcgffkkfeimifaaGreatDoor
namespace Go.Proofs.YtcgffkkfeimifaaGreatDoor
namespace Sg
open Go.RowKit Sha
set_option linter.unusedVariables false
set_option linter.unusedSimpArgs false
theorem sz8 (c : Array Value) (h : c.size = 8) : (Tryz.prog.info? 32).map (·.size) = some c.size := by
 rw [h]
 kernel_rfl
structure Caps (m : Mp) : Prop where
 s : m.SA = none → m.sc = 0
 c : m.CA = none → m.cc = 0
 p : m.PA = none → m.pc = 0
theorem heap_setCell8 {w : World} {g : Nat} {a b c d e f i j v : Value} {T : TypeId} (h : w.heap[g]? = some (.cells #[a, b, c, d, e, f, i, j] T (0, 0))) : (w.setCell ⟨g, 4, none⟩ v).heap[g]? = some (.cells #[a, b, c, d, v, f, i, j] T (0, 0)) :=
 heap_setCell_same w g 4 _ T v h
theorem nums_setCell {A : Option Addr} {xs : List Int} {w : World} {X : Nat} (h : Nums A xs w) (hne : ∀ g o, A = some ⟨g, o, none⟩ → g ≠ X) (o : Nat) (v : Value) : Nums A xs (w.setCell ⟨X, o, none⟩ v) :=
 ⟨fun i x hi => by
  obtain ⟨g, o1, e, hc⟩ := h.row i x hi
  refine ⟨g, o1, e, ?_⟩
  have hb := Below.heap_setCell w ⟨X, o, none⟩ v g (hne g o1 e)
  simp only [World.cell?] at hc ⊢
  rw [hb]
  exact hc⟩
theorem below_setCell {n g o : Nat} {u w : World} {v : Value} (h : Below n u w) (hg : n ≤ g) : Below n u (w.setCell ⟨g, o, none⟩ v) := by
 have h2 := below_setCells [v] o w h hg
 rw [World.setCells, World.setCells] at h2
 exact h2
theorem shs_keep {A : Option Addr} {ls : List (List UInt8)} {w w' : World} {X : Nat} {c : Array Value} {T : TypeId} {fr : Nat × Nat} (h : Shs A ls w) (hr : w.heap[X]? = some (.cells c T fr)) (hc : c.size < 16) (ho : ∀ b, b ≠ X → w'.heap[b]? = w.heap[b]?) : Shs A ls w' :=
 ⟨fun i l hi => by
  obtain ⟨g, o, e, hl⟩ := h.row i l hi
  have hl16 := h.len l (List.mem_of_getElem? hi)
  refine ⟨g, o, e, ?_⟩
  have hne : g ≠ X := fun e2 => by
   subst e2
   have h1 := hl 15 (.int .u8 ((l[15]'(by omega)).toNat : Int)) (by unfold bvals; rw [List.getElem?_map, List.getElem?_eq_getElem (by omega)]; rfl)
   rw [cell_of_row _ _ _ _ _ _ hr, Array.getElem?_eq_none (by omega)] at h1
   cases h1
  intro j v hj
  have h1 := hl j v hj
  simp only [World.cell?] at h1 ⊢
  rw [ho g hne]
  exact h1, h.len⟩
theorem heap_set3 {w : World} {g : Nat} {a b c d e f i j x y z : Value} {T : TypeId} (h : w.heap[g]? = some (.cells #[a, b, c, d, e, f, i, j] T (0, 0))) : (w.setCells g 5 [x, y, z]).heap[g]? = some (.cells #[a, b, c, d, e, x, y, z] T (0, 0)) := by
 rw [World.setCells, World.setCells, World.setCells, World.setCells]
 exact heap_setCell_same _ g 7 _ T z (heap_setCell_same _ g 6 _ T y (heap_setCell_same _ g 5 _ T x h))
theorem range3 {w : World} {g : Nat} {a b c d e f i j : Value} {T : TypeId} (h : w.heap[g]? = some (.cells #[a, b, c, d, e, f, i, j] T (0, 0))) : w.rangeAt g 5 [f, i, j] := fun k v hk => by
 rw [cell_of_row _ _ _ _ _ _ h]
 match k, hk with
 | 0, hk => exact hk
 | 1, hk => exact hk
 | 2, hk => exact hk
theorem there3 {w : World} {g : Nat} {a b c d e f i j : Value} {T : TypeId} (h : w.heap[g]? = some (.cells #[a, b, c, d, e, f, i, j] T (0, 0))) : w.there g 5 3 := fun k hk => by
 refine ⟨?_, frozen_of_row _ _ _ _ _ h⟩
 rw [cell_of_row _ _ _ _ _ _ h]
 match k, hk with
 | 0, _ => rfl
 | 1, _ => rfl
 | 2, _ => rfl
theorem nums_keep {A : Option Addr} {xs : List Int} {w w' : World} {X : Nat} (h : Nums A xs w) (hne : ∀ g o, A = some ⟨g, o, none⟩ → g ≠ X) (ho : ∀ b, b ≠ X → w'.heap[b]? = w.heap[b]?) : Nums A xs w' :=
 ⟨fun i x hi => by
  obtain ⟨g, o1, e, hc⟩ := h.row i x hi
  refine ⟨g, o1, e, ?_⟩
  simp only [World.cell?] at hc ⊢
  rw [ho g (hne g o1 e)]
  exact hc⟩
end Sg
end Go.Proofs.YtcgffkkfeimifaaGreatDoor
namespace Go.Proofs.YtcgffkkfeimifaaGreatDoor
namespace Sg
open Go.RowKit Sha
set_option linter.unusedVariables false
set_option linter.unusedSimpArgs false
def OwnRow (lo : Nat) (A : Option Addr) (E : TypeId) (w : World) : Prop := ∀ g o, A = some ⟨g, o, none⟩ → lo ≤ g ∧ ∃ cur, w.heap[g]? = some (.cells cur E (0, 0))
theorem OwnRow.on {lo : Nat} {A : Option Addr} {E : TypeId} {w V : World} (h : OwnRow lo A E w) (hb : Below w.heap.size w V) : OwnRow lo A E V := fun g o e => by
 obtain ⟨h1, cur, h2⟩ := h g o e
 exact ⟨h1, cur, row_on h2 hb⟩
theorem OwnRow.keep {lo X : Nat} {A : Option Addr} {E : TypeId} {w V : World} (h : OwnRow lo A E w) (hX : X < lo) (ho : ∀ b, b ≠ X → V.heap[b]? = w.heap[b]?) : OwnRow lo A E V := fun g o e => by
 obtain ⟨h1, cur, h2⟩ := h g o e
 exact ⟨h1, cur, (ho g (by omega)).trans h2⟩
structure OwnN (lo : Nat) (A : Option Addr) (xs : List Int) (w : World) : Prop where
 nums : Nums A xs w
 own : OwnRow lo A 23 w
structure OwnS (lo : Nat) (A : Option Addr) (ls : List (List UInt8)) (w : World) : Prop where
 shs : Shs A ls w
 own : OwnRow lo A 41 w
theorem OwnN.on {lo : Nat} {A : Option Addr} {xs : List Int} {w V : World} (h : OwnN lo A xs w) (hb : Below w.heap.size w V) : OwnN lo A xs V := ⟨h.nums.on hb, h.own.on hb⟩
theorem OwnS.on {lo : Nat} {A : Option Addr} {xs : List (List UInt8)} {w V : World} (h : OwnS lo A xs w) (hb : Below w.heap.size w V) : OwnS lo A xs V := ⟨h.shs.on hb, h.own.on hb⟩
theorem OwnN.lt {lo : Nat} {A : Option Addr} {xs : List Int} {w : World} (h : OwnN lo A xs w) {g o : Nat} (e : A = some ⟨g, o, none⟩) : g < w.heap.size := by
 obtain ⟨_, cur, h2⟩ := h.own g o e
 exact (Array.getElem?_eq_some_iff.1 h2).1
theorem OwnN.keep {lo X : Nat} {A : Option Addr} {xs : List Int} {w V : World} (h : OwnN lo A xs w) (hX : X < lo) (ho : ∀ b, b ≠ X → V.heap[b]? = w.heap[b]?) : OwnN lo A xs V := ⟨nums_keep h.nums (fun g o e => by have := (h.own g o e).1; omega) ho, h.own.keep hX ho⟩
theorem OwnS.keep {lo X : Nat} {A : Option Addr} {xs : List (List UInt8)} {w V : World} (h : OwnS lo A xs w) (hX : X < lo) (ho : ∀ b, b ≠ X → V.heap[b]? = w.heap[b]?) : OwnS lo A xs V :=
 ⟨⟨fun i l hi => by
  obtain ⟨g, o, e, hl⟩ := h.shs.row i l hi
  refine ⟨g, o, e, fun j v hj => ?_⟩
  have h1 := hl j v hj
  have h2 := (h.own g o e).1
  simp only [World.cell?] at h1 ⊢
  rw [ho g (by omega)]
  exact h1, h.shs.len⟩, h.own.keep hX ho⟩
structure TwW (N : Nat) (w : World) (A1 A2 A3 : Option Addr) (xs : List Int) (cs ps : List (List UInt8)) (z : World) : Prop where
 n : OwnN (N + 2) A1 xs z
 s : OwnS (N + 2) A2 cs z
 t : OwnS (N + 2) A3 ps z
 b : Below N w z
 ap : ∀ g o h q, A1 = some ⟨g, o, none⟩ → A2 = some ⟨h, q, none⟩ → g ≠ h
theorem TwW.keep {N : Nat} {w : World} {A1 A2 A3 : Option Addr} {xs : List Int} {cs ps : List (List UInt8)} {z V : World} (h : TwW N w A1 A2 A3 xs cs ps z) (ho : ∀ b, b ≠ N + 1 → V.heap[b]? = z.heap[b]?) (hb : Below N w V) : TwW N w A1 A2 A3 xs cs ps V :=
 ⟨h.n.keep (by omega) ho, h.s.keep (by omega) ho, h.t.keep (by omega) ho, hb, h.ap⟩
theorem TwW.keep0 {N : Nat} {w : World} {A1 A2 A3 : Option Addr} {xs : List Int} {cs ps : List (List UInt8)} {z V : World} (h : TwW N w A1 A2 A3 xs cs ps z) (ho : ∀ b, b ≠ N → V.heap[b]? = z.heap[b]?) (hb : Below N w V) : TwW N w A1 A2 A3 xs cs ps V :=
 ⟨h.n.keep (by omega) ho, h.s.keep (by omega) ho, h.t.keep (by omega) ho, hb, h.ap⟩
def PTwin (l : Rl) (w : World) (e : Ending) (w' : World) : Prop := ∃ m, e = .returned (.agg (rlC l m)) ∧ RlAt l m w' ∧ Below w.heap.size w w' ∧ OwnRow w.heap.size m.SA 23 w' ∧ OwnRow w.heap.size m.CA 41 w' ∧ (∀ g o h q, m.SA = some ⟨g, o, none⟩ → m.CA = some ⟨h, q, none⟩ → g ≠ h)
set_option maxRecDepth 100000 in
set_option maxHeartbeats 8000000 in
theorem rtwin_any (l : Rl) (p : Mp) (w : World) (h1 : RlAt l p w) (h2 : Caps p) :
  Calls Tryz.prog 41 #[.agg (rlC l p)] w (PTwin l w) := by
 obtain ⟨iss, num, fr, tt, xs, n, cs, ps⟩ := l
 obtain ⟨SA, sc, CA, cc, PA, pc⟩ := p
 obtain ⟨h2s, h2c, h2p⟩ := h2
 have j1 := h1.ls
 have j2 := h1.lc
 have j3 := h1.lp
 have HC1 := Lib.hid (fun (V : World) (hb : Below w.heap.size w V) => clone_u SA xs sc h2s j1 V (h1.ser.on hb))
 have HC2 := Lib.hid (fun (V : World) (hb : Below w.heap.size w V) => clone_s CA cs cc h2c j2 V (h1.cs.on hb))
 have HC3 := Lib.hid (fun (V : World) (hb : Below w.heap.size w V) => clone_s PA ps pc h2p j3 V (h1.ps.on hb))
 have J1 := Lib.hid j1
 have J2 := Lib.hid j2
 have J3 := Lib.hid j3
 unfold rlC
 simp only at HC1 HC2 HC3 J1 J2 J3 ⊢
 clear h1 h2s h2c h2p j1 j2 j3
 go_enter Tryz.func41, Tryz.ntmps41
 go_upto_region 1 with (fail)
 generalize hV : World.alloc (World.alloc w _) _ = V
 have HB0 := Lib.hid (show Below w.heap.size w V by rw [← hV]; exact (below_new _ _).alloc (by simp) _)
 have HR0 := Lib.hid (show V.heap[w.heap.size]? = some (.cells #[.string iss, .int .u64 num, .int .i64 fr, .int .i64 tt, .slice SA xs.length sc, .int .i64 n, .slice CA cs.length cc, .slice PA ps.length pc] 32 (0, 0)) by rw [← hV]; exact heap_alloc2_old _ _ _)
 have HR1 := Lib.hid (show V.heap[w.heap.size + 1]? = some (.cells #[.string "".toUTF8, .int .u64 0, .int .i64 0, .int .i64 0, .slice none 0 0, .int .i64 0, .slice none 0 0, .slice none 0 0] 32 (0, 0)) by rw [← hV]; exact (heap_alloc2_new _ _ _).trans rfl)
 have HVS := Lib.hid (show w.heap.size + 2 ≤ V.heap.size by rw [← hV]; simp)
 clear hV
 obtain ⟨v0, a0, a1, a2, a3, a4, a5, a6, a7⟩ := facts8 HR0.out
 go_wp2_with fail
 refine (HC1.out V HB0.out).mono ?_
 rintro e w1 ⟨A1, c1, rfl, s1, l1, hb⟩
 have HR01 := Lib.hid (row_on HR0.out hb)
 have HR11 := Lib.hid (row_on HR1.out hb)
 have HB1 := Lib.hid (chain HB0.out hb)
 have HON := Lib.hid (OwnN.mk s1 (fun g o e => ⟨Nat.le_trans HVS.out (l1 g o e).1, (l1 g o e).2⟩ : OwnRow (w.heap.size + 2) A1 23 w1))
 have HSZ1 : RowKit.Hid (w.heap.size + 2 ≤ w1.heap.size) := Lib.hid (Nat.le_trans HVS.out hb.size)
 clear v0 a0 a1 a2 a3 a4 a5 a6 a7 s1 l1 hb HR0 HR1 HB0 HVS
 obtain ⟨v0, a0, a1, a2, a3, a4, a5, a6, a7⟩ := facts8 HR01.out
 have hfz := frozen_of_row w1 _ 4 _ _ HR01.out
 go_upto_region 2 with (fail)
 have HR2 := Lib.hid (heap_setCell_same _ _ 4 _ _ (.slice A1 xs.length c1) HR01.out)
 have HO := Lib.hid (fun (b : Nat) (h : b ≠ w.heap.size) => Below.heap_setCell w1 ⟨w.heap.size, 4, none⟩ (.slice A1 xs.length c1) b h)
 have HR12 := Lib.hid ((HO.out (w.heap.size + 1) (by omega)).trans HR11.out)
 have HN2 := Lib.hid (HON.out.keep (show w.heap.size < w.heap.size + 2 by omega) HO.out)
 have HB2 := Lib.hid (below_setCell (v := .slice A1 xs.length c1) (o := 4) HB1.out (Nat.le_refl w.heap.size))
 have HSZ2 : RowKit.Hid (w.heap.size + 2 ≤ (w1.setCell ⟨w.heap.size, 4, none⟩ (.slice A1 xs.length c1)).heap.size) := Lib.hid (by have := HSZ1.out; simpa [World.setCell] using this)
 clear v0 a0 a1 a2 a3 a4 a5 a6 a7 hfz HO
 generalize World.setCell w1 _ _ = W2 at HR2 HR12 HN2 HB2 HSZ2 ⊢
 have HR2' := Lib.hid (show W2.heap[w.heap.size]? = some (.cells #[.string iss, .int .u64 num, .int .i64 fr, .int .i64 tt, .slice A1 xs.length c1, .int .i64 n, .slice CA cs.length cc, .slice PA ps.length pc] 32 (0, 0)) from HR2.out)
 clear HR2 HR01 HR11 HON HB1 HC1 HSZ1
 refine wp_region_held_drew (S := fun _ => True) (by kernel_rfl) trivial (fun hHeld => ?_)
 generalize hU : World.drew W2 = U at hHeld ⊢
 have hbU : Below W2.heap.size W2 U := by rw [← hU]; exact (Below.refl _ _).drew
 have HR_U := Lib.hid (row_on HR2'.out hbU)
 have HZ_U := Lib.hid (row_on HR12.out hbU)
 have HN_U := Lib.hid (HN2.out.on hbU)
 have HB_U := Lib.hid (chain HB2.out hbU)
 have HSZ_U : RowKit.Hid (w.heap.size + 2 ≤ U.heap.size) := Lib.hid (Nat.le_trans HSZ2.out hbU.size)
 clear hU hbU HR2' HR12 HN2 HB2 HSZ2
 refine wpAnyH_take (i := 0) (oi := { dst := some 7, op := .fieldAddr 32 (.tmp 1) 4, type := 0, pos := "revoke.go:120", after := #[], guard := none }) (v := ?_) rfl (by kernel_rfl) (by kernel_rfl) (by kernel_rfl) (fun _ _ _ h => h) (Or.inl ⟨by rfl, ?_⟩) hHeld ?_
 rotate_left
 ·
  intro w hSw
  clear hSw
  go_simp
  try with_reducible rfl
 try simp only [Act.put, List.setIfInBounds_toArray, List.set_cons_zero, List.set_cons_succ]
 refine wpAnyH_take (i := 1) (oi := { dst := some 8, op := .fieldAddr 30 (.tmp 7) 1, type := 0, pos := "revoke.go:120", after := #[{ on := 0, ground := .data }], guard := none }) (v := ?_) rfl (by kernel_rfl) (by kernel_rfl) (by kernel_rfl) (fun _ _ _ h => h) (Or.inl ⟨by rfl, ?_⟩) hHeld ?_
 rotate_left
 ·
  intro w hSw
  clear hSw
  go_simp
  try with_reducible rfl
 try simp only [Act.put, List.setIfInBounds_toArray, List.set_cons_zero, List.set_cons_succ]
 refine wpAnyH_take (i := 4) (oi := { dst := some 11, op := .fieldAddr 32 (.tmp 1) 4, type := 0, pos := "revoke.go:120", after := #[], guard := none }) (v := ?_) rfl (by kernel_rfl) (by kernel_rfl) (by kernel_rfl) (fun _ _ _ h => h) (Or.inl ⟨by rfl, ?_⟩) hHeld ?_
 rotate_left
 ·
  intro w hSw
  clear hSw
  go_simp
  try with_reducible rfl
 try simp only [Act.put, List.setIfInBounds_toArray, List.set_cons_zero, List.set_cons_succ]
 refine wpAnyH_take (i := 5) (oi := { dst := some 12, op := .fieldAddr 30 (.tmp 11) 2, type := 0, pos := "revoke.go:120", after := #[{ on := 4, ground := .data }], guard := none }) (v := ?_) rfl (by kernel_rfl) (by kernel_rfl) (by kernel_rfl) (fun _ _ _ h => h) (Or.inl ⟨by rfl, ?_⟩) hHeld ?_
 rotate_left
 ·
  intro w hSw
  clear hSw
  go_simp
  try with_reducible rfl
 try simp only [Act.put, List.setIfInBounds_toArray, List.set_cons_zero, List.set_cons_succ]
 refine wpAnyH_ready (rs := [2, 6]) (by kernel_rfl) (by simp) (AllReadyH.cons (o := { dst := some 9, op := .load 28 (.tmp 8), type := 28, pos := "revoke.go:120", after := #[{ on := 1, ground := .data }], guard := none }) rfl (fun K hK => ?_) (AllReadyH.cons (o := { dst := some 13, op := .load 28 (.tmp 12), type := 28, pos := "revoke.go:120", after := #[{ on := 5, ground := .data }], guard := none }) rfl (fun K hK => ?_) AllReadyH.nil))
 ·
  obtain ⟨v0, a0, a1, a2, a3, a4, a5, a6, a7⟩ := facts8 HR_U.out
  go_simp
  clear v0 a0 a1 a2 a3 a4 a5 a6 a7
  refine hK.out _ _ trivial (fun hHeld2 => ?_)
  clear hK K hHeld
  have hHeld := hHeld2
  clear hHeld2
  try simp only [Act.put, List.setIfInBounds_toArray, List.set_cons_zero, List.set_cons_succ]
  refine wpAnyH_ready (rs := [3, 6]) (by kernel_rfl) (by simp) (AllReadyH.cons (o := { dst := some 10, op := .call { callee := .value (.func 73), args := #[.tmp 9], argTypes := #[28] }, type := 28, pos := "revoke.go:120", after := #[{ on := 2, ground := .data }], guard := none }) rfl (fun K hK => ?_) (AllReadyH.cons (o := { dst := some 13, op := .load 28 (.tmp 12), type := 28, pos := "revoke.go:120", after := #[{ on := 5, ground := .data }], guard := none }) rfl (fun K hK => ?_) AllReadyH.nil))
  ·
   go_simp
   refine (HC2.out U HB_U.out).mono ?_
   rintro e y3 ⟨A2, c2, rfl, s2, l2, hb⟩
   have HR_y3 := Lib.hid (row_on HR_U.out hb)
   have HZ_y3 := Lib.hid (row_on HZ_U.out hb)
   have HN_y3 := Lib.hid (HN_U.out.on hb)
   have HB_y3 := Lib.hid (chain HB_U.out hb)
   have HS_y3 := Lib.hid (OwnS.mk s2 (fun g o e => ⟨Nat.le_trans HSZ_U.out (l2 g o e).1, (l2 g o e).2⟩ : OwnRow (w.heap.size + 2) _ 41 _))
   have HSZ_y3 : RowKit.Hid (w.heap.size + 2 ≤ y3.heap.size) := Lib.hid (Nat.le_trans HSZ_U.out hb.size)
   have HAP : RowKit.Hid (∀ g o h q, A1 = some ⟨g, o, none⟩ → A2 = some ⟨h, q, none⟩ → g ≠ h) := Lib.hid (fun g o h q e1 e2 => by have h1 := HN_U.out.lt e1; have h2 := (l2 h q e2).1; omega)
   clear s2 l2 hb
   go_simp
   refine hK.out _ _ trivial (fun hHeld2 => ?_)
   clear hK K hHeld
   have hHeld := hHeld2
   clear hHeld2
   try simp only [Act.put, List.setIfInBounds_toArray, List.set_cons_zero, List.set_cons_succ]
   refine wpAnyH_ready (rs := [6]) (by kernel_rfl) (by simp) (AllReadyH.cons (o := { dst := some 13, op := .load 28 (.tmp 12), type := 28, pos := "revoke.go:120", after := #[{ on := 5, ground := .data }], guard := none }) rfl (fun K hK => ?_) AllReadyH.nil)
   obtain ⟨v0, a0, a1, a2, a3, a4, a5, a6, a7⟩ := facts8 HR_y3.out
   go_simp
   clear v0 a0 a1 a2 a3 a4 a5 a6 a7
   refine hK.out _ _ trivial (fun hHeld2 => ?_)
   clear hK K hHeld
   have hHeld := hHeld2
   clear hHeld2
   try simp only [Act.put, List.setIfInBounds_toArray, List.set_cons_zero, List.set_cons_succ]
   refine wpAnyH_take (i := 8) (oi := { dst := some 15, op := .fieldAddr 32 (.tmp 1) 4, type := 0, pos := "revoke.go:120", after := #[{ on := 0, ground := .phase }, { on := 1, ground := .phase }, { on := 2, ground := .phase }, { on := 3, ground := .phase }, { on := 4, ground := .phase }, { on := 5, ground := .phase }, { on := 6, ground := .phase }, { on := 7, ground := .textOnly .lateStoresUnsure }], guard := none }) (v := ?_) rfl (by kernel_rfl) (by kernel_rfl) (by kernel_rfl) (fun _ _ _ h => h) (Or.inl ⟨by rfl, ?_⟩) hHeld ?_
   rotate_left
   ·
    intro w hSw
    clear hSw
    go_simp
    try with_reducible rfl
   try simp only [Act.put, List.setIfInBounds_toArray, List.set_cons_zero, List.set_cons_succ]
   refine wpAnyH_take (i := 9) (oi := { dst := some 16, op := .fieldAddr 30 (.tmp 15) 1, type := 0, pos := "revoke.go:120", after := #[{ on := 8, ground := .data }, { on := 0, ground := .phase }, { on := 1, ground := .phase }, { on := 2, ground := .phase }, { on := 3, ground := .phase }, { on := 4, ground := .phase }, { on := 5, ground := .phase }, { on := 6, ground := .phase }, { on := 7, ground := .textOnly .lateStoresUnsure }], guard := none }) (v := ?_) rfl (by kernel_rfl) (by kernel_rfl) (by kernel_rfl) (fun _ _ _ h => h) (Or.inl ⟨by rfl, ?_⟩) hHeld ?_
   rotate_left
   ·
    intro w hSw
    clear hSw
    go_simp
    try with_reducible rfl
   try simp only [Act.put, List.setIfInBounds_toArray, List.set_cons_zero, List.set_cons_succ]
   refine wpAnyH_ready (rs := [7]) (by kernel_rfl) (by simp) (AllReadyH.cons (o := { dst := some 14, op := .call { callee := .value (.func 73), args := #[.tmp 13], argTypes := #[28] }, type := 28, pos := "revoke.go:120", after := #[{ on := 6, ground := .data }, { on := 3, ground := .chain }], guard := none }) rfl (fun K hK => ?_) AllReadyH.nil)
   go_simp
   refine (HC3.out y3 HB_y3.out).mono ?_
   rintro e y7 ⟨A3, c3, rfl, s2, l2, hb⟩
   have HR_y7 := Lib.hid (row_on HR_y3.out hb)
   have HZ_y7 := Lib.hid (row_on HZ_y3.out hb)
   have HN_y7 := Lib.hid (HN_y3.out.on hb)
   have HB_y7 := Lib.hid (chain HB_y3.out hb)
   have HT_y7 := Lib.hid (OwnS.mk s2 (fun g o e => ⟨Nat.le_trans HSZ_y3.out (l2 g o e).1, (l2 g o e).2⟩ : OwnRow (w.heap.size + 2) _ 41 _))
   have HSZ_y7 : RowKit.Hid (w.heap.size + 2 ≤ y7.heap.size) := Lib.hid (Nat.le_trans HSZ_y3.out hb.size)
   have HS_y7 := Lib.hid (HS_y3.out.on hb)
   have HW_y7 := Lib.hid (TwW.mk HN_y7.out HS_y7.out HT_y7.out HB_y7.out HAP.out)
   clear HAP
   clear s2 l2 hb
   go_simp
   refine hK.out _ _ trivial (fun hHeld2 => ?_)
   clear hK K hHeld
   have hHeld := hHeld2
   clear hHeld2
   try simp only [Act.put, List.setIfInBounds_toArray, List.set_cons_zero, List.set_cons_succ]
   refine wpAnyH_ready (rs := [10]) (by kernel_rfl) (by simp) (AllReadyH.cons (o := { dst := none, op := .store 28 (.tmp 16) (.tmp 10), type := 0, pos := "revoke.go:120", after := #[{ on := 9, ground := .data }, { on := 3, ground := .data }, { on := 7, ground := .chain }, { on := 0, ground := .phase }, { on := 1, ground := .phase }, { on := 2, ground := .phase }, { on := 3, ground := .phase }, { on := 4, ground := .phase }, { on := 5, ground := .phase }, { on := 6, ground := .phase }, { on := 7, ground := .textOnly .lateStoresUnsure }], guard := none }) rfl (fun K hK => ?_) AllReadyH.nil)
   have HR_y10 := Lib.hid (heap_setCell_same _ _ 6 _ _ (.slice A2 cs.length c2) HR_y7.out)
   have HO := Lib.hid (fun (b : Nat) (h : b ≠ w.heap.size) => Below.heap_setCell y7 ⟨w.heap.size, 6, none⟩ (.slice A2 cs.length c2) b h)
   have HZ_y10 := Lib.hid ((HO.out (w.heap.size + 1) (by omega)).trans HZ_y7.out)
   have HW_y10 := Lib.hid (HW_y7.out.keep0 HO.out (below_setCell (v := .slice A2 cs.length c2) (o := 6) HB_y7.out (Nat.le_refl w.heap.size)))
   have hfz := frozen_of_row y7 _ 6 _ _ HR_y7.out
   obtain ⟨v0, a0, a1, a2, a3, a4, a5, a6, a7⟩ := facts8 HR_y7.out
   go_simp
   clear v0 a0 a1 a2 a3 a4 a5 a6 a7
   clear hfz HO
   generalize World.setCell y7 _ _ = y10 at HR_y10 HZ_y10 HW_y10 ⊢
   have HR_y10 := Lib.hid (show y10.heap[w.heap.size]? = some (.cells #[.string iss, .int .u64 num, .int .i64 fr, .int .i64 tt, .slice A1 xs.length c1, .int .i64 n, .slice A2 cs.length c2, .slice PA ps.length pc] 32 (0, 0)) from HR_y10.out)
   have HB_y10 := Lib.hid HW_y10.out.b
   refine hK.out _ _ trivial (fun hHeld2 => ?_)
   clear hK K hHeld
   have hHeld := hHeld2
   clear hHeld2
   try simp only [Act.put, List.setIfInBounds_toArray, List.set_cons_zero, List.set_cons_succ]
   refine wpAnyH_take (i := 11) (oi := { dst := some 17, op := .fieldAddr 32 (.tmp 1) 4, type := 0, pos := "revoke.go:120", after := #[{ on := 0, ground := .phase }, { on := 1, ground := .phase }, { on := 2, ground := .phase }, { on := 3, ground := .phase }, { on := 4, ground := .phase }, { on := 5, ground := .phase }, { on := 6, ground := .phase }, { on := 7, ground := .phase }, { on := 8, ground := .phase }, { on := 9, ground := .phase }, { on := 10, ground := .phase }], guard := none }) (v := ?_) rfl (by kernel_rfl) (by kernel_rfl) (by kernel_rfl) (fun _ _ _ h => h) (Or.inl ⟨by rfl, ?_⟩) hHeld ?_
   rotate_left
   ·
    intro w hSw
    clear hSw
    go_simp
    try with_reducible rfl
   try simp only [Act.put, List.setIfInBounds_toArray, List.set_cons_zero, List.set_cons_succ]
   refine wpAnyH_take (i := 12) (oi := { dst := some 18, op := .fieldAddr 30 (.tmp 17) 2, type := 0, pos := "revoke.go:120", after := #[{ on := 11, ground := .data }, { on := 0, ground := .phase }, { on := 1, ground := .phase }, { on := 2, ground := .phase }, { on := 3, ground := .phase }, { on := 4, ground := .phase }, { on := 5, ground := .phase }, { on := 6, ground := .phase }, { on := 7, ground := .phase }, { on := 8, ground := .phase }, { on := 9, ground := .phase }, { on := 10, ground := .phase }], guard := none }) (v := ?_) rfl (by kernel_rfl) (by kernel_rfl) (by kernel_rfl) (fun _ _ _ h => h) (Or.inl ⟨by rfl, ?_⟩) hHeld ?_
   rotate_left
   ·
    intro w hSw
    clear hSw
    go_simp
    try with_reducible rfl
   try simp only [Act.put, List.setIfInBounds_toArray, List.set_cons_zero, List.set_cons_succ]
   refine wpAnyH_ready (rs := [13]) (by kernel_rfl) (by simp) (AllReadyH.cons (o := { dst := none, op := .store 28 (.tmp 18) (.tmp 14), type := 0, pos := "revoke.go:120", after := #[{ on := 12, ground := .data }, { on := 7, ground := .data }, { on := 10, ground := .chain }, { on := 0, ground := .phase }, { on := 1, ground := .phase }, { on := 2, ground := .phase }, { on := 3, ground := .phase }, { on := 4, ground := .phase }, { on := 5, ground := .phase }, { on := 6, ground := .phase }, { on := 7, ground := .phase }, { on := 8, ground := .phase }, { on := 9, ground := .phase }, { on := 10, ground := .phase }], guard := none }) rfl (fun K hK => ?_) AllReadyH.nil)
   have HR_y13 := Lib.hid (heap_setCell_same _ _ 7 _ _ (.slice A3 ps.length c3) HR_y10.out)
   have HO := Lib.hid (fun (b : Nat) (h : b ≠ w.heap.size) => Below.heap_setCell y10 ⟨w.heap.size, 7, none⟩ (.slice A3 ps.length c3) b h)
   have HZ_y13 := Lib.hid ((HO.out (w.heap.size + 1) (by omega)).trans HZ_y10.out)
   have HW_y13 := Lib.hid (HW_y10.out.keep0 HO.out (below_setCell (v := .slice A3 ps.length c3) (o := 7) HB_y10.out (Nat.le_refl w.heap.size)))
   have hfz := frozen_of_row y10 _ 7 _ _ HR_y10.out
   obtain ⟨v0, a0, a1, a2, a3, a4, a5, a6, a7⟩ := facts8 HR_y10.out
   go_simp
   clear v0 a0 a1 a2 a3 a4 a5 a6 a7
   clear hfz HO
   generalize World.setCell y10 _ _ = y13 at HR_y13 HZ_y13 HW_y13 ⊢
   have HR_y13 := Lib.hid (show y13.heap[w.heap.size]? = some (.cells #[.string iss, .int .u64 num, .int .i64 fr, .int .i64 tt, .slice A1 xs.length c1, .int .i64 n, .slice A2 cs.length c2, .slice A3 ps.length c3] 32 (0, 0)) from HR_y13.out)
   have HB_y13 := Lib.hid HW_y13.out.b
   refine hK.out _ _ trivial (fun hHeld2 => ?_)
   clear hK K hHeld
   have hHeld := hHeld2
   clear hHeld2
   try simp only [Act.put, List.setIfInBounds_toArray, List.set_cons_zero, List.set_cons_succ]
   refine wpAnyH_done (by kernel_rfl) ?_ _
   go_wp2_with (first | (refine wpList_load_row rfl 32 (.tmp 1) rfl w.heap.size rfl 32 #[.string iss, .int .u64 num, .int .i64 fr, .int .i64 tt, .slice A1 xs.length c1, .int .i64 n, .slice A2 cs.length c2, .slice A3 ps.length c3] (0, 0) _ HR_y13.out Tryz.underlying32 rfl (sz8 _ rfl) ?_) | (refine wpList_store_mid rfl 32 (.tmp 2) (.tmp 19) rfl (w.heap.size + 1) 0 #[.string iss, .int .u64 num, .int .i64 fr, .int .i64 tt, .slice A1 xs.length c1, .int .i64 n, .slice A2 cs.length c2, .slice A3 ps.length c3] rfl rfl (there_row HZ_y13.out 8 (show 8 ≤ 8 by decide)) (sz8 _ rfl) (by simp [Value.oneCell']) ?_))
   have HR5 := Lib.hid (row_setCells HZ_y13.out (cs := #[.string iss, .int .u64 num, .int .i64 fr, .int .i64 tt, .slice A1 xs.length c1, .int .i64 n, .slice A2 cs.length c2, .slice A3 ps.length c3]) rfl)
   have HO := Lib.hid (fun (b : Nat) (h : b ≠ w.heap.size + 1) => heap_setCells_other [.string iss, .int .u64 num, .int .i64 fr, .int .i64 tt, .slice A1 xs.length c1, .int .i64 n, .slice A2 cs.length c2, .slice A3 ps.length c3] 0 y13 h)
   have HW5 := Lib.hid (HW_y13.out.keep HO.out (below_setCells [.string iss, .int .u64 num, .int .i64 fr, .int .i64 tt, .slice A1 xs.length c1, .int .i64 n, .slice A2 cs.length c2, .slice A3 ps.length c3] 0 y13 HB_y13.out (show w.heap.size ≤ w.heap.size + 1 by omega)))
   clear HO
   generalize World.setCells y13 _ _ _ = W5 at HR5 HW5 ⊢
   refine bodyPost_ret (v := .agg #[.string iss, .int .u64 num, .int .i64 fr, .int .i64 tt, .slice A1 xs.length c1, .int .i64 n, .slice A2 cs.length c2, .slice A3 ps.length c3]) (results_cell_row rfl _ _ (w.heap.size + 1) 32 _ (0, 0) _ rfl HR5.out Tryz.underlying32 rfl (sz8 _ rfl)) rfl ⟨⟨A1, c1, A2, c2, A3, c3⟩, rfl, ⟨HW5.out.n.nums, HW5.out.s.shs, HW5.out.t.shs, J1.out, J2.out, J3.out⟩, HW5.out.b, fun g o e => ⟨by have := (HW5.out.n.own g o e).1; omega, (HW5.out.n.own g o e).2⟩, fun g o e => ⟨by have := (HW5.out.s.own g o e).1; omega, (HW5.out.s.own g o e).2⟩, HW5.out.ap⟩
  ·
   obtain ⟨v0, a0, a1, a2, a3, a4, a5, a6, a7⟩ := facts8 HR_U.out
   go_simp
   clear v0 a0 a1 a2 a3 a4 a5 a6 a7
   refine hK.out _ _ trivial (fun hHeld2 => ?_)
   clear hK K hHeld
   have hHeld := hHeld2
   clear hHeld2
   try simp only [Act.put, List.setIfInBounds_toArray, List.set_cons_zero, List.set_cons_succ]
   refine wpAnyH_ready (rs := [3]) (by kernel_rfl) (by simp) (AllReadyH.cons (o := { dst := some 10, op := .call { callee := .value (.func 73), args := #[.tmp 9], argTypes := #[28] }, type := 28, pos := "revoke.go:120", after := #[{ on := 2, ground := .data }], guard := none }) rfl (fun K hK => ?_) AllReadyH.nil)
   go_simp
   refine (HC2.out U HB_U.out).mono ?_
   rintro e y3 ⟨A2, c2, rfl, s2, l2, hb⟩
   have HR_y3 := Lib.hid (row_on HR_U.out hb)
   have HZ_y3 := Lib.hid (row_on HZ_U.out hb)
   have HN_y3 := Lib.hid (HN_U.out.on hb)
   have HB_y3 := Lib.hid (chain HB_U.out hb)
   have HS_y3 := Lib.hid (OwnS.mk s2 (fun g o e => ⟨Nat.le_trans HSZ_U.out (l2 g o e).1, (l2 g o e).2⟩ : OwnRow (w.heap.size + 2) _ 41 _))
   have HSZ_y3 : RowKit.Hid (w.heap.size + 2 ≤ y3.heap.size) := Lib.hid (Nat.le_trans HSZ_U.out hb.size)
   have HAP : RowKit.Hid (∀ g o h q, A1 = some ⟨g, o, none⟩ → A2 = some ⟨h, q, none⟩ → g ≠ h) := Lib.hid (fun g o h q e1 e2 => by have h1 := HN_U.out.lt e1; have h2 := (l2 h q e2).1; omega)
   clear s2 l2 hb
   go_simp
   refine hK.out _ _ trivial (fun hHeld2 => ?_)
   clear hK K hHeld
   have hHeld := hHeld2
   clear hHeld2
   try simp only [Act.put, List.setIfInBounds_toArray, List.set_cons_zero, List.set_cons_succ]
   refine wpAnyH_take (i := 8) (oi := { dst := some 15, op := .fieldAddr 32 (.tmp 1) 4, type := 0, pos := "revoke.go:120", after := #[{ on := 0, ground := .phase }, { on := 1, ground := .phase }, { on := 2, ground := .phase }, { on := 3, ground := .phase }, { on := 4, ground := .phase }, { on := 5, ground := .phase }, { on := 6, ground := .phase }, { on := 7, ground := .textOnly .lateStoresUnsure }], guard := none }) (v := ?_) rfl (by kernel_rfl) (by kernel_rfl) (by kernel_rfl) (fun _ _ _ h => h) (Or.inl ⟨by rfl, ?_⟩) hHeld ?_
   rotate_left
   ·
    intro w hSw
    clear hSw
    go_simp
    try with_reducible rfl
   try simp only [Act.put, List.setIfInBounds_toArray, List.set_cons_zero, List.set_cons_succ]
   refine wpAnyH_take (i := 9) (oi := { dst := some 16, op := .fieldAddr 30 (.tmp 15) 1, type := 0, pos := "revoke.go:120", after := #[{ on := 8, ground := .data }, { on := 0, ground := .phase }, { on := 1, ground := .phase }, { on := 2, ground := .phase }, { on := 3, ground := .phase }, { on := 4, ground := .phase }, { on := 5, ground := .phase }, { on := 6, ground := .phase }, { on := 7, ground := .textOnly .lateStoresUnsure }], guard := none }) (v := ?_) rfl (by kernel_rfl) (by kernel_rfl) (by kernel_rfl) (fun _ _ _ h => h) (Or.inl ⟨by rfl, ?_⟩) hHeld ?_
   rotate_left
   ·
    intro w hSw
    clear hSw
    go_simp
    try with_reducible rfl
   try simp only [Act.put, List.setIfInBounds_toArray, List.set_cons_zero, List.set_cons_succ]
   refine wpAnyH_ready (rs := [7]) (by kernel_rfl) (by simp) (AllReadyH.cons (o := { dst := some 14, op := .call { callee := .value (.func 73), args := #[.tmp 13], argTypes := #[28] }, type := 28, pos := "revoke.go:120", after := #[{ on := 6, ground := .data }, { on := 3, ground := .chain }], guard := none }) rfl (fun K hK => ?_) AllReadyH.nil)
   go_simp
   refine (HC3.out y3 HB_y3.out).mono ?_
   rintro e y7 ⟨A3, c3, rfl, s2, l2, hb⟩
   have HR_y7 := Lib.hid (row_on HR_y3.out hb)
   have HZ_y7 := Lib.hid (row_on HZ_y3.out hb)
   have HN_y7 := Lib.hid (HN_y3.out.on hb)
   have HB_y7 := Lib.hid (chain HB_y3.out hb)
   have HT_y7 := Lib.hid (OwnS.mk s2 (fun g o e => ⟨Nat.le_trans HSZ_y3.out (l2 g o e).1, (l2 g o e).2⟩ : OwnRow (w.heap.size + 2) _ 41 _))
   have HSZ_y7 : RowKit.Hid (w.heap.size + 2 ≤ y7.heap.size) := Lib.hid (Nat.le_trans HSZ_y3.out hb.size)
   have HS_y7 := Lib.hid (HS_y3.out.on hb)
   have HW_y7 := Lib.hid (TwW.mk HN_y7.out HS_y7.out HT_y7.out HB_y7.out HAP.out)
   clear HAP
   clear s2 l2 hb
   go_simp
   refine hK.out _ _ trivial (fun hHeld2 => ?_)
   clear hK K hHeld
   have hHeld := hHeld2
   clear hHeld2
   try simp only [Act.put, List.setIfInBounds_toArray, List.set_cons_zero, List.set_cons_succ]
   refine wpAnyH_ready (rs := [10]) (by kernel_rfl) (by simp) (AllReadyH.cons (o := { dst := none, op := .store 28 (.tmp 16) (.tmp 10), type := 0, pos := "revoke.go:120", after := #[{ on := 9, ground := .data }, { on := 3, ground := .data }, { on := 7, ground := .chain }, { on := 0, ground := .phase }, { on := 1, ground := .phase }, { on := 2, ground := .phase }, { on := 3, ground := .phase }, { on := 4, ground := .phase }, { on := 5, ground := .phase }, { on := 6, ground := .phase }, { on := 7, ground := .textOnly .lateStoresUnsure }], guard := none }) rfl (fun K hK => ?_) AllReadyH.nil)
   have HR_y10 := Lib.hid (heap_setCell_same _ _ 6 _ _ (.slice A2 cs.length c2) HR_y7.out)
   have HO := Lib.hid (fun (b : Nat) (h : b ≠ w.heap.size) => Below.heap_setCell y7 ⟨w.heap.size, 6, none⟩ (.slice A2 cs.length c2) b h)
   have HZ_y10 := Lib.hid ((HO.out (w.heap.size + 1) (by omega)).trans HZ_y7.out)
   have HW_y10 := Lib.hid (HW_y7.out.keep0 HO.out (below_setCell (v := .slice A2 cs.length c2) (o := 6) HB_y7.out (Nat.le_refl w.heap.size)))
   have hfz := frozen_of_row y7 _ 6 _ _ HR_y7.out
   obtain ⟨v0, a0, a1, a2, a3, a4, a5, a6, a7⟩ := facts8 HR_y7.out
   go_simp
   clear v0 a0 a1 a2 a3 a4 a5 a6 a7
   clear hfz HO
   generalize World.setCell y7 _ _ = y10 at HR_y10 HZ_y10 HW_y10 ⊢
   have HR_y10 := Lib.hid (show y10.heap[w.heap.size]? = some (.cells #[.string iss, .int .u64 num, .int .i64 fr, .int .i64 tt, .slice A1 xs.length c1, .int .i64 n, .slice A2 cs.length c2, .slice PA ps.length pc] 32 (0, 0)) from HR_y10.out)
   have HB_y10 := Lib.hid HW_y10.out.b
   refine hK.out _ _ trivial (fun hHeld2 => ?_)
   clear hK K hHeld
   have hHeld := hHeld2
   clear hHeld2
   try simp only [Act.put, List.setIfInBounds_toArray, List.set_cons_zero, List.set_cons_succ]
   refine wpAnyH_take (i := 11) (oi := { dst := some 17, op := .fieldAddr 32 (.tmp 1) 4, type := 0, pos := "revoke.go:120", after := #[{ on := 0, ground := .phase }, { on := 1, ground := .phase }, { on := 2, ground := .phase }, { on := 3, ground := .phase }, { on := 4, ground := .phase }, { on := 5, ground := .phase }, { on := 6, ground := .phase }, { on := 7, ground := .phase }, { on := 8, ground := .phase }, { on := 9, ground := .phase }, { on := 10, ground := .phase }], guard := none }) (v := ?_) rfl (by kernel_rfl) (by kernel_rfl) (by kernel_rfl) (fun _ _ _ h => h) (Or.inl ⟨by rfl, ?_⟩) hHeld ?_
   rotate_left
   ·
    intro w hSw
    clear hSw
    go_simp
    try with_reducible rfl
   try simp only [Act.put, List.setIfInBounds_toArray, List.set_cons_zero, List.set_cons_succ]
   refine wpAnyH_take (i := 12) (oi := { dst := some 18, op := .fieldAddr 30 (.tmp 17) 2, type := 0, pos := "revoke.go:120", after := #[{ on := 11, ground := .data }, { on := 0, ground := .phase }, { on := 1, ground := .phase }, { on := 2, ground := .phase }, { on := 3, ground := .phase }, { on := 4, ground := .phase }, { on := 5, ground := .phase }, { on := 6, ground := .phase }, { on := 7, ground := .phase }, { on := 8, ground := .phase }, { on := 9, ground := .phase }, { on := 10, ground := .phase }], guard := none }) (v := ?_) rfl (by kernel_rfl) (by kernel_rfl) (by kernel_rfl) (fun _ _ _ h => h) (Or.inl ⟨by rfl, ?_⟩) hHeld ?_
   rotate_left
   ·
    intro w hSw
    clear hSw
    go_simp
    try with_reducible rfl
   try simp only [Act.put, List.setIfInBounds_toArray, List.set_cons_zero, List.set_cons_succ]
   refine wpAnyH_ready (rs := [13]) (by kernel_rfl) (by simp) (AllReadyH.cons (o := { dst := none, op := .store 28 (.tmp 18) (.tmp 14), type := 0, pos := "revoke.go:120", after := #[{ on := 12, ground := .data }, { on := 7, ground := .data }, { on := 10, ground := .chain }, { on := 0, ground := .phase }, { on := 1, ground := .phase }, { on := 2, ground := .phase }, { on := 3, ground := .phase }, { on := 4, ground := .phase }, { on := 5, ground := .phase }, { on := 6, ground := .phase }, { on := 7, ground := .phase }, { on := 8, ground := .phase }, { on := 9, ground := .phase }, { on := 10, ground := .phase }], guard := none }) rfl (fun K hK => ?_) AllReadyH.nil)
   have HR_y13 := Lib.hid (heap_setCell_same _ _ 7 _ _ (.slice A3 ps.length c3) HR_y10.out)
   have HO := Lib.hid (fun (b : Nat) (h : b ≠ w.heap.size) => Below.heap_setCell y10 ⟨w.heap.size, 7, none⟩ (.slice A3 ps.length c3) b h)
   have HZ_y13 := Lib.hid ((HO.out (w.heap.size + 1) (by omega)).trans HZ_y10.out)
   have HW_y13 := Lib.hid (HW_y10.out.keep0 HO.out (below_setCell (v := .slice A3 ps.length c3) (o := 7) HB_y10.out (Nat.le_refl w.heap.size)))
   have hfz := frozen_of_row y10 _ 7 _ _ HR_y10.out
   obtain ⟨v0, a0, a1, a2, a3, a4, a5, a6, a7⟩ := facts8 HR_y10.out
   go_simp
   clear v0 a0 a1 a2 a3 a4 a5 a6 a7
   clear hfz HO
   generalize World.setCell y10 _ _ = y13 at HR_y13 HZ_y13 HW_y13 ⊢
   have HR_y13 := Lib.hid (show y13.heap[w.heap.size]? = some (.cells #[.string iss, .int .u64 num, .int .i64 fr, .int .i64 tt, .slice A1 xs.length c1, .int .i64 n, .slice A2 cs.length c2, .slice A3 ps.length c3] 32 (0, 0)) from HR_y13.out)
   have HB_y13 := Lib.hid HW_y13.out.b
   refine hK.out _ _ trivial (fun hHeld2 => ?_)
   clear hK K hHeld
   have hHeld := hHeld2
   clear hHeld2
   try simp only [Act.put, List.setIfInBounds_toArray, List.set_cons_zero, List.set_cons_succ]
   refine wpAnyH_done (by kernel_rfl) ?_ _
   go_wp2_with (first | (refine wpList_load_row rfl 32 (.tmp 1) rfl w.heap.size rfl 32 #[.string iss, .int .u64 num, .int .i64 fr, .int .i64 tt, .slice A1 xs.length c1, .int .i64 n, .slice A2 cs.length c2, .slice A3 ps.length c3] (0, 0) _ HR_y13.out Tryz.underlying32 rfl (sz8 _ rfl) ?_) | (refine wpList_store_mid rfl 32 (.tmp 2) (.tmp 19) rfl (w.heap.size + 1) 0 #[.string iss, .int .u64 num, .int .i64 fr, .int .i64 tt, .slice A1 xs.length c1, .int .i64 n, .slice A2 cs.length c2, .slice A3 ps.length c3] rfl rfl (there_row HZ_y13.out 8 (show 8 ≤ 8 by decide)) (sz8 _ rfl) (by simp [Value.oneCell']) ?_))
   have HR5 := Lib.hid (row_setCells HZ_y13.out (cs := #[.string iss, .int .u64 num, .int .i64 fr, .int .i64 tt, .slice A1 xs.length c1, .int .i64 n, .slice A2 cs.length c2, .slice A3 ps.length c3]) rfl)
   have HO := Lib.hid (fun (b : Nat) (h : b ≠ w.heap.size + 1) => heap_setCells_other [.string iss, .int .u64 num, .int .i64 fr, .int .i64 tt, .slice A1 xs.length c1, .int .i64 n, .slice A2 cs.length c2, .slice A3 ps.length c3] 0 y13 h)
   have HW5 := Lib.hid (HW_y13.out.keep HO.out (below_setCells [.string iss, .int .u64 num, .int .i64 fr, .int .i64 tt, .slice A1 xs.length c1, .int .i64 n, .slice A2 cs.length c2, .slice A3 ps.length c3] 0 y13 HB_y13.out (show w.heap.size ≤ w.heap.size + 1 by omega)))
   clear HO
   generalize World.setCells y13 _ _ _ = W5 at HR5 HW5 ⊢
   refine bodyPost_ret (v := .agg #[.string iss, .int .u64 num, .int .i64 fr, .int .i64 tt, .slice A1 xs.length c1, .int .i64 n, .slice A2 cs.length c2, .slice A3 ps.length c3]) (results_cell_row rfl _ _ (w.heap.size + 1) 32 _ (0, 0) _ rfl HR5.out Tryz.underlying32 rfl (sz8 _ rfl)) rfl ⟨⟨A1, c1, A2, c2, A3, c3⟩, rfl, ⟨HW5.out.n.nums, HW5.out.s.shs, HW5.out.t.shs, J1.out, J2.out, J3.out⟩, HW5.out.b, fun g o e => ⟨by have := (HW5.out.n.own g o e).1; omega, (HW5.out.n.own g o e).2⟩, fun g o e => ⟨by have := (HW5.out.s.own g o e).1; omega, (HW5.out.s.own g o e).2⟩, HW5.out.ap⟩
 ·
  obtain ⟨v0, a0, a1, a2, a3, a4, a5, a6, a7⟩ := facts8 HR_U.out
  go_simp
  clear v0 a0 a1 a2 a3 a4 a5 a6 a7
  refine hK.out _ _ trivial (fun hHeld2 => ?_)
  clear hK K hHeld
  have hHeld := hHeld2
  clear hHeld2
  try simp only [Act.put, List.setIfInBounds_toArray, List.set_cons_zero, List.set_cons_succ]
  refine wpAnyH_ready (rs := [2]) (by kernel_rfl) (by simp) (AllReadyH.cons (o := { dst := some 9, op := .load 28 (.tmp 8), type := 28, pos := "revoke.go:120", after := #[{ on := 1, ground := .data }], guard := none }) rfl (fun K hK => ?_) AllReadyH.nil)
  obtain ⟨v0, a0, a1, a2, a3, a4, a5, a6, a7⟩ := facts8 HR_U.out
  go_simp
  clear v0 a0 a1 a2 a3 a4 a5 a6 a7
  refine hK.out _ _ trivial (fun hHeld2 => ?_)
  clear hK K hHeld
  have hHeld := hHeld2
  clear hHeld2
  try simp only [Act.put, List.setIfInBounds_toArray, List.set_cons_zero, List.set_cons_succ]
  refine wpAnyH_ready (rs := [3]) (by kernel_rfl) (by simp) (AllReadyH.cons (o := { dst := some 10, op := .call { callee := .value (.func 73), args := #[.tmp 9], argTypes := #[28] }, type := 28, pos := "revoke.go:120", after := #[{ on := 2, ground := .data }], guard := none }) rfl (fun K hK => ?_) AllReadyH.nil)
  go_simp
  refine (HC2.out U HB_U.out).mono ?_
  rintro e y3 ⟨A2, c2, rfl, s2, l2, hb⟩
  have HR_y3 := Lib.hid (row_on HR_U.out hb)
  have HZ_y3 := Lib.hid (row_on HZ_U.out hb)
  have HN_y3 := Lib.hid (HN_U.out.on hb)
  have HB_y3 := Lib.hid (chain HB_U.out hb)
  have HS_y3 := Lib.hid (OwnS.mk s2 (fun g o e => ⟨Nat.le_trans HSZ_U.out (l2 g o e).1, (l2 g o e).2⟩ : OwnRow (w.heap.size + 2) _ 41 _))
  have HSZ_y3 : RowKit.Hid (w.heap.size + 2 ≤ y3.heap.size) := Lib.hid (Nat.le_trans HSZ_U.out hb.size)
  have HAP : RowKit.Hid (∀ g o h q, A1 = some ⟨g, o, none⟩ → A2 = some ⟨h, q, none⟩ → g ≠ h) := Lib.hid (fun g o h q e1 e2 => by have h1 := HN_U.out.lt e1; have h2 := (l2 h q e2).1; omega)
  clear s2 l2 hb
  go_simp
  refine hK.out _ _ trivial (fun hHeld2 => ?_)
  clear hK K hHeld
  have hHeld := hHeld2
  clear hHeld2
  try simp only [Act.put, List.setIfInBounds_toArray, List.set_cons_zero, List.set_cons_succ]
  refine wpAnyH_take (i := 8) (oi := { dst := some 15, op := .fieldAddr 32 (.tmp 1) 4, type := 0, pos := "revoke.go:120", after := #[{ on := 0, ground := .phase }, { on := 1, ground := .phase }, { on := 2, ground := .phase }, { on := 3, ground := .phase }, { on := 4, ground := .phase }, { on := 5, ground := .phase }, { on := 6, ground := .phase }, { on := 7, ground := .textOnly .lateStoresUnsure }], guard := none }) (v := ?_) rfl (by kernel_rfl) (by kernel_rfl) (by kernel_rfl) (fun _ _ _ h => h) (Or.inl ⟨by rfl, ?_⟩) hHeld ?_
  rotate_left
  ·
   intro w hSw
   clear hSw
   go_simp
   try with_reducible rfl
  try simp only [Act.put, List.setIfInBounds_toArray, List.set_cons_zero, List.set_cons_succ]
  refine wpAnyH_take (i := 9) (oi := { dst := some 16, op := .fieldAddr 30 (.tmp 15) 1, type := 0, pos := "revoke.go:120", after := #[{ on := 8, ground := .data }, { on := 0, ground := .phase }, { on := 1, ground := .phase }, { on := 2, ground := .phase }, { on := 3, ground := .phase }, { on := 4, ground := .phase }, { on := 5, ground := .phase }, { on := 6, ground := .phase }, { on := 7, ground := .textOnly .lateStoresUnsure }], guard := none }) (v := ?_) rfl (by kernel_rfl) (by kernel_rfl) (by kernel_rfl) (fun _ _ _ h => h) (Or.inl ⟨by rfl, ?_⟩) hHeld ?_
  rotate_left
  ·
   intro w hSw
   clear hSw
   go_simp
   try with_reducible rfl
  try simp only [Act.put, List.setIfInBounds_toArray, List.set_cons_zero, List.set_cons_succ]
  refine wpAnyH_ready (rs := [7]) (by kernel_rfl) (by simp) (AllReadyH.cons (o := { dst := some 14, op := .call { callee := .value (.func 73), args := #[.tmp 13], argTypes := #[28] }, type := 28, pos := "revoke.go:120", after := #[{ on := 6, ground := .data }, { on := 3, ground := .chain }], guard := none }) rfl (fun K hK => ?_) AllReadyH.nil)
  go_simp
  refine (HC3.out y3 HB_y3.out).mono ?_
  rintro e y7 ⟨A3, c3, rfl, s2, l2, hb⟩
  have HR_y7 := Lib.hid (row_on HR_y3.out hb)
  have HZ_y7 := Lib.hid (row_on HZ_y3.out hb)
  have HN_y7 := Lib.hid (HN_y3.out.on hb)
  have HB_y7 := Lib.hid (chain HB_y3.out hb)
  have HT_y7 := Lib.hid (OwnS.mk s2 (fun g o e => ⟨Nat.le_trans HSZ_y3.out (l2 g o e).1, (l2 g o e).2⟩ : OwnRow (w.heap.size + 2) _ 41 _))
  have HSZ_y7 : RowKit.Hid (w.heap.size + 2 ≤ y7.heap.size) := Lib.hid (Nat.le_trans HSZ_y3.out hb.size)
  have HS_y7 := Lib.hid (HS_y3.out.on hb)
  have HW_y7 := Lib.hid (TwW.mk HN_y7.out HS_y7.out HT_y7.out HB_y7.out HAP.out)
  clear HAP
  clear s2 l2 hb
  go_simp
  refine hK.out _ _ trivial (fun hHeld2 => ?_)
  clear hK K hHeld
  have hHeld := hHeld2
  clear hHeld2
  try simp only [Act.put, List.setIfInBounds_toArray, List.set_cons_zero, List.set_cons_succ]
  refine wpAnyH_ready (rs := [10]) (by kernel_rfl) (by simp) (AllReadyH.cons (o := { dst := none, op := .store 28 (.tmp 16) (.tmp 10), type := 0, pos := "revoke.go:120", after := #[{ on := 9, ground := .data }, { on := 3, ground := .data }, { on := 7, ground := .chain }, { on := 0, ground := .phase }, { on := 1, ground := .phase }, { on := 2, ground := .phase }, { on := 3, ground := .phase }, { on := 4, ground := .phase }, { on := 5, ground := .phase }, { on := 6, ground := .phase }, { on := 7, ground := .textOnly .lateStoresUnsure }], guard := none }) rfl (fun K hK => ?_) AllReadyH.nil)
  have HR_y10 := Lib.hid (heap_setCell_same _ _ 6 _ _ (.slice A2 cs.length c2) HR_y7.out)
  have HO := Lib.hid (fun (b : Nat) (h : b ≠ w.heap.size) => Below.heap_setCell y7 ⟨w.heap.size, 6, none⟩ (.slice A2 cs.length c2) b h)
  have HZ_y10 := Lib.hid ((HO.out (w.heap.size + 1) (by omega)).trans HZ_y7.out)
  have HW_y10 := Lib.hid (HW_y7.out.keep0 HO.out (below_setCell (v := .slice A2 cs.length c2) (o := 6) HB_y7.out (Nat.le_refl w.heap.size)))
  have hfz := frozen_of_row y7 _ 6 _ _ HR_y7.out
  obtain ⟨v0, a0, a1, a2, a3, a4, a5, a6, a7⟩ := facts8 HR_y7.out
  go_simp
  clear v0 a0 a1 a2 a3 a4 a5 a6 a7
  clear hfz HO
  generalize World.setCell y7 _ _ = y10 at HR_y10 HZ_y10 HW_y10 ⊢
  have HR_y10 := Lib.hid (show y10.heap[w.heap.size]? = some (.cells #[.string iss, .int .u64 num, .int .i64 fr, .int .i64 tt, .slice A1 xs.length c1, .int .i64 n, .slice A2 cs.length c2, .slice PA ps.length pc] 32 (0, 0)) from HR_y10.out)
  have HB_y10 := Lib.hid HW_y10.out.b
  refine hK.out _ _ trivial (fun hHeld2 => ?_)
  clear hK K hHeld
  have hHeld := hHeld2
  clear hHeld2
  try simp only [Act.put, List.setIfInBounds_toArray, List.set_cons_zero, List.set_cons_succ]
  refine wpAnyH_take (i := 11) (oi := { dst := some 17, op := .fieldAddr 32 (.tmp 1) 4, type := 0, pos := "revoke.go:120", after := #[{ on := 0, ground := .phase }, { on := 1, ground := .phase }, { on := 2, ground := .phase }, { on := 3, ground := .phase }, { on := 4, ground := .phase }, { on := 5, ground := .phase }, { on := 6, ground := .phase }, { on := 7, ground := .phase }, { on := 8, ground := .phase }, { on := 9, ground := .phase }, { on := 10, ground := .phase }], guard := none }) (v := ?_) rfl (by kernel_rfl) (by kernel_rfl) (by kernel_rfl) (fun _ _ _ h => h) (Or.inl ⟨by rfl, ?_⟩) hHeld ?_
  rotate_left
  ·
   intro w hSw
   clear hSw
   go_simp
   try with_reducible rfl
  try simp only [Act.put, List.setIfInBounds_toArray, List.set_cons_zero, List.set_cons_succ]
  refine wpAnyH_take (i := 12) (oi := { dst := some 18, op := .fieldAddr 30 (.tmp 17) 2, type := 0, pos := "revoke.go:120", after := #[{ on := 11, ground := .data }, { on := 0, ground := .phase }, { on := 1, ground := .phase }, { on := 2, ground := .phase }, { on := 3, ground := .phase }, { on := 4, ground := .phase }, { on := 5, ground := .phase }, { on := 6, ground := .phase }, { on := 7, ground := .phase }, { on := 8, ground := .phase }, { on := 9, ground := .phase }, { on := 10, ground := .phase }], guard := none }) (v := ?_) rfl (by kernel_rfl) (by kernel_rfl) (by kernel_rfl) (fun _ _ _ h => h) (Or.inl ⟨by rfl, ?_⟩) hHeld ?_
  rotate_left
  ·
   intro w hSw
   clear hSw
   go_simp
   try with_reducible rfl
  try simp only [Act.put, List.setIfInBounds_toArray, List.set_cons_zero, List.set_cons_succ]
  refine wpAnyH_ready (rs := [13]) (by kernel_rfl) (by simp) (AllReadyH.cons (o := { dst := none, op := .store 28 (.tmp 18) (.tmp 14), type := 0, pos := "revoke.go:120", after := #[{ on := 12, ground := .data }, { on := 7, ground := .data }, { on := 10, ground := .chain }, { on := 0, ground := .phase }, { on := 1, ground := .phase }, { on := 2, ground := .phase }, { on := 3, ground := .phase }, { on := 4, ground := .phase }, { on := 5, ground := .phase }, { on := 6, ground := .phase }, { on := 7, ground := .phase }, { on := 8, ground := .phase }, { on := 9, ground := .phase }, { on := 10, ground := .phase }], guard := none }) rfl (fun K hK => ?_) AllReadyH.nil)
  have HR_y13 := Lib.hid (heap_setCell_same _ _ 7 _ _ (.slice A3 ps.length c3) HR_y10.out)
  have HO := Lib.hid (fun (b : Nat) (h : b ≠ w.heap.size) => Below.heap_setCell y10 ⟨w.heap.size, 7, none⟩ (.slice A3 ps.length c3) b h)
  have HZ_y13 := Lib.hid ((HO.out (w.heap.size + 1) (by omega)).trans HZ_y10.out)
  have HW_y13 := Lib.hid (HW_y10.out.keep0 HO.out (below_setCell (v := .slice A3 ps.length c3) (o := 7) HB_y10.out (Nat.le_refl w.heap.size)))
  have hfz := frozen_of_row y10 _ 7 _ _ HR_y10.out
  obtain ⟨v0, a0, a1, a2, a3, a4, a5, a6, a7⟩ := facts8 HR_y10.out
  go_simp
  clear v0 a0 a1 a2 a3 a4 a5 a6 a7
  clear hfz HO
  generalize World.setCell y10 _ _ = y13 at HR_y13 HZ_y13 HW_y13 ⊢
  have HR_y13 := Lib.hid (show y13.heap[w.heap.size]? = some (.cells #[.string iss, .int .u64 num, .int .i64 fr, .int .i64 tt, .slice A1 xs.length c1, .int .i64 n, .slice A2 cs.length c2, .slice A3 ps.length c3] 32 (0, 0)) from HR_y13.out)
  have HB_y13 := Lib.hid HW_y13.out.b
  refine hK.out _ _ trivial (fun hHeld2 => ?_)
  clear hK K hHeld
  have hHeld := hHeld2
  clear hHeld2
  try simp only [Act.put, List.setIfInBounds_toArray, List.set_cons_zero, List.set_cons_succ]
  refine wpAnyH_done (by kernel_rfl) ?_ _
  go_wp2_with (first | (refine wpList_load_row rfl 32 (.tmp 1) rfl w.heap.size rfl 32 #[.string iss, .int .u64 num, .int .i64 fr, .int .i64 tt, .slice A1 xs.length c1, .int .i64 n, .slice A2 cs.length c2, .slice A3 ps.length c3] (0, 0) _ HR_y13.out Tryz.underlying32 rfl (sz8 _ rfl) ?_) | (refine wpList_store_mid rfl 32 (.tmp 2) (.tmp 19) rfl (w.heap.size + 1) 0 #[.string iss, .int .u64 num, .int .i64 fr, .int .i64 tt, .slice A1 xs.length c1, .int .i64 n, .slice A2 cs.length c2, .slice A3 ps.length c3] rfl rfl (there_row HZ_y13.out 8 (show 8 ≤ 8 by decide)) (sz8 _ rfl) (by simp [Value.oneCell']) ?_))
  have HR5 := Lib.hid (row_setCells HZ_y13.out (cs := #[.string iss, .int .u64 num, .int .i64 fr, .int .i64 tt, .slice A1 xs.length c1, .int .i64 n, .slice A2 cs.length c2, .slice A3 ps.length c3]) rfl)
  have HO := Lib.hid (fun (b : Nat) (h : b ≠ w.heap.size + 1) => heap_setCells_other [.string iss, .int .u64 num, .int .i64 fr, .int .i64 tt, .slice A1 xs.length c1, .int .i64 n, .slice A2 cs.length c2, .slice A3 ps.length c3] 0 y13 h)
  have HW5 := Lib.hid (HW_y13.out.keep HO.out (below_setCells [.string iss, .int .u64 num, .int .i64 fr, .int .i64 tt, .slice A1 xs.length c1, .int .i64 n, .slice A2 cs.length c2, .slice A3 ps.length c3] 0 y13 HB_y13.out (show w.heap.size ≤ w.heap.size + 1 by omega)))
  clear HO
  generalize World.setCells y13 _ _ _ = W5 at HR5 HW5 ⊢
  refine bodyPost_ret (v := .agg #[.string iss, .int .u64 num, .int .i64 fr, .int .i64 tt, .slice A1 xs.length c1, .int .i64 n, .slice A2 cs.length c2, .slice A3 ps.length c3]) (results_cell_row rfl _ _ (w.heap.size + 1) 32 _ (0, 0) _ rfl HR5.out Tryz.underlying32 rfl (sz8 _ rfl)) rfl ⟨⟨A1, c1, A2, c2, A3, c3⟩, rfl, ⟨HW5.out.n.nums, HW5.out.s.shs, HW5.out.t.shs, J1.out, J2.out, J3.out⟩, HW5.out.b, fun g o e => ⟨by have := (HW5.out.n.own g o e).1; omega, (HW5.out.n.own g o e).2⟩, fun g o e => ⟨by have := (HW5.out.s.own g o e).1; omega, (HW5.out.s.own g o e).2⟩, HW5.out.ap⟩
end Sg
end Go.Proofs.YtcgffkkfeimifaaGreatDoor
namespace Go.Proofs.YtcgffkkfeimifaaGreatDoor
namespace Sg
open Go.RowKit Sha
set_option linter.unusedVariables false
set_option linter.unusedSimpArgs false
theorem row_ne {z : World} {g h : Nat} {c d : Array Value} {S T : TypeId} (h1 : z.heap[g]? = some (.cells c S (0, 0))) (h2 : z.heap[h]? = some (.cells d T (0, 0))) (hne : S ≠ T) : g ≠ h := fun e => by
 subst e
 rw [h1] at h2
 injection h2 with h3
 injection h3 with _ h4
 exact hne h4
end Sg
end Go.Proofs.YtcgffkkfeimifaaGreatDoor
namespace Go.Proofs.YtcgffkkfeimifaaGreatDoor
namespace Sg
open Go.RowKit Sha
set_option linter.unusedVariables false
set_option linter.unusedSimpArgs false
theorem sz8l (c : List Value) (h : c.length = 8) : (Tryz.prog.info? 32).map (·.size) = some c.length := by
 rw [h]
 kernel_rfl
theorem row_range {z : World} {g : Nat} {cs : List Value} {S : TypeId} {fr : Nat × Nat} (h : z.heap[g]? = some (.cells cs.toArray S fr)) : z.rangeAt g 0 cs := fun j v hj => by
 rw [cell_of_row _ _ _ _ _ _ h, Nat.zero_add]
 simpa using hj
theorem put_row {V W : World} {old cs : Array Value} {S : TypeId} (hW : (V.alloc (.cells old S)).setCells V.heap.size 0 cs.toList = W) (h : old.size = cs.size) : Below V.heap.size V W ∧ W.heap[V.heap.size]? = some (.cells cs S (0, 0)) := by
 subst hW
 exact ⟨below_setCells cs.toList 0 _ (below_new _ _) (Nat.le_refl _), row_setCells (heap_alloc_new V (.cells old S)) h⟩
theorem lchk_any (l : Rl) (p : Mp) (w : World) (hz : l.iss.size ≤ maxLen) (h : Nums p.SA l.ser w) : Calls Tryz.prog 11 #[.agg (rlC l p)] w fun e w' => e = .returned (.int .i64 (rvC l)) ∧ Below w.heap.size w w' :=
 revcheck_any l.iss l.num l.fr l.tt p.SA l.ser p.sc l.sg.idx p.CA p.PA l.sg.cs.length p.cc l.sg.ps.length p.pc hz w h
end Sg
end Go.Proofs.YtcgffkkfeimifaaGreatDoor
namespace Go.Proofs.YtcgffkkfeimifaaGreatDoor
namespace Sg
open Go.RowKit Sha Oc
set_option linter.unusedVariables false
set_option linter.unusedSimpArgs false
theorem flat_take (ls : List (List UInt8)) (k : Nat) (l : List UInt8) (h : ls[k]? = some l) : (ls.take (k + 1)).flatten = (ls.take k).flatten ++ l := by
 rw [List.take_add_one, h, Option.toList_some, List.flatten_append, List.flatten_cons, List.flatten_nil, List.append_nil]
theorem own_onB {w V : World} {b n k : Nat} {v : Value} {xs : List Value} {E : TypeId} (h : w.ownsRow b E k v n xs) (hb : Below w.heap.size w V) : V.ownsRow b E k v n xs := by
 obtain ⟨h1, h2 | ⟨g, cap, cur, hv, h3, h4, h5⟩⟩ := h
 ·
  exact ⟨h1, .inl h2⟩
 ·
  exact ⟨h1, .inr ⟨g, cap, cur, hv, h3, row_on h4 hb, h5⟩⟩
theorem flat_take_len (ls : List (List UInt8)) (h : ∀ l ∈ ls, l.length = 16) (k : Nat) (hk : k ≤ ls.length) : (ls.take k).flatten.length = 16 * k := by
 rw [flat_len _ (fun l hl => h l (List.mem_of_mem_take hl)), List.length_take, Nat.min_eq_left hk]
theorem own_lt {w : World} {b n k : Nat} {v : Value} {xs : List Value} {E : TypeId} {g : Nat} (h : w.ownsRow b E k v n xs) (hk : v.ownBlock = some g) : b ≤ g := by
 obtain ⟨h1, ⟨rfl, _⟩ | ⟨g2, cap, cur, rfl, h3, h4, _⟩⟩ := h
 ·
  cases hk
 ·
  obtain rfl : g2 = g := by simpa [Value.ownBlock] using hk
  exact h3
theorem one_bcells (l : List UInt8) : (bcells l).all (·.oneCell') = true := by
 rw [Array.all_eq_true_iff_forall_mem]
 intro v hv
 unfold bcells at hv
 obtain ⟨x, _, rfl⟩ := by simpa using hv
 rfl
theorem sz_short (l : List UInt8) (h : l.length = 16) : (Tryz.prog.info? 41).map (·.size) = some (bcells l).size := by
 rw [bcells_size, h]
 kernel_rfl
theorem one3 (a b c : Value) (h1 : a.oneCell' = true) (h2 : b.oneCell' = true) (h3 : c.oneCell' = true) : (#[a, b, c] : Array Value).all (·.oneCell') = true := by
 rw [Array.all_eq_true_iff_forall_mem]
 intro v hv
 have : v = a ∨ v = b ∨ v = c := by simpa using hv
 rcases this with rfl | rfl | rfl
 ·
  exact h1
 ·
  exact h2
 ·
  exact h3
theorem leaf_keep {w w' : World} {X : Nat} {c : Array Value} {S : TypeId} {fr : Nat × Nat} {tg : UInt8} {bs : List UInt8} {x y : Value} (h : At (fun _ => True) w (.mk tg bs []) x y) (hr : w.heap[X]? = some (.cells c S fr)) (hc : c.size < bs.length ∨ bs = []) (ho : ∀ b, b ≠ X → w'.heap[b]? = w.heap[b]?) : At (fun _ => True) w' (.mk tg bs []) x y := by
 cases h with
 | mk _ _ _ A cc B d g off vb vl hcc hbm hcn hs hA hd hlm hdn hB h0 h1 h2 hrr =>
  refine .mk tg bs [] A cc B d g off vb vl hcc hbm hcn (fun hne => ?_) hA hd hlm hdn (fun h => absurd rfl h) (fun k o h => by simp at h) (fun k o h => by simp at h) (fun k o h => by simp at h) (fun k o h => by simp at h)
  obtain ⟨ga, oa, e, hcell⟩ := hs hne
  refine ⟨ga, oa, e, fun j z hj => ?_⟩
  have hlen : c.size < bs.length := hc.resolve_right hne
  have hg : ga ≠ X := fun e2 => by
   subst e2
   have h3 := hcell c.size (bs[c.size]'hlen) (List.getElem?_eq_getElem hlen)
   rw [cell_of_row _ _ _ _ _ _ hr, Array.getElem?_eq_none (by omega)] at h3
   cases h3
  have h4 := hcell j z hj
  simp only [World.cell?] at h4 ⊢
  rw [ho ga hg]
  exact h4
set_option maxRecDepth 100000 in
set_option maxHeartbeats 1000000 in
theorem shorts_val (tg : UInt8) (ls : List (List UInt8)) (A : Option Addr) (c : Nat) (hl : ls.length ≤ 4000) (w : World) (h : Shs A ls w) :
  Calls Tryz.prog 60 #[.int .u8 (tg.toNat : Int), .slice A ls.length c] w (SnPost (.mk tg ls.flatten []) w) := by
 obtain ⟨n, hn⟩ : ∃ n, ls.length = n := ⟨_, rfl⟩
 have HN := Lib.hid hn
 have HS := Lib.hid h
 rw [hn] at hl
 rw [hn]
 clear hn h
 go_enter Tryz.func60, Tryz.ntmps60
 go_upto_region 2 with (fail)
 obtain ⟨V, hV, hb0, hr0⟩ : ∃ V, World.alloc w (.cells #[.int .u8 0, .slice none 0 0, .slice none 0 0] 68) = V ∧ Below w.heap.size w V ∧ V.heap[w.heap.size]? = some (.cells #[.int .u8 0, .slice none 0 0, .slice none 0 0] 68 (0, 0)) := ⟨_, rfl, below_new w _, heap_alloc_new w _⟩
 rw [hV]
 clear hV
 have HB0 := Lib.hid hb0
 have HR0 := Lib.hid hr0
 clear hb0 hr0
 go_wp2_with fail
 go_loopw [5, 10] (fun v i wr => ∃ k : Nat, k ≤ n ∧ i = .int .i64 (k : Int) ∧ RowKit.Hid (wr.ownsRow (w.heap.size + 1) 5 1 v (ls.take k).flatten.length (bvals (ls.take k).flatten)) ∧ RowKit.Hid (Below w.heap.size w wr) ∧ RowKit.Hid (wr.heap[w.heap.size]? = some (.cells #[.int .u8 0, .slice none 0 0, .slice none 0 0] 68 (0, 0)))) (fun _ i _ => n - (intOf i).toNat)
 case atStart => exact ⟨0, Nat.zero_le _, rfl, Lib.hid ⟨rfl, .inl ⟨rfl, rfl⟩⟩, HB0, HR0⟩
 case round =>
  clear HB0 HR0
  obtain ⟨k, hk, rfl, HO, HB, HR⟩ := hrel
  obtain ⟨V, hV⟩ : ∃ V, V = wr := ⟨_, rfl⟩
  subst hV
  by_cases hlt : k < n
  ·
   have hki : (k : Int) < (n : Int) := by omega
   obtain ⟨l, hx⟩ : ∃ l, ls[k]? = some l := ⟨_, List.getElem?_eq_getElem (by rw [HN.out]; exact hlt)⟩
   have HX := Lib.hid hx
   obtain ⟨g, o, rfl, hr⟩ := (HS.out.on HB.out).row k l hx
   have HRG := Lib.hid (show V.rangeAt g (o + k * 16) (bvals l) by rw [Nat.mul_comm k 16]; exact hr)
   have HL16 := Lib.hid (HS.out.len l (List.mem_of_getElem? hx))
   have HXI : RowKit.Hid ((Tryz.prog.info? 41).map (·.size) = some (bvals l).length) := Lib.hid (by rw [bvals_len, HL16.out]; kernel_rfl)
   clear hr hx
   go_upto_region 5 with (first | (refine wpList_load_mid rfl 41 (.tmp 12) rfl g (o + k * 16) rfl (bvals l) _ HRG.out Tryz.underlying41 rfl HXI.out ?_) | (refine wpList_store_mid rfl 41 (.tmp 7) (.tmp 13) rfl V.heap.size 0 (bcells l) rfl rfl (there_row (heap_alloc_new _ _) _ (by rw [bcells_size, HL16.out]; exact Nat.le_refl _)) (sz_short l HL16.out) (one_bcells l) ?_))
   generalize hW : World.setCells _ _ _ _ = W
   have hpr := put_row hW (by rw [bcells_size, HL16.out]; rfl)
   have HRW := Lib.hid hpr.2
   have hbw := hpr.1
   clear hW hpr
   have HOW := Lib.hid (own_onB HO.out hbw)
   have HBW := Lib.hid (chain HB.out hbw)
   have HRW0 := Lib.hid (row_on HR.out hbw)
   have HVS : RowKit.Hid (w.heap.size < V.heap.size ∧ V.heap.size < W.heap.size) := Lib.hid ⟨(Array.getElem?_eq_some_iff.1 HR.out).1, (Array.getElem?_eq_some_iff.1 HRW.out).1⟩
   have HFL := Lib.hid (flat_take_len ls HS.out.len k (by rw [HN.out]; omega))
   have HFT := Lib.hid (flat_take ls k l HX.out)
   have HSRC : RowKit.Hid (SrcAt (some ⟨V.heap.size, 0, none⟩) l W) := Lib.hid (fun _ => ⟨V.heap.size, 0, rfl, fun j x hj => by
    rw [cell_of_row _ _ _ _ _ _ HRW.out, Nat.zero_add]
    unfold bcells
    simp [hj]⟩)
   clear hbw
   go_wp2_with (at_builtin; refine append_src rfl (.tmp 14) (.tmp 15) rfl (w.heap.size + 1) _ _ _ rfl HOW.out (some ⟨V.heap.size, 0, none⟩) l 16 16 HL16.out rfl (fun e => by cases e) HSRC.out (by rw [HFL.out]; omega) (by have := HVS.out; omega) ?_; intro v' w' ho hg; have HO2 := Lib.hid ho; have HG2 := Lib.hid hg; clear ho hg)
   have hle := HOW.out
   refine ⟨⟨k + 1, by omega, by go_num, Lib.hid (by rw [HFT.out, List.length_append, HL16.out]; unfold bvals at *; rw [List.map_append]; exact HO2.out), Lib.hid (HBW.out.grown HG2.out HBW.out.size (fun j hj => by have := own_lt hle hj; omega)), Lib.hid ((HG2.out.block _ (by have := HVS.out; omega) (fun e => by have := own_lt hle e.symm; omega)).trans HRW0.out)⟩, by simp [intOf]; omega⟩
  ·
   have hki : ¬ (k : Int) < (n : Int) := by omega
   obtain rfl : k = n := by omega
   have HFL := Lib.hid (flat_take_len ls HS.out.len k (by rw [HN.out]; exact Nat.le_refl _))
   have hT : ls.take k = ls := List.take_of_length_le (by rw [HN.out]; exact Nat.le_refl _)
   rw [hT] at HO HFL
   obtain ⟨T, hTT⟩ : ∃ T, ls.flatten = T := ⟨_, rfl⟩
   have HTT := Lib.hid hTT
   rw [hTT] at HO HFL
   have HFL2 := HFL
   clear hTT
   obtain ⟨tl, htl⟩ : ∃ tl, T.length = tl := ⟨_, rfl⟩
   obtain ⟨A2, c2, rfl, hc2, hcn2, hsrc2, _⟩ := own_rd3 HO.out
   have HCB := Lib.hid (conv_back T A2 c2 V hcn2 hsrc2)
   have HSTR := Lib.hid (fun (z : World) => str_any tg ⟨T.toArray⟩ (by show T.toArray.size ≤ 70000; rw [List.size_toArray, HFL.out]; omega) z)
   have hcb := HCB.out
   rw [htl] at hcb ⊢
   obtain ⟨STR, hSTR⟩ : ∃ STR : ByteArray, (⟨T.toArray⟩ : ByteArray) = STR := ⟨_, rfl⟩
   rw [hSTR] at hcb HSTR
   have HSTE := Lib.hid (show STR.data.toList = T by rw [← hSTR])
   rw [HSTE.out] at HSTR
   clear hc2 hcn2 hsrc2 hT hSTR htl HCB HO HFL
   go_wp2_with fail
   refine (HSTR.out V).mono ?_
   rintro e w2 ⟨x, y, rfl, hat, hb⟩
   have HAT := Lib.hid hat
   have HXY : RowKit.Hid (x.oneCell' = true ∧ y.oneCell' = true) := Lib.hid (by cases hat; exact ⟨rfl, rfl⟩)
   have HB2 := Lib.hid (chain HB.out hb)
   have HR2 := Lib.hid (row_on HR.out hb)
   clear hat hb hcb
   unfold cell3
   simp only [tagO]
   go_wp2_with (first | (refine wpList_store_mid rfl 68 (.tmp 4) (.tmp 21) rfl w.heap.size 0 #[.int .u8 (tg.toNat : Int), x, y] rfl rfl (there_row HR2.out 3 (show 3 ≤ 3 by decide)) (sz3o _ _ _) (one3 _ _ _ rfl HXY.out.1 HXY.out.2) ?_))
   refine bodyPost_ret (v := .agg #[.int .u8 (tg.toNat : Int), x, y]) (results_cell_row rfl _ _ w.heap.size 68 _ (0, 0) _ rfl (row_setCells8 HR2.out rfl) Tryz.underlying68 rfl (sz3o _ _ _)) rfl ⟨x, y, rfl, ?_, below_setCells8 _ _ _ HB2.out (Nat.le_refl _)⟩
   rw [HTT.out]
   exact leaf_keep HAT.out HR2.out (show 3 < T.length ∨ T = [] by
    rcases Nat.eq_zero_or_pos k with e | e
    ·
     right
     apply List.length_eq_zero_iff.1
     rw [HFL2.out]
     omega
    ·
     left
     rw [HFL2.out]
     omega) (fun b hb => heap_setCells_other _ _ _ hb)
end Sg
end Go.Proofs.YtcgffkkfeimifaaGreatDoor
