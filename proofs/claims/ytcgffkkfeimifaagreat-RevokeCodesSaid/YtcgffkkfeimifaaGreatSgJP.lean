import Derived.Test.YtcgffkkfeimifaaGreatSgI
import Derived.Test.YtcgffkkfeimifaaGreatSgD
import Derived.Deep.RegionHeld3
import Derived.Deep.MidRow
import Derived.Test.YtcgffkkfeimifaaGreatOcKP
namespace Go.Proofs.YtcgffkkfeimifaaGreat
namespace Sg
open Go.RowKit Sha
set_option linter.unusedVariables false
set_option linter.unusedSimpArgs false
def grB (l : Rl) : Bool := decide (500 < l.iss.size ∨ 520 < l.ser.length ∨ 60 < l.sg.cs.length ∨ 60 < l.sg.ps.length)
theorem greatsig_any (n : Int) (CA PA : Option Addr) (cl cc pl pc : Nat) (w : World) :
  Calls Tryz.prog 13 #[.agg #[.int .i64 n, .slice CA cl cc, .slice PA pl pc]] w fun e w' => e = .returned (.bool (decide (60 < cl ∨ 60 < pl))) ∧ Below w.heap.size w w' := by
 have HB0 := Lib.hid (below_new w (.cells #[.int .i64 n, .slice CA cl cc, .slice PA pl pc] 28))
 by_cases h1 : 60 < cl
 ·
  have i1 : (60 : Int) < (cl : Int) := by omega
  rw [decide_eq_true (show 60 < cl ∨ 60 < pl from .inl h1)]
  go_enter Tryz.func13, Tryz.ntmps13
  go_wp2_with fail
  go_ret
  exact ⟨rfl, HB0.out⟩
 ·
  have i1 : ¬ (60 : Int) < (cl : Int) := by omega
  by_cases h2 : 60 < pl
  ·
   have i2 : (60 : Int) < (pl : Int) := by omega
   rw [decide_eq_true (show 60 < cl ∨ 60 < pl from .inr h2)]
   go_enter Tryz.func13, Tryz.ntmps13
   go_wp2_with fail
   go_ret
   exact ⟨rfl, HB0.out⟩
  ·
   have i2 : ¬ (60 : Int) < (pl : Int) := by omega
   rw [decide_eq_false (show ¬ (60 < cl ∨ 60 < pl) by omega)]
   go_enter Tryz.func13, Tryz.ntmps13
   go_wp2_with fail
   go_ret
   exact ⟨rfl, HB0.out⟩
theorem great_any (l : Rl) (p : Mp) (w : World) :
  Calls Tryz.prog 4 #[.agg (rlC l p)] w fun e w' => e = .returned (.bool (grB l)) ∧ Below w.heap.size w w' := by
 obtain ⟨iss, num, fr, tt, xs, n, cs, ps⟩ := l
 obtain ⟨SA, sc, CA, cc, PA, pc⟩ := p
 unfold rlC grB
 simp only
 have HB0 := Lib.hid (below_new w (.cells #[.string iss, .int .u64 num, .int .i64 fr, .int .i64 tt, .slice SA xs.length sc, .int .i64 n, .slice CA cs.length cc, .slice PA ps.length pc] 30))
 have HR0 := Lib.hid (heap_alloc_new w (.cells #[.string iss, .int .u64 num, .int .i64 fr, .int .i64 tt, .slice SA xs.length sc, .int .i64 n, .slice CA cs.length cc, .slice PA ps.length pc] 30))
 have HG := Lib.hid (fun (V : World) => greatsig_any n CA PA cs.length cc ps.length pc V)
 obtain ⟨R, hR⟩ : ∃ R, decide (500 < iss.size ∨ 520 < xs.length ∨ 60 < cs.length ∨ 60 < ps.length) = R := ⟨_, rfl⟩
 rw [hR]
 by_cases h1 : 500 < iss.size
 ·
  have i1 : (500 : Int) < (iss.size : Int) := by omega
  have HRT : RowKit.Hid (R = true) := Lib.hid (by rw [← hR]; exact decide_eq_true (.inl h1))
  clear hR h1
  go_enter Tryz.func4, Tryz.ntmps4
  go_wp2_with fail
  go_ret
  exact ⟨by rw [HRT.out]; rfl, HB0.out⟩
 ·
  have i1 : ¬ (500 : Int) < (iss.size : Int) := by omega
  by_cases h2 : 520 < xs.length
  ·
   have i2 : (520 : Int) < (xs.length : Int) := by omega
   have HRT : RowKit.Hid (R = true) := Lib.hid (by rw [← hR]; exact decide_eq_true (.inr (.inl h2)))
   clear hR h1 h2
   go_enter Tryz.func4, Tryz.ntmps4
   go_wp2_with fail
   go_ret
   exact ⟨by rw [HRT.out]; rfl, HB0.out⟩
  ·
   have i2 : ¬ (520 : Int) < (xs.length : Int) := by omega
   have HRT : RowKit.Hid (R = decide (60 < cs.length ∨ 60 < ps.length)) := Lib.hid (by rw [← hR, decide_eq_decide]; simp only [h1, h2, false_or])
   clear hR h1 h2
   generalize decide (60 < cs.length ∨ 60 < ps.length) = E at HRT HG
   go_enter Tryz.func4, Tryz.ntmps4
   go_wp2_with fail
   refine (HG.out _).mono ?_
   rintro e w2 ⟨rfl, hb⟩
   have HB2 := Lib.hid (chain HB0.out hb)
   clear hb
   go_wp2_with fail
   go_ret
   exact ⟨by rw [HRT.out]; rfl, HB2.out⟩
end Sg
end Go.Proofs.YtcgffkkfeimifaaGreat
namespace Go.Proofs.YtcgffkkfeimifaaGreat
namespace Sg
open Go.RowKit Sha
set_option linter.unusedVariables false
set_option linter.unusedSimpArgs false
theorem Tryz.info_short : (Tryz.prog.info? 108).map (fun i => (i.zero, i.size, i.bytes)) = some (some (.agg (bcells (List.replicate 16 0))), 16, 16) := by kernel_rfl
theorem there_row {w : World} {g : Nat} {cur : Array Value} {T : TypeId} (h : w.heap[g]? = some (.cells cur T (0, 0))) (n : Nat) (hn : n ≤ cur.size) : w.there g 0 n := fun j hj => by
 rw [Nat.zero_add]
 refine ⟨?_, frozen_of_row _ _ _ _ _ h⟩
 rw [cell_of_row _ _ _ _ _ _ h, Array.getElem?_eq_getElem (by omega)]
 rfl
theorem below_setCells {n g : Nat} {u : World} : ∀ (vs : List Value) (o : Nat) (w : World), Below n u w → n ≤ g → Below n u (w.setCells g o vs)
 | [], _, _, h, _ => h
 | v :: r, o, w, h, hg => by
  rw [World.setCells]
  exact below_setCells r (o + 1) _ (h.trans ⟨rfl, rfl, rfl, by simp [World.setCell], fun k hk => Below.heap_setCell _ _ _ _ (by show k ≠ g; omega)⟩) hg
theorem flat_len (ls : List (List UInt8)) (h : ∀ l ∈ ls, l.length = 16) : ls.flatten.length = 16 * ls.length := by
 induction ls with
 | nil => rfl
 | cons a r ih => rw [List.flatten_cons, List.length_append, h a (List.mem_cons_self ..), ih fun l hl => h l (List.mem_cons_of_mem _ hl), List.length_cons]; omega
theorem flat_at : ∀ (ls : List (List UInt8)), (∀ l ∈ ls, l.length = 16) → ∀ i l, ls[i]? = some l → ∀ j x, l[j]? = some x → ls.flatten[16 * i + j]? = some x
 | [], _, i, l, h, _, _, _ => by simp at h
 | a :: r, hl, 0, l, h, j, x, hj => by
  obtain rfl : a = l := by simpa using h
  rw [List.flatten_cons, List.getElem?_append_left (by have := (List.getElem?_eq_some_iff.1 hj).1; omega), Nat.mul_zero, Nat.zero_add]
  exact hj
 | a :: r, hl, i + 1, l, h, j, x, hj => by
  have ha := hl a (List.mem_cons_self ..)
  rw [List.flatten_cons, List.getElem?_append_right (by omega), ha, show 16 * (i + 1) + j - 16 = 16 * i + j by omega]
  exact flat_at r (fun l hl' => hl l (List.mem_cons_of_mem _ hl')) i l (by simpa using h) j x hj
theorem shorts_own {w : World} {b : Nat} {v : Value} {ls : List (List UInt8)} (hl : ∀ l ∈ ls, l.length = 16) (h : w.ownsRow b 108 16 v ls.length (bvals ls.flatten)) : ∃ A c, v = .slice A ls.length c ∧ ls.length ≤ c ∧ (A = none → c = 0) ∧ Shs A ls w := by
 obtain ⟨h1, ⟨rfl, h2⟩ | ⟨g, cap, cur, rfl, h3, h4, h5, h6, h7, h8⟩⟩ := h
 ·
  have : ls = [] := List.length_eq_zero_iff.1 h2
  subst this
  exact ⟨none, 0, rfl, Nat.le_refl _, fun _ => rfl, fun i l hi => by simp at hi, fun l hl => by simp at hl⟩
 ·
  refine ⟨some ⟨g, 0, none⟩, cap, rfl, h5, (fun e => by cases e), fun i l hi => ⟨g, 0, rfl, fun j u hj => ?_⟩, hl⟩
  unfold bvals at hj
  rw [List.getElem?_map] at hj
  obtain ⟨x, hx, rfl⟩ := Option.map_eq_some_iff.1 hj
  have hf := flat_at ls hl i l hi j x hx
  rw [cell_of_row w g _ cur _ _ h4, Nat.zero_add, ← Array.getElem?_toList]
  have h9 : (cur.toList.take (ls.length * 16))[16 * i + j]? = some (.int .u8 (x.toNat : Int)) := by
   rw [h8]
   unfold bvals
   rw [List.getElem?_map, hf]
   rfl
  rw [List.getElem?_take] at h9
  split at h9
  ·
   exact h9
  ·
   cases h9
theorem heap_setCells {g : Nat} {T : TypeId} : ∀ (vs : List Value) (o : Nat) (w : World) (cur : Array Value), w.heap[g]? = some (.cells cur T (0, 0)) → ∃ cur', (w.setCells g o vs).heap[g]? = some (.cells cur' T (0, 0)) ∧ cur'.size = cur.size
 | [], _, _, cur, h => ⟨cur, h, rfl⟩
 | v :: r, o, w, cur, h => by
  rw [World.setCells]
  obtain ⟨c2, h2, h3⟩ := heap_setCells r (o + 1) _ _ (heap_setCell_same w g o cur T v h)
  exact ⟨c2, h2, by rw [h3]; simp⟩
theorem row_setCells {w : World} {g : Nat} {cur cs : Array Value} {T : TypeId} (h : w.heap[g]? = some (.cells cur T (0, 0))) (hn : cur.size = cs.size) : (w.setCells g 0 cs.toList).heap[g]? = some (.cells cs T (0, 0)) := by
 obtain ⟨c2, h2, h3⟩ := heap_setCells cs.toList 0 w cur h
 have hr := World.rangeAt_setCells_same w g 0 cs.toList (there_row h _ (by rw [Array.length_toList, hn]; exact Nat.le_refl _))
 have he : c2 = cs := by
  apply Array.ext
  ·
   rw [h3, hn]
  ·
   intro j h4 h5
   have h6 := hr j cs[j] (by simp [h5])
   rw [Nat.zero_add, cell_of_row _ _ _ _ _ _ h2, Array.getElem?_eq_getElem h4] at h6
   exact Option.some.inj h6
 rw [h2, he]
theorem heap_setCells_other {g b : Nat} : ∀ (vs : List Value) (o : Nat) (w : World), b ≠ g → (w.setCells g o vs).heap[b]? = w.heap[b]?
 | [], _, _, _ => rfl
 | v :: r, o, w, h => by
  rw [World.setCells, heap_setCells_other r (o + 1) _ h]
  exact Below.heap_setCell _ _ _ _ h
end Sg
end Go.Proofs.YtcgffkkfeimifaaGreat
namespace Go.Proofs.YtcgffkkfeimifaaGreat
namespace Sg
open Go.RowKit Sha
set_option linter.unusedVariables false
set_option linter.unusedSimpArgs false
theorem Tryz.info_u64 : (Tryz.prog.info? 22).map (fun i => (i.zero, i.size, i.bytes)) = some (some (.int .u64 0), 1, 8) := by kernel_rfl
def uvals (xs : List Int) : List Value := xs.map fun x => .int .u64 x
theorem nums_own {w : World} {b : Nat} {v : Value} {xs : List Int} (h : w.ownsRow b 22 1 v xs.length (uvals xs)) : ∃ A c, v = .slice A xs.length c ∧ xs.length ≤ c ∧ Nums A xs w := by
 obtain ⟨h1, ⟨rfl, h2⟩ | ⟨g, cap, cur, rfl, h3, h4, h5, h6, h7, h8⟩⟩ := h
 ·
  have : xs = [] := List.length_eq_zero_iff.1 h2
  subst this
  exact ⟨none, 0, rfl, Nat.le_refl _, ⟨fun i x hi => by simp at hi⟩⟩
 ·
  refine ⟨some ⟨g, 0, none⟩, cap, rfl, h5, ⟨fun i x hi => ⟨g, 0, rfl, ?_⟩⟩⟩
  rw [cell_of_row w g _ cur _ _ h4, Nat.zero_add, ← Array.getElem?_toList]
  have h9 : (cur.toList.take (xs.length * 1))[i]? = some (.int .u64 x) := by
   rw [h8]
   unfold uvals
   rw [List.getElem?_map, hi]
   rfl
  rw [List.getElem?_take] at h9
  split at h9
  ·
   exact h9
  ·
   cases h9
theorem own_row {w : World} {b : Nat} {E : TypeId} {k : Nat} {v : Value} {n : Nat} {xs : List Value} (h : w.ownsRow b E k v n xs) : ∀ g o m c, v = .slice (some ⟨g, o, none⟩) m c → ∃ cur, w.heap[g]? = some (.cells cur E (0, 0)) := by
 obtain ⟨h1, ⟨rfl, h2⟩ | ⟨g, cap, cur, rfl, h3, h4, _⟩⟩ := h
 ·
  intro _ _ _ _ e
  cases e
 ·
  intro g' o m c e
  cases e
  exact ⟨cur, h4⟩
end Sg
end Go.Proofs.YtcgffkkfeimifaaGreat
namespace Go.Proofs.YtcgffkkfeimifaaGreat
namespace Sg
open Go.RowKit Sha
set_option linter.unusedVariables false
set_option linter.unusedSimpArgs false
theorem sz8 (c : Array Value) (h : c.size = 8) : (Tryz.prog.info? 30).map (·.size) = some c.size := by
 rw [h]
 kernel_rfl
structure Caps (m : Mp) : Prop where
 s : m.SA = none → m.sc = 0
 c : m.CA = none → m.cc = 0
 p : m.PA = none → m.pc = 0
theorem below_setCell {n g o : Nat} {u w : World} {v : Value} (h : Below n u w) (hg : n ≤ g) : Below n u (w.setCell ⟨g, o, none⟩ v) := by
 have h2 := below_setCells [v] o w h hg
 rw [World.setCells, World.setCells] at h2
 exact h2
theorem shs_keep {A : Option Addr} {ls : List (List UInt8)} {w w' : World} {X : Nat} {c : Array Value} {T : TypeId} {fr : Nat × Nat} (h : Shs A ls w) (hr : w.heap[X]? = some (.cells c T fr)) (hc : c.size < 16) (ho : ∀ b, b ≠ X → w'.heap[b]? = w.heap[b]?) : Shs A ls w' :=
 ⟨fun i l hi => by
  obtain ⟨g, o, e, hl⟩ := h.row i l hi
  have hl16 := h.len l (List.mem_of_getElem? hi)
  refine ⟨g, o, e, ?_⟩
  have hne : g ≠ X := fun e2 => by
   subst e2
   have h1 := hl 15 (.int .u8 ((l[15]'(by omega)).toNat : Int)) (by unfold bvals; rw [List.getElem?_map, List.getElem?_eq_getElem (by omega)]; rfl)
   rw [cell_of_row _ _ _ _ _ _ hr, Array.getElem?_eq_none (by omega)] at h1
   cases h1
  intro j v hj
  have h1 := hl j v hj
  simp only [World.cell?] at h1 ⊢
  rw [ho g hne]
  exact h1, h.len⟩
theorem range3 {w : World} {g : Nat} {a b c d e f i j : Value} {T : TypeId} (h : w.heap[g]? = some (.cells #[a, b, c, d, e, f, i, j] T (0, 0))) : w.rangeAt g 5 [f, i, j] := fun k v hk => by
 rw [cell_of_row _ _ _ _ _ _ h]
 match k, hk with
 | 0, hk => exact hk
 | 1, hk => exact hk
 | 2, hk => exact hk
theorem nums_keep {A : Option Addr} {xs : List Int} {w w' : World} {X : Nat} (h : Nums A xs w) (hne : ∀ g o, A = some ⟨g, o, none⟩ → g ≠ X) (ho : ∀ b, b ≠ X → w'.heap[b]? = w.heap[b]?) : Nums A xs w' :=
 ⟨fun i x hi => by
  obtain ⟨g, o1, e, hc⟩ := h.row i x hi
  refine ⟨g, o1, e, ?_⟩
  simp only [World.cell?] at hc ⊢
  rw [ho g (hne g o1 e)]
  exact hc⟩
end Sg
end Go.Proofs.YtcgffkkfeimifaaGreat
namespace Go.Proofs.YtcgffkkfeimifaaGreat
namespace Sg
open Go.RowKit Sha
set_option linter.unusedVariables false
set_option linter.unusedSimpArgs false
def OwnRow (lo : Nat) (A : Option Addr) (E : TypeId) (w : World) : Prop := ∀ g o, A = some ⟨g, o, none⟩ → lo ≤ g ∧ ∃ cur, w.heap[g]? = some (.cells cur E (0, 0))
theorem OwnRow.on {lo : Nat} {A : Option Addr} {E : TypeId} {w V : World} (h : OwnRow lo A E w) (hb : Below w.heap.size w V) : OwnRow lo A E V := fun g o e => by
 obtain ⟨h1, cur, h2⟩ := h g o e
 exact ⟨h1, cur, row_on h2 hb⟩
theorem OwnRow.keep {lo X : Nat} {A : Option Addr} {E : TypeId} {w V : World} (h : OwnRow lo A E w) (hX : X < lo) (ho : ∀ b, b ≠ X → V.heap[b]? = w.heap[b]?) : OwnRow lo A E V := fun g o e => by
 obtain ⟨h1, cur, h2⟩ := h g o e
 exact ⟨h1, cur, (ho g (by omega)).trans h2⟩
structure OwnN (lo : Nat) (A : Option Addr) (xs : List Int) (w : World) : Prop where
 nums : Nums A xs w
 own : OwnRow lo A 22 w
structure OwnS (lo : Nat) (A : Option Addr) (ls : List (List UInt8)) (w : World) : Prop where
 shs : Shs A ls w
 own : OwnRow lo A 108 w
theorem OwnN.on {lo : Nat} {A : Option Addr} {xs : List Int} {w V : World} (h : OwnN lo A xs w) (hb : Below w.heap.size w V) : OwnN lo A xs V := ⟨h.nums.on hb, h.own.on hb⟩
theorem OwnS.on {lo : Nat} {A : Option Addr} {xs : List (List UInt8)} {w V : World} (h : OwnS lo A xs w) (hb : Below w.heap.size w V) : OwnS lo A xs V := ⟨h.shs.on hb, h.own.on hb⟩
theorem OwnN.lt {lo : Nat} {A : Option Addr} {xs : List Int} {w : World} (h : OwnN lo A xs w) {g o : Nat} (e : A = some ⟨g, o, none⟩) : g < w.heap.size := by
 obtain ⟨_, cur, h2⟩ := h.own g o e
 exact (Array.getElem?_eq_some_iff.1 h2).1
theorem OwnN.keep {lo X : Nat} {A : Option Addr} {xs : List Int} {w V : World} (h : OwnN lo A xs w) (hX : X < lo) (ho : ∀ b, b ≠ X → V.heap[b]? = w.heap[b]?) : OwnN lo A xs V := ⟨nums_keep h.nums (fun g o e => by have := (h.own g o e).1; omega) ho, h.own.keep hX ho⟩
theorem OwnS.keep {lo X : Nat} {A : Option Addr} {xs : List (List UInt8)} {w V : World} (h : OwnS lo A xs w) (hX : X < lo) (ho : ∀ b, b ≠ X → V.heap[b]? = w.heap[b]?) : OwnS lo A xs V :=
 ⟨⟨fun i l hi => by
  obtain ⟨g, o, e, hl⟩ := h.shs.row i l hi
  refine ⟨g, o, e, fun j v hj => ?_⟩
  have h1 := hl j v hj
  have h2 := (h.own g o e).1
  simp only [World.cell?] at h1 ⊢
  rw [ho g (by omega)]
  exact h1, h.shs.len⟩, h.own.keep hX ho⟩
structure TwW (N : Nat) (w : World) (A1 A2 A3 : Option Addr) (xs : List Int) (cs ps : List (List UInt8)) (z : World) : Prop where
 n : OwnN (N + 2) A1 xs z
 s : OwnS (N + 2) A2 cs z
 t : OwnS (N + 2) A3 ps z
 b : Below N w z
 ap : ∀ g o h q, A1 = some ⟨g, o, none⟩ → A2 = some ⟨h, q, none⟩ → g ≠ h
theorem TwW.keep {N : Nat} {w : World} {A1 A2 A3 : Option Addr} {xs : List Int} {cs ps : List (List UInt8)} {z V : World} (h : TwW N w A1 A2 A3 xs cs ps z) (ho : ∀ b, b ≠ N + 1 → V.heap[b]? = z.heap[b]?) (hb : Below N w V) : TwW N w A1 A2 A3 xs cs ps V :=
 ⟨h.n.keep (by omega) ho, h.s.keep (by omega) ho, h.t.keep (by omega) ho, hb, h.ap⟩
end Sg
end Go.Proofs.YtcgffkkfeimifaaGreat
namespace Go.Proofs.YtcgffkkfeimifaaGreat
namespace Sg
open Go.RowKit Sha
set_option linter.unusedVariables false
set_option linter.unusedSimpArgs false
structure SpW (N M : Nat) (w : World) (row : Array Value) (SA CA : Option Addr) (nx nc : Nat) (z : World) : Prop where
 b : Below N w z
 l : N ≤ z.heap.size
 r : z.heap[M]? = some (.cells row 30 (0, 0))
 sa : ∀ i, i < nx → ∃ g o x cur, SA = some ⟨g, o, none⟩ ∧ z.heap[g]? = some (.cells cur 22 (0, 0)) ∧ cur[o + i]? = some (.int .u64 x) ∧ N ≤ g
 ca : ∀ i, i < nc → ∃ g o x cur, CA = some ⟨g, o, none⟩ ∧ z.heap[g]? = some (.cells cur 108 (0, 0)) ∧ cur[o + i * 16]? = some (.int .u8 x) ∧ N ≤ g
theorem below_ext {N : Nat} {w z U : World} (h : Below N w z) (hz : N ≤ z.heap.size) (hb : Below z.heap.size z U) : Below N w U := h.trans ⟨hb.os, hb.tape, hb.output, hb.size, fun k hk => hb.block k (by omega)⟩
theorem SpW.on {N M : Nat} {w : World} {row : Array Value} {SA CA : Option Addr} {nx nc : Nat} {z U : World} (h : SpW N M w row SA CA nx nc z) (hb : Below z.heap.size z U) : SpW N M w row SA CA nx nc U :=
 ⟨below_ext h.b h.l hb, Nat.le_trans h.l hb.size, row_on h.r hb, fun i hi => by
  obtain ⟨g, o, x, cur, e, h1, h2, h3⟩ := h.sa i hi
  exact ⟨g, o, x, cur, e, row_on h1 hb, h2, h3⟩, fun i hi => by
  obtain ⟨g, o, x, cur, e, h1, h2, h3⟩ := h.ca i hi
  exact ⟨g, o, x, cur, e, row_on h1 hb, h2, h3⟩⟩
theorem row_ne {z : World} {g h : Nat} {c d : Array Value} {S T : TypeId} (h1 : z.heap[g]? = some (.cells c S (0, 0))) (h2 : z.heap[h]? = some (.cells d T (0, 0))) (hne : S ≠ T) : g ≠ h := fun e => by
 subst e
 rw [h1] at h2
 injection h2 with h3
 injection h3 with _ h4
 exact hne h4
end Sg
end Go.Proofs.YtcgffkkfeimifaaGreat
namespace Go.Proofs.YtcgffkkfeimifaaGreat
namespace Sg
open Go.RowKit Sha
set_option linter.unusedVariables false
set_option linter.unusedSimpArgs false
theorem sz8l (c : List Value) (h : c.length = 8) : (Tryz.prog.info? 30).map (·.size) = some c.length := by
 rw [h]
 kernel_rfl
theorem row_range {z : World} {g : Nat} {cs : List Value} {S : TypeId} {fr : Nat × Nat} (h : z.heap[g]? = some (.cells cs.toArray S fr)) : z.rangeAt g 0 cs := fun j v hj => by
 rw [cell_of_row _ _ _ _ _ _ h, Nat.zero_add]
 simpa using hj
theorem put_row {V W : World} {old cs : Array Value} {S : TypeId} (hW : (V.alloc (.cells old S)).setCells V.heap.size 0 cs.toList = W) (h : old.size = cs.size) : Below V.heap.size V W ∧ W.heap[V.heap.size]? = some (.cells cs S (0, 0)) := by
 subst hW
 exact ⟨below_setCells cs.toList 0 _ (below_new _ _) (Nat.le_refl _), row_setCells (heap_alloc_new V (.cells old S)) h⟩
theorem lchk_any (l : Rl) (p : Mp) (w : World) (hz : l.iss.size ≤ maxLen) (h : Nums p.SA l.ser w) : Calls Tryz.prog 14 #[.agg (rlC l p)] w fun e w' => e = .returned (.int .i64 (rvC l)) ∧ Below w.heap.size w w' :=
 revcheck_any l.iss l.num l.fr l.tt p.SA l.ser p.sc l.sg.idx p.CA p.PA l.sg.cs.length p.cc l.sg.ps.length p.pc hz w h
theorem lchk_ref (l : Rl) (p : Mp) (w : World) (hz : l.iss.size ≤ maxLen) (h : Nums p.SA l.ser w) : Calls Tryz.prog 19 #[.agg (rlC l p)] w fun e w' => e = .returned (.int .i64 (rvC l)) ∧ Below w.heap.size w w' :=
 revcheck_ref l.iss l.num l.fr l.tt p.SA l.ser p.sc l.sg.idx p.CA p.PA l.sg.cs.length p.cc l.sg.ps.length p.pc hz w h
end Sg
end Go.Proofs.YtcgffkkfeimifaaGreat
namespace Go.Proofs.YtcgffkkfeimifaaGreat
namespace Sg
open Go.RowKit Sha Oc
set_option linter.unusedVariables false
set_option linter.unusedSimpArgs false
theorem flat_take (ls : List (List UInt8)) (k : Nat) (l : List UInt8) (h : ls[k]? = some l) : (ls.take (k + 1)).flatten = (ls.take k).flatten ++ l := by
 rw [List.take_add_one, h, Option.toList_some, List.flatten_append, List.flatten_cons, List.flatten_nil, List.append_nil]
theorem own_onB {w V : World} {b n k : Nat} {v : Value} {xs : List Value} {E : TypeId} (h : w.ownsRow b E k v n xs) (hb : Below w.heap.size w V) : V.ownsRow b E k v n xs := by
 obtain ⟨h1, h2 | ⟨g, cap, cur, hv, h3, h4, h5⟩⟩ := h
 ·
  exact ⟨h1, .inl h2⟩
 ·
  exact ⟨h1, .inr ⟨g, cap, cur, hv, h3, row_on h4 hb, h5⟩⟩
theorem flat_take_len (ls : List (List UInt8)) (h : ∀ l ∈ ls, l.length = 16) (k : Nat) (hk : k ≤ ls.length) : (ls.take k).flatten.length = 16 * k := by
 rw [flat_len _ (fun l hl => h l (List.mem_of_mem_take hl)), List.length_take, Nat.min_eq_left hk]
theorem own_lt {w : World} {b n k : Nat} {v : Value} {xs : List Value} {E : TypeId} {g : Nat} (h : w.ownsRow b E k v n xs) (hk : v.ownBlock = some g) : b ≤ g := by
 obtain ⟨h1, ⟨rfl, _⟩ | ⟨g2, cap, cur, rfl, h3, h4, _⟩⟩ := h
 ·
  cases hk
 ·
  obtain rfl : g2 = g := by simpa [Value.ownBlock] using hk
  exact h3
theorem one_bcells (l : List UInt8) : (bcells l).all (·.oneCell') = true := by
 rw [Array.all_eq_true_iff_forall_mem]
 intro v hv
 unfold bcells at hv
 obtain ⟨x, _, rfl⟩ := by simpa using hv
 rfl
theorem sz_short (l : List UInt8) (h : l.length = 16) : (Tryz.prog.info? 108).map (·.size) = some (bcells l).size := by
 rw [bcells_size, h]
 kernel_rfl
theorem one3 (a b c : Value) (h1 : a.oneCell' = true) (h2 : b.oneCell' = true) (h3 : c.oneCell' = true) : (#[a, b, c] : Array Value).all (·.oneCell') = true := by
 rw [Array.all_eq_true_iff_forall_mem]
 intro v hv
 have : v = a ∨ v = b ∨ v = c := by simpa using hv
 rcases this with rfl | rfl | rfl
 ·
  exact h1
 ·
  exact h2
 ·
  exact h3
theorem leaf_keep {w w' : World} {X : Nat} {c : Array Value} {S : TypeId} {fr : Nat × Nat} {tg : UInt8} {bs : List UInt8} {x y : Value} (h : At (fun _ => True) w (.mk tg bs []) x y) (hr : w.heap[X]? = some (.cells c S fr)) (hc : c.size < bs.length ∨ bs = []) (ho : ∀ b, b ≠ X → w'.heap[b]? = w.heap[b]?) : At (fun _ => True) w' (.mk tg bs []) x y := by
 cases h with
 | mk _ _ _ A cc B d g off vb vl hcc hbm hcn hs hA hd hlm hdn hB h0 h1 h2 hrr =>
  refine .mk tg bs [] A cc B d g off vb vl hcc hbm hcn (fun hne => ?_) hA hd hlm hdn (fun h => absurd rfl h) (fun k o h => by simp at h) (fun k o h => by simp at h) (fun k o h => by simp at h) (fun k o h => by simp at h)
  obtain ⟨ga, oa, e, hcell⟩ := hs hne
  refine ⟨ga, oa, e, fun j z hj => ?_⟩
  have hlen : c.size < bs.length := hc.resolve_right hne
  have hg : ga ≠ X := fun e2 => by
   subst e2
   have h3 := hcell c.size (bs[c.size]'hlen) (List.getElem?_eq_getElem hlen)
   rw [cell_of_row _ _ _ _ _ _ hr, Array.getElem?_eq_none (by omega)] at h3
   cases h3
  have h4 := hcell j z hj
  simp only [World.cell?] at h4 ⊢
  rw [ho ga hg]
  exact h4
set_option maxRecDepth 100000 in
set_option maxHeartbeats 1000000 in
theorem shorts_val (tg : UInt8) (ls : List (List UInt8)) (A : Option Addr) (c : Nat) (hl : ls.length ≤ 4000) (w : World) (h : Shs A ls w) :
  Calls Tryz.prog 44 #[.int .u8 (tg.toNat : Int), .slice A ls.length c] w (SnPost (.mk tg ls.flatten []) w) := by
 obtain ⟨n, hn⟩ : ∃ n, ls.length = n := ⟨_, rfl⟩
 have HN := Lib.hid hn
 have HS := Lib.hid h
 rw [hn] at hl
 rw [hn]
 clear hn h
 go_enter Tryz.func44, Tryz.ntmps44
 go_upto_region 2 with (fail)
 obtain ⟨V, hV, hb0, hr0⟩ : ∃ V, World.alloc w (.cells #[.int .u8 0, .slice none 0 0, .slice none 0 0] 50) = V ∧ Below w.heap.size w V ∧ V.heap[w.heap.size]? = some (.cells #[.int .u8 0, .slice none 0 0, .slice none 0 0] 50 (0, 0)) := ⟨_, rfl, below_new w _, heap_alloc_new w _⟩
 rw [hV]
 clear hV
 have HB0 := Lib.hid hb0
 have HR0 := Lib.hid hr0
 clear hb0 hr0
 go_wp2_with fail
 go_loopw [5, 10] (fun v i wr => ∃ k : Nat, k ≤ n ∧ i = .int .i64 (k : Int) ∧ RowKit.Hid (wr.ownsRow (w.heap.size + 1) 5 1 v (ls.take k).flatten.length (bvals (ls.take k).flatten)) ∧ RowKit.Hid (Below w.heap.size w wr) ∧ RowKit.Hid (wr.heap[w.heap.size]? = some (.cells #[.int .u8 0, .slice none 0 0, .slice none 0 0] 50 (0, 0)))) (fun _ i _ => n - (intOf i).toNat)
 case atStart => exact ⟨0, Nat.zero_le _, rfl, Lib.hid ⟨rfl, .inl ⟨rfl, rfl⟩⟩, HB0, HR0⟩
 case round =>
  clear HB0 HR0
  obtain ⟨k, hk, rfl, HO, HB, HR⟩ := hrel
  obtain ⟨V, hV⟩ : ∃ V, V = wr := ⟨_, rfl⟩
  subst hV
  by_cases hlt : k < n
  ·
   have hki : (k : Int) < (n : Int) := by omega
   obtain ⟨l, hx⟩ : ∃ l, ls[k]? = some l := ⟨_, List.getElem?_eq_getElem (by rw [HN.out]; exact hlt)⟩
   have HX := Lib.hid hx
   obtain ⟨g, o, rfl, hr⟩ := (HS.out.on HB.out).row k l hx
   have HRG := Lib.hid (show V.rangeAt g (o + k * 16) (bvals l) by rw [Nat.mul_comm k 16]; exact hr)
   have HL16 := Lib.hid (HS.out.len l (List.mem_of_getElem? hx))
   have HXI : RowKit.Hid ((Tryz.prog.info? 108).map (·.size) = some (bvals l).length) := Lib.hid (by rw [bvals_len, HL16.out]; kernel_rfl)
   clear hr hx
   go_upto_region 5 with (first | (refine wpList_load_mid rfl 108 (.tmp 12) rfl g (o + k * 16) rfl (bvals l) _ HRG.out Tryz.underlying108 rfl HXI.out ?_) | (refine wpList_store_mid rfl 108 (.tmp 7) (.tmp 13) rfl V.heap.size 0 (bcells l) rfl rfl (there_row (heap_alloc_new _ _) _ (by rw [bcells_size, HL16.out]; exact Nat.le_refl _)) (sz_short l HL16.out) (one_bcells l) ?_))
   generalize hW : World.setCells _ _ _ _ = W
   have hpr := put_row hW (by rw [bcells_size, HL16.out]; rfl)
   have HRW := Lib.hid hpr.2
   have hbw := hpr.1
   clear hW hpr
   have HOW := Lib.hid (own_onB HO.out hbw)
   have HBW := Lib.hid (chain HB.out hbw)
   have HRW0 := Lib.hid (row_on HR.out hbw)
   have HVS : RowKit.Hid (w.heap.size < V.heap.size ∧ V.heap.size < W.heap.size) := Lib.hid ⟨(Array.getElem?_eq_some_iff.1 HR.out).1, (Array.getElem?_eq_some_iff.1 HRW.out).1⟩
   have HFL := Lib.hid (flat_take_len ls HS.out.len k (by rw [HN.out]; omega))
   have HFT := Lib.hid (flat_take ls k l HX.out)
   have HSRC : RowKit.Hid (SrcAt (some ⟨V.heap.size, 0, none⟩) l W) := Lib.hid (fun _ => ⟨V.heap.size, 0, rfl, fun j x hj => by
    rw [cell_of_row _ _ _ _ _ _ HRW.out, Nat.zero_add]
    unfold bcells
    simp [hj]⟩)
   clear hbw
   go_wp2_with (at_builtin; refine append_src rfl (.tmp 14) (.tmp 15) rfl (w.heap.size + 1) _ _ _ rfl HOW.out (some ⟨V.heap.size, 0, none⟩) l 16 16 HL16.out rfl (fun e => by cases e) HSRC.out (by rw [HFL.out]; omega) (by have := HVS.out; omega) ?_; intro v' w' ho hg; have HO2 := Lib.hid ho; have HG2 := Lib.hid hg; clear ho hg)
   have hle := HOW.out
   refine ⟨⟨k + 1, by omega, by go_num, Lib.hid (by rw [HFT.out, List.length_append, HL16.out]; unfold bvals at *; rw [List.map_append]; exact HO2.out), Lib.hid (HBW.out.grown HG2.out HBW.out.size (fun j hj => by have := own_lt hle hj; omega)), Lib.hid ((HG2.out.block _ (by have := HVS.out; omega) (fun e => by have := own_lt hle e.symm; omega)).trans HRW0.out)⟩, by simp [intOf]; omega⟩
  ·
   have hki : ¬ (k : Int) < (n : Int) := by omega
   obtain rfl : k = n := by omega
   have HFL := Lib.hid (flat_take_len ls HS.out.len k (by rw [HN.out]; exact Nat.le_refl _))
   have hT : ls.take k = ls := List.take_of_length_le (by rw [HN.out]; exact Nat.le_refl _)
   rw [hT] at HO HFL
   obtain ⟨T, hTT⟩ : ∃ T, ls.flatten = T := ⟨_, rfl⟩
   have HTT := Lib.hid hTT
   rw [hTT] at HO HFL
   have HFL2 := HFL
   clear hTT
   obtain ⟨tl, htl⟩ : ∃ tl, T.length = tl := ⟨_, rfl⟩
   obtain ⟨A2, c2, rfl, hc2, hcn2, hsrc2, _⟩ := own_rd3 HO.out
   have HCB := Lib.hid (conv_back T A2 c2 V hcn2 hsrc2)
   have HSTR := Lib.hid (fun (z : World) => str_any tg ⟨T.toArray⟩ (by show T.toArray.size ≤ 70000; rw [List.size_toArray, HFL.out]; omega) z)
   have hcb := HCB.out
   rw [htl] at hcb ⊢
   obtain ⟨STR, hSTR⟩ : ∃ STR : ByteArray, (⟨T.toArray⟩ : ByteArray) = STR := ⟨_, rfl⟩
   rw [hSTR] at hcb HSTR
   have HSTE := Lib.hid (show STR.data.toList = T by rw [← hSTR])
   rw [HSTE.out] at HSTR
   clear hc2 hcn2 hsrc2 hT hSTR htl HCB HO HFL
   go_wp2_with fail
   refine (HSTR.out V).mono ?_
   rintro e w2 ⟨x, y, rfl, hat, hb⟩
   have HAT := Lib.hid hat
   have HXY : RowKit.Hid (x.oneCell' = true ∧ y.oneCell' = true) := Lib.hid (by cases hat; exact ⟨rfl, rfl⟩)
   have HB2 := Lib.hid (chain HB.out hb)
   have HR2 := Lib.hid (row_on HR.out hb)
   clear hat hb hcb
   unfold cell3
   simp only [tagO]
   go_wp2_with (first | (refine wpList_store_mid rfl 50 (.tmp 4) (.tmp 21) rfl w.heap.size 0 #[.int .u8 (tg.toNat : Int), x, y] rfl rfl (there_row HR2.out 3 (show 3 ≤ 3 by decide)) (sz3o _ _ _) (one3 _ _ _ rfl HXY.out.1 HXY.out.2) ?_))
   refine bodyPost_ret (v := .agg #[.int .u8 (tg.toNat : Int), x, y]) (results_cell_row rfl _ _ w.heap.size 50 _ (0, 0) _ rfl (row_setCells8 HR2.out rfl) Tryz.underlying50 rfl (sz3o _ _ _)) rfl ⟨x, y, rfl, ?_, below_setCells8 _ _ _ HB2.out (Nat.le_refl _)⟩
   rw [HTT.out]
   exact leaf_keep HAT.out HR2.out (show 3 < T.length ∨ T = [] by
    rcases Nat.eq_zero_or_pos k with e | e
    ·
     right
     apply List.length_eq_zero_iff.1
     rw [HFL2.out]
     omega
    ·
     left
     rw [HFL2.out]
     omega) (fun b hb => heap_setCells_other _ _ _ hb)
end Sg
end Go.Proofs.YtcgffkkfeimifaaGreat
