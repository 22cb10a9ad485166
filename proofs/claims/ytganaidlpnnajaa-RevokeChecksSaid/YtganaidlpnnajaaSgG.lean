/-
  TWIN of a revocation list, the reference's. Written by wip/gen-sgg.py.
-/
import Derived.Test.YtganaidlpnnajaaSgF
namespace Go.Proofs.Ytganaidlpnnajaa
namespace Sg
open Go.RowKit Sha
set_option linter.unusedVariables false
set_option linter.unusedSimpArgs false
theorem sz8 (c : Array Value) (h : c.size = 8) : (Try.prog.info? 30).map (·.size) = some c.size := by
  rw [h]
  kernel_rfl
/-- the cap of a nil list is 0 -/
structure Caps (m : Mp) : Prop where
  s : m.SA = none → m.sc = 0
  c : m.CA = none → m.cc = 0
  p : m.PA = none → m.pc = 0
def RTwin (l : Rl) (w : World) (e : Ending) (w' : World) : Prop := ∃ m, e = .returned (.agg (rlC l m)) ∧ RlAt l m w' ∧ Below w.heap.size w w'
theorem heap_setCell8 {w : World} {g : Nat} {a b c d e f i j v : Value} {T : TypeId} (h : w.heap[g]? = some (.cells #[a, b, c, d, e, f, i, j] T (0, 0))) : (w.setCell ⟨g, 4, none⟩ v).heap[g]? = some (.cells #[a, b, c, d, v, f, i, j] T (0, 0)) :=
  heap_setCell_same w g 4 _ T v h
theorem shs_setCell {A : Option Addr} {ls : List (List UInt8)} {w : World} {X : Nat} (h : Shs A ls w) (hne : ∀ g o, A = some ⟨g, o, none⟩ → g ≠ X) (o : Nat) (v : Value) : Shs A ls (w.setCell ⟨X, o, none⟩ v) := by
  have h2 := shorts_setCells h hne o [v]
  rw [World.setCells, World.setCells] at h2
  exact h2
theorem nums_setCell {A : Option Addr} {xs : List Int} {w : World} {X : Nat} (h : Nums A xs w) (hne : ∀ g o, A = some ⟨g, o, none⟩ → g ≠ X) (o : Nat) (v : Value) : Nums A xs (w.setCell ⟨X, o, none⟩ v) :=
  ⟨fun i x hi => by
    obtain ⟨g, o1, e, hc⟩ := h.row i x hi
    refine ⟨g, o1, e, ?_⟩
    have hb := Below.heap_setCell w ⟨X, o, none⟩ v g (hne g o1 e)
    simp only [World.cell?] at hc ⊢
    rw [hb]
    exact hc⟩
theorem below_setCell {n g o : Nat} {u w : World} {v : Value} (h : Below n u w) (hg : n ≤ g) : Below n u (w.setCell ⟨g, o, none⟩ v) := by
  have h2 := below_setCells [v] o w h hg
  rw [World.setCells, World.setCells] at h2
  exact h2
/-- a list of short digests has no place in a row of fewer than 16 cells: it lives on when only that row changes -/
theorem shs_keep {A : Option Addr} {ls : List (List UInt8)} {w w' : World} {X : Nat} {c : Array Value} {T : TypeId} {fr : Nat × Nat} (h : Shs A ls w) (hr : w.heap[X]? = some (.cells c T fr)) (hc : c.size < 16) (ho : ∀ b, b ≠ X → w'.heap[b]? = w.heap[b]?) : Shs A ls w' :=
  ⟨fun i l hi => by
    obtain ⟨g, o, e, hl⟩ := h.row i l hi
    have hl16 := h.len l (List.mem_of_getElem? hi)
    refine ⟨g, o, e, ?_⟩
    have hne : g ≠ X := fun e2 => by
      subst e2
      have h1 := hl 15 (.int .u8 ((l[15]'(by omega)).toNat : Int)) (by unfold bvals; rw [List.getElem?_map, List.getElem?_eq_getElem (by omega)]; rfl)
      rw [cell_of_row _ _ _ _ _ _ hr, Array.getElem?_eq_none (by omega)] at h1
      cases h1
    intro j v hj
    have h1 := hl j v hj
    simp only [World.cell?] at h1 ⊢
    rw [ho g hne]
    exact h1, h.len⟩
theorem heap_set3 {w : World} {g : Nat} {a b c d e f i j x y z : Value} {T : TypeId} (h : w.heap[g]? = some (.cells #[a, b, c, d, e, f, i, j] T (0, 0))) : (w.setCells g 5 [x, y, z]).heap[g]? = some (.cells #[a, b, c, d, e, x, y, z] T (0, 0)) := by
  rw [World.setCells, World.setCells, World.setCells, World.setCells]
  exact heap_setCell_same _ g 7 _ T z (heap_setCell_same _ g 6 _ T y (heap_setCell_same _ g 5 _ T x h))
theorem range3 {w : World} {g : Nat} {a b c d e f i j : Value} {T : TypeId} (h : w.heap[g]? = some (.cells #[a, b, c, d, e, f, i, j] T (0, 0))) : w.rangeAt g 5 [f, i, j] := fun k v hk => by
  rw [cell_of_row _ _ _ _ _ _ h]
  match k, hk with
  | 0, hk => exact hk
  | 1, hk => exact hk
  | 2, hk => exact hk
theorem there3 {w : World} {g : Nat} {a b c d e f i j : Value} {T : TypeId} (h : w.heap[g]? = some (.cells #[a, b, c, d, e, f, i, j] T (0, 0))) : w.there g 5 3 := fun k hk => by
  refine ⟨?_, frozen_of_row _ _ _ _ _ h⟩
  rw [cell_of_row _ _ _ _ _ _ h]
  match k, hk with
  | 0, _ => rfl
  | 1, _ => rfl
  | 2, _ => rfl
theorem nums_keep {A : Option Addr} {xs : List Int} {w w' : World} {X : Nat} (h : Nums A xs w) (hne : ∀ g o, A = some ⟨g, o, none⟩ → g ≠ X) (ho : ∀ b, b ≠ X → w'.heap[b]? = w.heap[b]?) : Nums A xs w' :=
  ⟨fun i x hi => by
    obtain ⟨g, o1, e, hc⟩ := h.row i x hi
    refine ⟨g, o1, e, ?_⟩
    simp only [World.cell?] at hc ⊢
    rw [ho g (hne g o1 e)]
    exact hc⟩
set_option maxRecDepth 100000 in
set_option maxHeartbeats 4000000 in
theorem rtwin_ref (l : Rl) (p : Mp) (w : World) (h1 : RlAt l p w) (h2 : Caps p) :
    Calls Try.prog 7 #[.agg (rlC l p)] w (RTwin l w) := by
  obtain ⟨iss, num, fr, tt, xs, n, cs, ps⟩ := l
  obtain ⟨SA, sc, CA, cc, PA, pc⟩ := p
  obtain ⟨h2s, h2c, h2p⟩ := h2
  have j1 := h1.ls
  have j2 := h1.lc
  have j3 := h1.lp
  have HS := Lib.hid h1.ser
  have HCt := Lib.hid (fun (V : World) (hb : Below w.heap.size w V) => twin_ref n CA PA cs ps cc pc h2c h2p ⟨j2, j3⟩ V (h1.cs.on hb) (h1.ps.on hb))
  have HNS := Lib.hid h2s
  have J1 := Lib.hid j1
  have J2 := Lib.hid j2
  have J3 := Lib.hid j3
  unfold rlC
  simp only at HS HCt HNS J1 J2 J3 ⊢
  clear h1 h2s h2c h2p j1 j2 j3
  go_enter Try.func7, Try.ntmps7
  go_upto_region 1 with (fail)
  generalize hV : World.alloc (World.alloc w _) _ = V
  have HB0 := Lib.hid (show Below w.heap.size w V by rw [← hV]; exact (below_new _ _).alloc (by simp) _)
  have HR0 := Lib.hid (show V.heap[w.heap.size]? = some (.cells #[.string iss, .int .u64 num, .int .i64 fr, .int .i64 tt, .slice SA xs.length sc, .int .i64 n, .slice CA cs.length cc, .slice PA ps.length pc] 30 (0, 0)) by rw [← hV]; exact heap_alloc2_old _ _ _)
  have HR1 := Lib.hid (show V.heap[w.heap.size + 1]? = some (.cells #[.string "".toUTF8, .int .u64 0, .int .i64 0, .int .i64 0, .slice none 0 0, .int .i64 0, .slice none 0 0, .slice none 0 0] 30 (0, 0)) by rw [← hV]; exact (heap_alloc2_new _ _ _).trans rfl)
  have HVS := Lib.hid (show V.heap.size = w.heap.size + 2 by rw [← hV]; simp)
  clear hV
  obtain ⟨v0, a0, a1, a2, a3, a4, a5, a6, a7⟩ := facts8 HR0.out
  go_upto_region 2 with (at_builtin; refine append_copy_u rfl (.tmp 3) (.tmp 5) rfl V.heap.size rfl (heap_alloc_new _ _) SA xs xs.length sc rfl rfl HNS.out ((HS.out.on HB0.out).on (below_new _ _)) J1.out ?_; intro A1 c1 w1 hsh1 hm1 hg1 hl1; have HSH1 := Lib.hid hsh1; have HB1 := Lib.hid (below_grown (below_new V _) (Nat.le_refl _) hg1); have HL1 := Lib.hid hl1; clear v0 a0 a1 a2 a3 a4 a5 a6 a7 hsh1 hg1 hl1 hm1; have HR01 := Lib.hid (row_on HR0.out HB1.out); obtain ⟨v0, a0, a1, a2, a3, a4, a5, a6, a7⟩ := facts8 HR01.out; have hfz := frozen_of_row w1 _ 4 _ _ HR01.out)
  have HR11 := Lib.hid (row_on HR1.out HB1.out)
  have HL1' : RowKit.Hid (∀ g o, A1 = some ⟨g, o, none⟩ → w.heap.size + 1 < g) := Lib.hid (fun g o e => by
    have h := HL1.out g o e
    have h2 := HVS.out
    rw [World.size_alloc] at h
    omega)
  have HR2 := Lib.hid (heap_setCell_same _ _ 4 _ _ (.slice A1 xs.length c1) HR01.out)
  have HR12 := Lib.hid ((Below.heap_setCell w1 ⟨w.heap.size, 4, none⟩ (.slice A1 xs.length c1) (w.heap.size + 1) (by show w.heap.size + 1 ≠ w.heap.size; omega)).trans HR11.out)
  have HN2 := Lib.hid (nums_setCell HSH1.out (X := w.heap.size) (fun g o e => by have := HL1'.out g o e; omega) 4 (.slice A1 xs.length c1))
  have HB2 := Lib.hid (below_setCell (v := .slice A1 xs.length c1) (o := 4) (chain HB0.out HB1.out) (Nat.le_refl w.heap.size))
  clear v0 a0 a1 a2 a3 a4 a5 a6 a7 hfz
  generalize World.setCell w1 _ _ = W2 at HR2 HR12 HN2 HB2 ⊢
  have HR2' := Lib.hid (show W2.heap[w.heap.size]? = some (.cells #[.string iss, .int .u64 num, .int .i64 fr, .int .i64 tt, .slice A1 xs.length c1, .int .i64 n, .slice CA cs.length cc, .slice PA ps.length pc] 30 (0, 0)) from HR2.out)
  clear HR2 HR01 HR11 HSH1 HB1 HL1 HR0 HR1 HVS
  go_upto_region 3 with (first | (refine wpList_load_mid rfl 28 (.tmp 8) rfl w.heap.size 5 rfl [.int .i64 n, .slice CA cs.length cc, .slice PA ps.length pc] _ (range3 HR2'.out) Try.underlying28 rfl (sz3 n default default) ?_))
  refine (HCt.out W2 HB2.out).mono ?_
  rintro e w3 ⟨A2, A3, c2, c3, rfl, s2, s3, hb, -, -⟩
  have HR3 := Lib.hid (row_on HR2'.out hb)
  have HR13 := Lib.hid (row_on HR12.out hb)
  have HN3 := Lib.hid (HN2.out.on hb)
  have HB3 := Lib.hid (chain HB2.out hb)
  have HS2 := Lib.hid s2
  have HS3 := Lib.hid s3
  clear s2 s3 hb HR2' HR12 HN2 HB2
  have HO := Lib.hid (fun (b : Nat) (h : b ≠ w.heap.size) => heap_setCells_other [.int .i64 n, .slice A2 cs.length c2, .slice A3 ps.length c3] 5 w3 h)
  have HR4 := Lib.hid (heap_set3 (x := .int .i64 n) (y := .slice A2 cs.length c2) (z := .slice A3 ps.length c3) HR3.out)
  have HR14 := Lib.hid ((HO.out (w.heap.size + 1) (by omega)).trans HR13.out)
  have HN4 := Lib.hid (nums_keep HN3.out (fun g o e => by have := HL1'.out g o e; omega) HO.out)
  have HS24 := Lib.hid (shs_keep HS2.out HR3.out (show 8 < 16 by decide) HO.out)
  have HS34 := Lib.hid (shs_keep HS3.out HR3.out (show 8 < 16 by decide) HO.out)
  have HB4 := Lib.hid (below_setCells [.int .i64 n, .slice A2 cs.length c2, .slice A3 ps.length c3] 5 w3 HB3.out (Nat.le_refl w.heap.size))
  clear HO
  go_wp2_with (first | (refine wpList_store_mid rfl 28 (.tmp 11) (.tmp 10) rfl w.heap.size 5 #[.int .i64 n, .slice A2 cs.length c2, .slice A3 ps.length c3] rfl rfl (there3 HR3.out) (sz3 _ _ _) (by simp [Value.oneCell']) ?_; clear HR3 HR13 HN3 HS2 HS3 HB3; generalize World.setCells w3 _ _ _ = W4 at HR4 HR14 HN4 HS24 HS34 HB4 ⊢) | (refine wpList_load_row rfl 30 (.tmp 1) rfl w.heap.size rfl 30 #[.string iss, .int .u64 num, .int .i64 fr, .int .i64 tt, .slice A1 xs.length c1, .int .i64 n, .slice A2 cs.length c2, .slice A3 ps.length c3] (0, 0) _ HR4.out Try.underlying30 rfl (sz8 _ rfl) ?_) | (refine wpList_store_mid rfl 30 (.tmp 2) (.tmp 12) rfl (w.heap.size + 1) 0 #[.string iss, .int .u64 num, .int .i64 fr, .int .i64 tt, .slice A1 xs.length c1, .int .i64 n, .slice A2 cs.length c2, .slice A3 ps.length c3] rfl rfl (there_row HR14.out 8 (show 8 ≤ 8 by decide)) (sz8 _ rfl) (by simp [Value.oneCell']) ?_))
  have HR5 := Lib.hid (row_setCells HR14.out (cs := #[.string iss, .int .u64 num, .int .i64 fr, .int .i64 tt, .slice A1 xs.length c1, .int .i64 n, .slice A2 cs.length c2, .slice A3 ps.length c3]) rfl)
  have HO := Lib.hid (fun (b : Nat) (h : b ≠ w.heap.size + 1) => heap_setCells_other [.string iss, .int .u64 num, .int .i64 fr, .int .i64 tt, .slice A1 xs.length c1, .int .i64 n, .slice A2 cs.length c2, .slice A3 ps.length c3] 0 W4 h)
  have HN5 := Lib.hid (nums_keep HN4.out (fun g o e => by have := HL1'.out g o e; omega) HO.out)
  have HS25 := Lib.hid (shs_keep HS24.out HR14.out (show 8 < 16 by decide) HO.out)
  have HS35 := Lib.hid (shs_keep HS34.out HR14.out (show 8 < 16 by decide) HO.out)
  have HB5 := Lib.hid (below_setCells [.string iss, .int .u64 num, .int .i64 fr, .int .i64 tt, .slice A1 xs.length c1, .int .i64 n, .slice A2 cs.length c2, .slice A3 ps.length c3] 0 W4 HB4.out (show w.heap.size ≤ w.heap.size + 1 by omega))
  clear HO HR4 HR14 HN4 HS24 HS34 HB4
  generalize World.setCells W4 _ _ _ = W5 at HR5 HN5 HS25 HS35 HB5 ⊢
  refine bodyPost_ret (v := .agg #[.string iss, .int .u64 num, .int .i64 fr, .int .i64 tt, .slice A1 xs.length c1, .int .i64 n, .slice A2 cs.length c2, .slice A3 ps.length c3]) (results_cell_row rfl _ _ (w.heap.size + 1) 30 _ (0, 0) _ rfl HR5.out Try.underlying30 rfl (sz8 _ rfl)) rfl ⟨⟨A1, c1, A2, c2, A3, c3⟩, rfl, ⟨HN5.out, HS25.out, HS35.out, J1.out, J2.out, J3.out⟩, HB5.out⟩
end Sg
end Go.Proofs.Ytganaidlpnnajaa
