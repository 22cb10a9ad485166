import Derived.Test.YthfgdgcdicacpaaOcRAC
namespace Go.Proofs.Ythfgdgcdicacpaa
open Go.RowKit Sha Oc
set_option linter.unusedVariables false
set_option linter.unusedSimpArgs false
attribute [local go_sem] Oper.semAt_some
def tmB (o : Oct) : Bool := decide (4000 < cnt o ∨ 12 < dep o)
def shal (pre : List El) : Prop := ∀ e ∈ pre, e.1 ≤ 12
def deepE (pre : List El) : Prop := ∃ e ∈ pre, 12 < e.1
theorem below_putO {n b : Nat} {u V : World} (h : Below n u V) (hb : n ≤ b) (o : Obj) : Below n u (V.putObj b o) :=
 h.trans ⟨rfl, rfl, rfl, by simp, fun k hk => World.putObj_heap_other (by omega)⟩
theorem kp8_put {n0 n1 : Nat} (h01 : n0 ≤ n1) (W : World) (l : Nat) (o o' : Obj) (hl : n1 ≤ l) (h : W.heap[l]? = some o) (hc : o.isCells = false) : Kp8 n0 n1 W (W.putObj l o') := by
 refine ⟨⟨rfl, rfl, rfl, by simp, fun k hk => World.putObj_heap_other (by omega)⟩, fun b cs t fr hb hq => ?_⟩
 by_cases e : b = l
 ·
  subst e
  rw [h] at hq
  obtain rfl := Option.some.inj hq
  cases hc
 ·
  rw [World.putObj_heap_other e]
  exact hq
theorem row_own {B g : Nat} {W W' : World} {row : Option Nat} {o : Obj} (h : W.heap[g]? = some o) (hg : W.grownBy W' row) (hr : ∀ r, row = some r → B ≤ r ∧ ∃ o : Obj, W.heap[r]? = some o ∧ o.isCells = false) (hlt : g < B) : W'.heap[g]? = some o :=
 (hg.block g (Array.getElem?_eq_some_iff.1 h).1 (fun e => by have := (hr g e.symm).1; omega)).trans h
theorem below_own {B n0 : Nat} {w W W' : World} {row : Option Nat} (h : Below n0 w W) (hg : W.grownBy W' row) (hr : ∀ r, row = some r → B ≤ r ∧ ∃ o : Obj, W.heap[r]? = some o ∧ o.isCells = false) (hB : n0 ≤ B) (hn : n0 ≤ w.heap.size) : Below n0 w W' :=
 h.grown hg (Nat.le_trans hn h.size) (fun k e => Nat.le_trans hB (hr k e).1)
set_option maxRecDepth 100000 in
set_option maxHeartbeats 4000000 in
theorem toomany_of (t : UInt8) (b : List UInt8) (l : List Oct) (hcn : cnt (.mk t b l) ≤ 900000) (w : World) (x y : Value) (hat : At (fun _ => True) w (.mk t b l) x y) :
  Calls Try.prog 70 #[.agg (cell3 (.mk t b l) x y)] w (fun e w' => e = .returned (.bool (tmB (.mk t b l))) ∧ Below w.heap.size w w') := by
 obtain ⟨A, c, B, d, g, off, vb, vl, rfl, rfl, hc, hbm, hcn0, hs, hd, hdn, he⟩ := hat.els
 obtain ⟨o, ho⟩ : ∃ o, Oct.mk t b l = o := ⟨_, rfl⟩
 have hst := fun (n X n0 n1 : Nat) (hn : n0 ≤ n1) (V : World) hX hw hat' => within_stops n X n0 n1 hn (.mk t b l) hcn A B c d V hX hw hat'
 have hlow := hat.lower (Nat.le_refl _)
 have HST := Lib.hid hst
 have HLOW := Lib.hid hlow
 show Calls Try.prog 70 #[.agg #[.int .u8 (t.toNat : Int), .slice A b.length c, .slice B l.length d]] w _
 dsimp only [tagO, bytO, kids] at HST HLOW
 obtain ⟨m1, hm1⟩ : ∃ m, b.length = m := ⟨_, rfl⟩
 obtain ⟨m2, hm2⟩ : ∃ m, l.length = m := ⟨_, rfl⟩
 rw [hm1, hm2] at HST HLOW ⊢
 rw [ho] at HST HLOW ⊢
 have HCN : RowKit.Hid (cnt o ≤ 900000) := Lib.hid (by rw [← ho]; exact hcn)
 clear hst hlow hat hc hbm hcn0 hs hd hdn he hm1 hm2 ho hcn
 refine (callsIn_wide (n := 4)).1 ?_
 refine callsIn_of_wp_marks Try.func70 rfl trivial ?_ rfl
 simp only [Try.ntmps70, List.size_toArray, List.length_cons, List.length_nil, Nat.reduceAdd, Nat.reduceSub, Array.replicate_succ, Array.replicate_zero, List.push_toArray, List.append_toArray, List.nil_append, List.cons_append]
 gi_wp2_with fail
 refine ⟨trivial, (callsIn_wide.2 (within_any _ _ _ _ _ _ _ _)).mono ?_⟩
 rintro e v2 ⟨rfl, rfl⟩
 obtain ⟨S, hS⟩ : ∃ S, w.heap.size = S := ⟨_, rfl⟩
 obtain ⟨W0, hW0⟩ : ∃ W0, (((w.alloc (.cells #[.int .u8 (t.toNat : Int), .slice A m1 c, .slice B m2 d] 63)).alloc (.cells #[.bool false] 4)).alloc (.cells #[.int .i64 0] 3)).alloc (.cells #[.int .u8 (t.toNat : Int), .slice A m1 c, .slice B m2 d] 63) = W0 := ⟨_, rfl⟩
 have hz0 : W0.heap.size = S + 4 := by rw [← hW0, ← hS]; simp
 have hX0 : W0.heap[S + 3]? = some (.cells #[.int .u8 (t.toNat : Int), .slice A m1 c, .slice B m2 d] 63 (0, 0)) := by
  rw [← hW0]
  have := heap_alloc_new (((w.alloc (.cells #[.int .u8 (t.toNat : Int), .slice A m1 c, .slice B m2 d] 63)).alloc (.cells #[.bool false] 4)).alloc (.cells #[.int .i64 0] 3)) (.cells #[.int .u8 (t.toNat : Int), .slice A m1 c, .slice B m2 d] 63)
  rw [World.size_alloc, World.size_alloc, World.size_alloc, hS] at this
  exact this
 have hV0 : W0.heap[S + 2]? = some (.cells #[.int .i64 0] 3 (0, 0)) := by
  rw [← hW0, Below.heap_alloc _ _ _ (by simp; omega)]
  have := heap_alloc_new ((w.alloc (.cells #[.int .u8 (t.toNat : Int), .slice A m1 c, .slice B m2 d] 63)).alloc (.cells #[.bool false] 4)) (.cells #[.int .i64 0] 3)
  rw [World.size_alloc, World.size_alloc, hS] at this
  exact this
 have hR0 : W0.heap[S + 1]? = some (.cells #[.bool false] 4 (0, 0)) := by
  rw [← hW0, Below.heap_alloc _ _ _ (by simp; omega), Below.heap_alloc _ _ _ (by simp; omega)]
  have := heap_alloc_new (w.alloc (.cells #[.int .u8 (t.toNat : Int), .slice A m1 c, .slice B m2 d] 63)) (.cells #[.bool false] 4)
  rw [World.size_alloc, hS] at this
  exact this
 have hb0 : Below S w W0 := by
  rw [← hW0]
  exact ((((Below.refl _ w).alloc (by omega) _).alloc (by simp; omega) _).alloc (by simp; omega) _).alloc (by simp; omega) _
 have HR0 := Lib.hid hR0
 have HV0 := Lib.hid hV0
 have HB0 := Lib.hid hb0
 have HZ0 := Lib.hid hz0
 have hsq := HST.out 3 (S + 3) S (S + 4) (by omega) W0 hX0 (by omega) (by rw [← hS]; exact HLOW.out.low (by rw [hS]; exact hb0))
 have HSQ := Lib.hid hsq
 have hsw : S ≤ w.heap.size := by omega
 have HSW := Lib.hid hsw
 have HSWE : RowKit.Hid (w.heap.size ≤ S) := Lib.hid (by omega)
 rw [hS]
 clear hsq hR0 hV0 hX0 hb0 HST HLOW hsw
 gi_wp2_with fail
 try rw [hW0]
 clear hW0 hS hz0
 try simp only [World.size_alloc]
 refine wpIn_rangeFunc_ownF rfl (by decide) (gf := 93) (lb := #[.pointer (some ⟨S + 3, 0, none⟩)]) rfl trivial (enters_of Try.func93 (by kernel_rfl) rfl) HSQ.out Kp8.trans (fun W l o o' hl h hc _ => kp8_put (by omega) W l o o' (by have := HZ0.out; omega) h hc) (Below.refl _ _) (fun _ => rfl)
  (fun pre W => shal pre ∧ pre.length ≤ 4000 ∧ W.heap[S + 2]? = some (.cells #[.int .i64 (pre.length : Int)] 3 (0, 0)) ∧ W.heap[S + 1]? = some (.cells #[.bool false] 4 (0, 0)) ∧ Below S w W)
  (fun cd pre W => cd = .ret ∧ (4000 < pre.length ∨ deepE pre) ∧ W.heap[S + 1]? = some (.cells #[.bool true] 4 (0, 0)) ∧ Below S w W)
  (fun s V U row hs hg hr => ⟨hs.1, hs.2.1, row_own hs.2.2.1 hg hr (by have := HZ0.out; omega), row_own hs.2.2.2.1 hg hr (by have := HZ0.out; omega), below_own hs.2.2.2.2 hg hr (by have := HZ0.out; omega) HSW.out⟩)
  (fun cd s V U row hs hg hr => ⟨hs.1, hs.2.1, row_own hs.2.2.1 hg hr (by have := HZ0.out; omega), below_own hs.2.2.2 hg hr (by have := HZ0.out; omega) HSW.out⟩)
  ⟨fun e he => (by cases he), by decide, HV0.out, HR0.out, HB0.out⟩
  (fun a => { tmps := #[.agg #[.int .u8 (t.toNat : Int), .slice A m1 c, .slice B m2 d], .pointer (some ⟨S, 0, none⟩), .pointer (some ⟨S + 1, 0, none⟩), .pointer (some ⟨S + 2, 0, none⟩), .int .i64 (a.1 : Int), .agg #[.int .u8 (t.toNat : Int), .slice A m1 c, .slice B m2 d], .func (.func 93) #[] #[.pointer (some ⟨S + 3, 0, none⟩)], .int .i64 (a.1 : Int), .agg #[.int .u8 ((tagO a.2.1).toNat : Int), .slice a.2.2.1.1 (bytO a.2.1).length a.2.2.1.2, .slice a.2.2.2.1 (kids a.2.1).length a.2.2.2.2], undef, undef, undef, undef, undef, undef, undef, undef], defers := [] }) ?assign ?body ?done ?stop
 case assign =>
  intro l x W K hK
  gi_wp2
  exact hK
 case body =>
  rintro lp pre ⟨dx, ox, ax, bx⟩ W ⟨h1, h2, h3, h4, h5⟩ hlen
  obtain ⟨N, hN⟩ : ∃ N, pre.length = N := ⟨_, rfl⟩
  rw [hN] at h2 h3
  have hN' : (pre ++ [(dx, ox, ax, bx)]).length = N + 1 := by rw [List.length_append, hN]; rfl
  have HN := Lib.hid hN'
  have H1 := Lib.hid h1
  have H3 := Lib.hid h3
  have H4 := Lib.hid h4
  have H5 := Lib.hid h5
  have c2 := cell_of_one h3
  have f2 := free_of_one h3
  have c1 := cell_of_one h4
  have f1 := free_of_one h4
  have l2 := (Array.getElem?_eq_some_iff.1 h3).1
  have l1 := (Array.getElem?_eq_some_iff.1 h4).1
  have hx1 : ∀ v u : Value, ((W.setCell ⟨S + 2, 0, none⟩ v).setCell ⟨S + 1, 0, none⟩ u).heap[S + 1]? = some (.cells #[u] 4 (0, 0)) := fun v u => one_setCell ((Below.heap_setCell _ _ _ _ (by show S + 1 ≠ S + 2; omega)).trans h4)
  have HX1 := Lib.hid hx1
  clear h1 h3 h4 h5 hN hN' hlen hx1
  by_cases hA : N = 4000
  ·
   subst hA
   gi_wp2_with fail
   exact ⟨(KeepsOthers.setCell _ _ _).trans (KeepsOthers.setCell _ _ _), rfl, .inl (by rw [HN.out]; decide), HX1.out _ _, (H5.out.setCell (by show S ≤ S + 2; omega) _).setCell (by show S ≤ S + 1; omega) _⟩
  ·
   have hA1 : ¬ (4000 : Int) < ((N + 1 : Nat) : Int) := by omega
   have hA2 : ¬ (4000 : Int) < (N : Int) + 1 := by omega
   have hA3 : (N : Int) + 1 ≤ 4000 := by omega
   have HA := Lib.hid hA
   have hN4 : N < 4000 := by omega
   clear hA
   by_cases hB : 12 < dx
   ·
    have hBi : (12 : Int) < (dx : Int) := by omega
    gi_wp2_with fail
    exact ⟨(KeepsOthers.setCell _ _ _).trans (KeepsOthers.setCell _ _ _), rfl, .inr ⟨_, List.mem_append_right _ (List.mem_cons_self ..), hB⟩, HX1.out _ _, (H5.out.setCell (by show S ≤ S + 2; omega) _).setCell (by show S ≤ S + 1; omega) _⟩
   ·
    have hBi : ¬ (12 : Int) < (dx : Int) := by omega
    gi_wp2_with fail
    refine ⟨KeepsOthers.setCell _ _ _, ⟨(Below.refl S W).setCell (by show S ≤ S + 2; omega) _, fun b cs t fr hb hc => (Below.heap_setCell _ _ _ _ (by show b ≠ S + 2; omega)).trans hc⟩, fun e he => ?_, by rw [HN.out]; omega, ?_, (Below.heap_setCell _ _ _ _ (by show S + 1 ≠ S + 2; omega)).trans H4.out, H5.out.setCell (by show S ≤ S + 2; omega) _⟩
    ·
     rcases List.mem_append.1 he with he | he
     ·
      exact H1.out e he
     ·
      obtain rfl := List.mem_singleton.1 he
      show dx ≤ 12
      omega
    ·
     rw [HN.out]
     exact one_setCell H3.out
 case done =>
  rintro D xs W hD hxs ⟨h1, h2, h3, h4, h5⟩ hK
  have hT : tmB o = false := by
   unfold tmB
   have e1 := congrArg List.length hxs
   rw [List.length_map, vis_len] at e1
   obtain ⟨_, e, he, e2⟩ := vis_dep 1 o
   rw [← hxs] at he
   obtain ⟨a, ha, rfl⟩ := List.mem_map.1 he
   have e3 := h1 a ha
   have e4 : (prjE a).1 = a.1 := rfl
   exact decide_eq_false (by omega)
  have HT := Lib.hid hT
  have H4 := Lib.hid h4
  have H5 := Lib.hid h5
  have HK := Lib.hid hK
  have c1 := cell_of_one h4
  have f1 := free_of_one h4
  have l1 := (Array.getElem?_eq_some_iff.1 h4).1
  have HD : RowKit.Hid (S + 4 ≤ D) := Lib.hid (by have := HZ0.out; omega)
  clear h1 h2 h3 h4 h5 hxs hT hK hD
  gi_wp2_with fail
  have hDk : (W.setCell ⟨S + 1, 0, none⟩ (.bool false)).heap[D]? = some (.deferred (some [])) := (Below.heap_setCell _ _ _ _ (by have := HD.out; show D ≠ S + 1; omega)).trans HK.out
  have hre : ((W.setCell ⟨S + 1, 0, none⟩ (.bool false)).putObj D (.deferred none)).heap[S + 1]? = some (.cells #[.bool false] 4 (0, 0)) := (World.putObj_heap_other (by have := HD.out; omega)).trans (one_setCell H4.out)
  have hce := cell_of_one hre
  refine ⟨by simp, .inl ⟨_, _, rfl, run_takeDeferred hDk, ?_⟩⟩
  refine ⟨.bool false, by simp [results, Try.results70, go_sem, hce], ?_, ?_⟩
  ·
   rw [HT.out]
  ·
   exact below_putO ((H5.out.setCell (by show S ≤ S + 1; omega) _).mono HSWE.out) (by have := HD.out; have := HSWE.out; omega) _
 case stop =>
  rintro D cd pre W hD hpre ⟨rfl, h2, h3, h4⟩ hK
  have hT : tmB o = true := by
   unfold tmB
   obtain ⟨r, hr⟩ := hpre
   refine decide_eq_true ?_
   rcases h2 with h2 | ⟨e, he, h2⟩
   ·
    have e1 := congrArg List.length hr
    rw [List.length_append, List.length_map, vis_len] at e1
    omega
   ·
    have e1 := (vis_dep 1 o).1 (prjE e) (by rw [← hr]; exact List.mem_append_left _ (List.mem_map_of_mem he))
    have e4 : (prjE e).1 = e.1 := rfl
    omega
  have HT := Lib.hid hT
  have H3 := Lib.hid h3
  have H4 := Lib.hid h4
  have HK := Lib.hid hK
  have HD : RowKit.Hid (S + 4 ≤ D) := Lib.hid (by have := HZ0.out; omega)
  clear h2 h3 h4 hpre hT hK hD
  gi_wp2_with fail
  have hre : (W.putObj D (.deferred none)).heap[S + 1]? = some (.cells #[.bool true] 4 (0, 0)) := (World.putObj_heap_other (by have := HD.out; omega)).trans H3.out
  have hce := cell_of_one hre
  refine ⟨by simp, .inl ⟨_, _, rfl, run_takeDeferred HK.out, ?_⟩⟩
  refine ⟨.bool true, by simp [results, Try.results70, go_sem, hce], ?_, ?_⟩
  ·
   rw [HT.out]
  ·
   exact below_putO (H4.out.mono HSWE.out) (by have := HD.out; have := HSWE.out; omega) _
end Go.Proofs.Ythfgdgcdicacpaa
