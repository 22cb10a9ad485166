import Derived.Test.YtcgffkkfeimifaaGreatDoorRvA
import Derived.Test.YtcgffkkfeimifaaGreatDoorOcRE
import Derived.RangeFuncBox
namespace Go.Proofs.YtcgffkkfeimifaaGreatDoor
namespace Sg
open Go.RowKit Sha Oc
set_option linter.unusedVariables false
set_option linter.unusedSimpArgs false
attribute [local go_sem] Oper.semAt_some
theorem own_set3 {w : World} {base : Nat} {E : TypeId} {v : Value} {n : Nat} {xs : List Value} {a b c : Value} (a' b' c' : Value) (h : w.ownsRow base E 3 v (n + 1) (xs ++ [a, b, c])) (hx : xs.length = n * 3) :
  ∃ g cap, v = .slice (some ⟨g, 0, none⟩) (n + 1) cap ∧ base ≤ g ∧ (∃ cur, w.heap[g]? = some (.cells cur E (0, 0))) ∧ (w.cell? ⟨g, n * 3, none⟩ = some a ∧ w.cell? ⟨g, n * 3 + 1, none⟩ = some b ∧ w.cell? ⟨g, n * 3 + 2, none⟩ = some c) ∧ (∀ p, w.frozen? ⟨g, p, none⟩ = false) ∧ (w.setCells g (n * 3) [a', b', c']).ownsRow base E 3 v (n + 1) (xs ++ [a', b', c']) := by
 obtain ⟨h1, h2⟩ := h
 rcases h2 with ⟨_, h3⟩ | ⟨g, cap, cur, rfl, hb, hg, hc1, hc2, hsz, htk⟩
 ·
  omega
 ·
  have hce : ∀ k u, ([a, b, c] : List Value)[k]? = some u → w.cell? ⟨g, n * 3 + k, none⟩ = some u := fun k u hu => by
   rw [cell_of_row _ _ _ _ _ _ hg, ← Array.getElem?_toList]
   have h4 : (xs ++ [a, b, c])[n * 3 + k]? = some u := by rw [← hx, List.getElem?_append_right (by omega), Nat.add_sub_cancel_left]; exact hu
   rw [← htk, List.getElem?_take] at h4
   split at h4
   ·
    exact h4
   ·
    cases h4
  refine ⟨g, cap, rfl, hb, ⟨cur, hg⟩, ⟨hce 0 a rfl, hce 1 b rfl, hce 2 c rfl⟩, fun p => frozen_of_row _ _ _ _ _ hg, by simp [hx]; omega, .inr ⟨g, cap, ((cur.setIfInBounds (n * 3) a').setIfInBounds (n * 3 + 1) b').setIfInBounds (n * 3 + 2) c', rfl, hb, ?_, hc1, hc2, by simp [hsz], ?_⟩⟩
  ·
   simp only [World.setCells]
   exact heap_setCell_same _ _ _ _ _ _ (heap_setCell_same _ _ _ _ _ _ (heap_setCell_same _ _ _ _ _ _ hg))
  ·
   have he : cur.toList = xs ++ ([a, b, c] ++ cur.toList.drop ((n + 1) * 3)) := by
    rw [← List.append_assoc, ← htk, List.take_append_drop]
   simp only [Array.toList_setIfInBounds]
   rw [he]
   have l3 : (n + 1) * 3 = n * 3 + 3 := by omega
   rw [l3, ← hx]
   have s0 : (xs ++ ([a, b, c] ++ cur.toList.drop (xs.length + 3))).set xs.length a' = xs ++ ([a', b, c] ++ cur.toList.drop (xs.length + 3)) := by
    rw [List.set_append_right _ _ (Nat.le_refl _), Nat.sub_self]; rfl
   have s1 : (xs ++ ([a', b, c] ++ cur.toList.drop (xs.length + 3))).set (xs.length + 1) b' = xs ++ ([a', b', c] ++ cur.toList.drop (xs.length + 3)) := by
    rw [List.set_append_right _ _ (by omega), Nat.add_sub_cancel_left]; rfl
   have s2 : (xs ++ ([a', b', c] ++ cur.toList.drop (xs.length + 3))).set (xs.length + 2) c' = xs ++ ([a', b', c'] ++ cur.toList.drop (xs.length + 3)) := by
    rw [List.set_append_right _ _ (by omega), Nat.add_sub_cancel_left]; rfl
   rw [s0, s1, s2, ← List.append_assoc, List.take_left' (by simp)]
theorem rwt_own {E : TypeId} {lo B g : Nat} {W W' : World} {row : Option Nat} (h : RwT E lo W g) (hg : W.grownBy W' row) (hr : ∀ r, row = some r → B ≤ r ∧ ∃ o : Obj, W.heap[r]? = some o ∧ o.isCells = false) : RwT E lo W' g ∧ W'.heap[g]? = W.heap[g]? := by
 obtain ⟨h1, cs, h2⟩ := h
 have h3 := cells_own h2 hg hr
 exact ⟨⟨h1, cs, h3⟩, h3.trans h2.symm⟩
theorem cell_same {W W' : World} {g p : Nat} {u : Value} (h : W'.heap[g]? = W.heap[g]?) (hu : W.cell? ⟨g, p, none⟩ = some u) : W'.cell? ⟨g, p, none⟩ = some u := by
 simp only [World.cell?, h] at hu ⊢
 exact hu
theorem at_own {E : TypeId} {lo B : Nat} {W W' : World} {row : Option Nat} {o : Oct} {x y : Value} (h : At (RwT E lo W) W o x y) (hg : W.grownBy W' row) (hr : ∀ r, row = some r → B ≤ r ∧ ∃ o : Obj, W.heap[r]? = some o ∧ o.isCells = false) : At (RwT E lo W') W' o x y :=
 h.to fun g p u hu hR => ⟨cell_same (rwt_own hR hg hr).2 hu, (rwt_own hR hg hr).1⟩
theorem at_type {E : TypeId} {lo : Nat} {W W' : World} {o : Oct} {x y : Value} (h : At (RwT E lo W) W o x y) (hb : ∀ (g : Nat) (cs : Array Value), W.heap[g]? = some (Obj.cells cs E (0, 0)) → W'.heap[g]? = W.heap[g]?) : At (RwT E lo W') W' o x y :=
 h.to fun g p u hu hR => by
  obtain ⟨h1, cs, h2⟩ := hR
  have h3 := hb g cs h2
  exact ⟨cell_same h3 hu, h1, cs, h3.trans h2⟩
theorem ne_types2 : (66 : TypeId) ≠ 68 ∧ (5 : TypeId) ≠ 68 ∧ (5 : TypeId) ≠ 66 := by decide
structure ApI (w : World) (lo : Nat) (pre : List Tr) (W : World) : Prop where
 box : ∃ v, Boxed W w.heap.size 66 v ∧ W.ownsRow w.heap.size 68 3 v pre.length (rowT pre)
 els : ∀ t ∈ pre, At (RwT 5 lo W) W t.1 t.2.1 t.2.2
 bl : Below w.heap.size w W
 len : pre.length ≤ 5000
def ApX (w : World) (lo : Nat) (sv : Value) (pre : List Tr) (x : Tr) (a' : Act) (W : World) : Prop :=
 pre.length < 5000 ∧ At (RwT 5 lo W) W x.1 x.2.1 x.2.2 ∧ (∃ A m c, x.2.1 = .slice A m c) ∧ x.2.2 = .slice none 0 0 ∧
 ∃ Bx, w.heap.size < Bx ∧ W.heap[Bx]? = some (.cells #[.int .u8 ((tagO x.1).toNat : Int), x.2.1, x.2.2] 68 (0, 0)) ∧
  a' = { tmps := #[.slice none 0 0, sv, .pointer (some ⟨w.heap.size, 0, none⟩), undef, .slice none 0 0, .pointer (some ⟨Bx, 0, none⟩), sv, .agg #[.int .u8 ((tagO x.1).toNat : Int), x.2.1, x.2.2], undef, undef, undef, undef, undef, undef, undef], defers := [] }
theorem api_own (w : World) (lo B : Nat) (hB : w.heap.size ≤ B) : OwnFrom B (ApI w lo) := fun s W W' row hs hg hr => by
 obtain ⟨v, hv, hrow⟩ := hs.box
 refine ⟨⟨v, cells_own hv hg hr, hrow.kept hg ?_⟩, fun t ht => at_own (hs.els t ht) hg hr, hs.bl.grown hg hs.bl.size (fun k e => Nat.le_trans hB (hr k e).1), hs.len⟩
 rcases hrow.2 with ⟨rfl, _⟩ | ⟨g, cap, cur, rfl, _, hgb, _⟩
 ·
  exact .inl rfl
 ·
  refine .inr fun e => ?_
  obtain ⟨_, o, ho, hc⟩ := hr g (by simpa [Value.ownBlock] using e.symm)
  rw [hgb] at ho
  obtain rfl := Option.some.inj ho
  cases hc
theorem rowT_snoc (ts : List Tr) (x : Tr) : rowT (ts ++ [x]) = rowT ts ++ [.int .u8 ((tagO x.1).toNat : Int), x.2.1, x.2.2] := by
 rw [rowT_app]
 rfl
theorem api_below {w : World} {lo : Nat} {pre : List Tr} {W W' : World} (h : ApI w lo pre W) (hb : Below W.heap.size W W') : ApI w lo pre W' := by
 obtain ⟨v, hv, hrow⟩ := h.box
 exact ⟨⟨v, row_on hv hb, own_onB hrow hb⟩, fun t ht => at_type (h.els t ht) (fun g cs hg => hb.block g (Array.getElem?_eq_some_iff.1 hg).1), h.bl.trans (hb.mono h.bl.size), h.len⟩
theorem own_open {w : World} {base : Nat} {E : TypeId} {v : Value} {n k : Nat} {xs : List Value} (h : w.ownsRow base E k v n xs) : ∃ A c, v = .slice A n c := by
 rcases h.2 with ⟨rfl, rfl⟩ | ⟨g, cap, cur, rfl, _⟩
 ·
  exact ⟨_, _, rfl⟩
 ·
  exact ⟨_, _, rfl⟩
theorem rowT_three (ts : List Tr) : (rowT ts).length = ts.length * 3 := rowT_len ts
theorem setCell_comm (w : World) (b1 o1 b2 o2 : Nat) (v1 v2 : Value) (h : b1 ≠ b2) : (w.setCell ⟨b1, o1, none⟩ v1).setCell ⟨b2, o2, none⟩ v2 = (w.setCell ⟨b2, o2, none⟩ v2).setCell ⟨b1, o1, none⟩ v1 := by
 have e : ∀ (A : Array Obj) (f g : Obj → Obj), (A.modify b1 f).modify b2 g = (A.modify b2 g).modify b1 f := fun A f g => by
  apply Array.ext_getElem?
  intro i
  rw [Array.getElem?_modify, Array.getElem?_modify, Array.getElem?_modify, Array.getElem?_modify]
  by_cases h1 : b1 = i
  ·
   subst h1
   simp [Ne.symm h]
  ·
   simp [h1]
 unfold World.setCell
 simp only
 rw [e]
theorem typed_ne {V : World} {g k : Nat} {cs ds : Array Value} {S T : TypeId} (h1 : V.heap[g]? = some (Obj.cells cs S (0, 0))) (h2 : V.heap[k]? = some (Obj.cells ds T (0, 0))) (hne : S ≠ T) : g ≠ k := fun e => by
 subst e
 rw [h1] at h2
 exact hne (Obj.cells.inj (Option.some.inj h2)).2.1
def noDefer (o : Oper) : Bool := match o.op with | .defer _ => false | _ => true
theorem op_inRound {F : Fence} {n : Nat} {P : Program} {ops : Array Oper} {Q : Exit → Act → World → Prop} (l : Nat) (hro : F.round = none) (hnd : ops.all noDefer = true) {i : Nat} {K K' : Act → World → Prop} (hK : ∀ a w, K a w → K' a w) {a : Act} {w : World} (h : wpOpIn F n P ops Q i K a w) : wpOpIn (F.inRound l) n P ops Q i K' a w := by
 have h := wpOpIn_mono hK h
 unfold wpOpIn at h ⊢
 cases ho : ops[i]? with
 | none => rw [ho] at h; exact h
 | some o =>
  rw [ho] at h
  have hd : ∀ c, o.op ≠ .defer c := fun c hc => by
   have h1 := Array.all_eq_true'.1 hnd o (Array.mem_of_getElem? ho)
   unfold noDefer at h1
   rw [hc] at h1
   cases h1
  dsimp only at h ⊢
  by_cases hw : Region.wanted o (yielded ops a.tmps) = true
  ·
   rw [if_pos hw] at h ⊢
   unfold Oper.wpIn at h ⊢
   rw [Oper.semAt_plain F _ _ hd] at h
   rw [Oper.semAt_plain (F.inRound l) _ _ hd]
   exact h
  ·
   rw [if_neg hw] at h ⊢
   exact h
theorem any_inRound {F : Fence} {n : Nat} {P : Program} {md : Region.Mode} {ops : Array Oper} {Q : Exit → Act → World → Prop} (l : Nat) (hro : F.round = none) (hnd : ops.all noDefer = true) : ∀ (fuel : Nat) (listed : Array Bool) (a : Act) (w : World), wpAnyIn F n P md ops Q fuel listed a w → wpAnyIn (F.inRound l) n P md ops Q fuel listed a w
 | 0, _, _, _, h => h
 | fuel + 1, listed, a, w, h => ⟨h.1, fun i hi => op_inRound l hro hnd (any_inRound l hro hnd fuel _) (h.2 i hi)⟩
theorem opIn_append {F : Fence} {n : Nat} {P : Program} {o : Oper} {a : Act} {w : World} {K : Act → World → Prop} {Q : Exit → Act → World → Prop} (s x : Operand) (t : TypeId) (hop : o.op = Op.call { callee := Callee.builtin Builtin.append, args := #[s, x], argTypes := #[t, t] }) (v' : Value) (w' : World) (hrun : (Builtin.append_ #[t, t] o.type #[a.eval s, a.eval x]).run P w = .ok v' w') (hK : K (a.put o.dst v') w') : Oper.wpIn F n P o a w K Q := by
 unfold Oper.wpIn
 refine ⟨?_, ?_⟩
 ·
  simp [Oper.about, hop, resolve, Target.leads, Sem.run_pure]
 ·
  rw [Oper.semAt_plain F _ _ (by rw [hop]; intro c hc'; cases hc')]
  simp [execOp, hop, resolve, invoke, builtin, hrun, Result.andThen]
  exact hK
def CoPost (lo : Nat) (S : List Tr → Prop) (w : World) (e : Ending) (w' : World) : Prop := ∃ v ts, e = .returned v ∧ S ts ∧ w'.ownsRow w.heap.size 68 3 v ts.length (rowT ts) ∧ (∀ t ∈ ts, At (RwT 5 lo w') w' t.1 t.2.1 t.2.2) ∧ Below w.heap.size w w'
set_option maxRecDepth 100000 in
set_option maxHeartbeats 4000000 in
theorem aseq_any (n0 lo : Nat) (gf : Nat) (lb : Array Value) (eg : ∀ args w, (callFunc gf args).run Tryz.prog w = .ok (.enter gf args) w) (Pq : List Tr → Tr → World → Prop) (S : List Tr → Prop) (w : World) (hn0 : n0 ≤ w.heap.size)
  (hP : ∀ pre x W, Pq pre x W → pre.length < 5000 ∧ (∃ A m c, x.2.1 = .slice A m c) ∧ x.2.2 = .slice none 0 0 ∧ At (RwT 5 lo W) W x.1 x.2.1 x.2.2)
  (hseq : SeqP Fence.wide 3 Tryz.prog gf lb encT Pq (Below n0) S w) :
  Calls Tryz.prog 100 #[.slice none 0 0, .func (.func gf) #[] lb] w (CoPost lo S w) := by
 obtain ⟨i0, hi, hz0, hz1, hz2⟩ := info_parts Tryz.info_oct
 have HI := Lib.hid hi
 have HP := Lib.hid hP
 have HN0 := Lib.hid hn0
 clear hi hP hn0
 refine (callsIn_wide (n := 4)).1 ?_
 refine callsIn_of_wp_marks Tryz.func100 rfl trivial ?_ rfl
 simp only [Tryz.ntmps100, List.size_toArray, List.length_cons, List.length_nil, Nat.reduceAdd, Nat.reduceSub, Array.replicate_succ, Array.replicate_zero, List.push_toArray, List.append_toArray, List.nil_append, List.cons_append]
 gi_wp2_with fail
 obtain ⟨W0, hW0⟩ : ∃ W0, w.alloc (.cells #[.slice none 0 0] 66) = W0 := ⟨_, rfl⟩
 have hz : W0.heap.size = w.heap.size + 1 := by rw [← hW0, World.size_alloc]
 have hB0 : Boxed W0 w.heap.size 66 (.slice none 0 0) := by rw [← hW0]; exact Boxed.new w _ _
 have hb0 : Below w.heap.size w W0 := by rw [← hW0]; exact below_new w _
 try rw [hW0]
 clear hW0
 have HZ := Lib.hid hz
 refine rangeFunc_P rfl (by decide) (gf := gf) (lb := lb) rfl trivial eg hseq (fun h1 h2 => h1.trans h2) (fun W l o o' hl h hc => ⟨rfl, rfl, rfl, by simp, fun k hk => World.putObj_heap_other (by have h1 := HN0.out; have h2 := HZ.out; omega)⟩) hb0 (fun _ => rfl)
  (ApI w lo) (api_own w lo _ (by have h2 := HZ.out; omega)) ⟨⟨_, hB0, ⟨rfl, .inl ⟨rfl, rfl⟩⟩⟩, fun t ht => (by cases ht), hb0, Nat.zero_le _⟩
  (ApX w lo (.func (.func gf) #[] lb)) (fun pre x a' => ?own) ?assign ?body ?done
 case own =>
  rintro _ A B row ⟨h1, h2, h3, h4, Bx, h5, h6, h7⟩ hg hr
  exact ⟨h1, at_own h2 hg hr, h3, h4, Bx, h5, cells_own h6 hg hr, h7⟩
 case assign =>
  rintro l pre ⟨o, x, y⟩ W K hi hp hK
  obtain ⟨p1, ⟨A, m, c, p2⟩, p3, p4⟩ := HP.out _ _ _ hp
  dsimp only at p2 p3 p4
  subst p2 p3
  have hsz : w.heap.size < W.heap.size := by obtain ⟨v, hv, _⟩ := hi.box; exact hv.lt
  gi_wp2
  exact hK _ _ (keeps_below (below_new W _)) ((below_new W _).mono (by have h1 := HN0.out; omega)) (api_below hi (below_new W _)) ⟨p1, at_type p4 (fun g cs hg => (below_new W _).block g (Array.getElem?_eq_some_iff.1 hg).1), ⟨_, _, _, rfl⟩, rfl, W.heap.size, hsz, heap_alloc_new W _, rfl⟩
 case body =>
  rintro l pre ⟨o, x, y⟩ a' W ⟨⟨v, hv, hrow⟩, hels, hbl, hlen⟩ ⟨hlt, hat, ⟨A, m, c, p2⟩, p3, Bx, hBx, hX, rfl⟩
  dsimp only at p2 p3 hX hat
  subst p2 p3
  obtain ⟨A0, c0, rfl⟩ := own_open hrow
  have HV := Lib.hid hv
  have HROW := Lib.hid hrow
  have HELS := Lib.hid hels
  have HBL := Lib.hid hbl
  have HAT := Lib.hid hat
  have HX := Lib.hid hX
  have ht3 := rowT_three pre
  obtain ⟨N, hN⟩ : ∃ N, pre.length = N := ⟨_, rfl⟩
  have HN := Lib.hid hN
  rw [hN] at hlt hv ht3
  have HT3 := Lib.hid ht3
  have HV2 := Lib.hid hv
  obtain ⟨T, hT⟩ : ∃ T : Int, ((tagO o).toNat : Int) = T := ⟨_, rfl⟩
  rw [hT] at hX
  have HT := Lib.hid hT
  have hcv := hv.cell
  have hlX := (Array.getElem?_eq_some_iff.1 hX).1
  obtain ⟨_, cx0, cx1, cx2⟩ := facts3 hX
  have hrgX := range3o cx0 cx1 cx2
  have hHI := HI.out
  have hrow2 : W.ownsRow w.heap.size 68 3 (.slice A0 N c0) N (rowT pre) := by rw [← hN]; exact hrow
  have HR2 := Lib.hid hrow2
  dsimp only
  rw [hT]
  have hNi : (N : Int) ≤ 5000 := by omega
  clear hrow hrow2 hels hbl hat hX hN hv hT ht3
  obtain ⟨tmpw, htw⟩ : ∃ tmpw, (W.alloc (.cells #[.int .u8 0, .slice none 0 0, .slice none 0 0] 68)).drew = tmpw := ⟨_, rfl⟩
  have hbt : Below W.heap.size W tmpw := by rw [← htw]; exact (below_new W _).drew
  have hnt : tmpw.heap[W.heap.size]? = some (.cells #[.int .u8 0, .slice none 0 0, .slice none 0 0] 68 (0, 0)) := by rw [← htw]; exact heap_alloc_new W _
  have hct : ∀ j u, ([.int .u8 0, .slice none 0 0, .slice none 0 0] : List Value)[j]? = some u → tmpw.cell? ((⟨W.heap.size, 0, none⟩ : Addr).add j) = some u := by
   rw [← htw]
   exact cell_three_new W _ _ _ _
  obtain ⟨v', w4, hrun, hown4, hgrow4, _⟩ := run_append_own (P := Tryz.prog) tmpw w.heap.size 66 66 68 i0 (.agg #[.int .u8 0, .slice none 0 0, .slice none 0 0]) 3 56 Tryz.underlying66 HI.out hz0 hz1 hz2 rfl (by decide) _ N (rowT pre) (own_onB HR2.out hbt) ⟨W.heap.size, 0, none⟩ 1 1 [.int .u8 0, .slice none 0 0, .slice none 0 0] rfl hct (by intro u hu; simp at hu; rcases hu with rfl | rfl | rfl <;> rfl) (by unfold maxLen; omega) (by omega) (by have := HBL.out.size; have := hbt.size; omega)
  obtain ⟨g, cap, rfl, hg1, ⟨cur, hg2⟩, ⟨k0, k1, k2⟩, hfz, hset⟩ := own_set3 (.int .u8 T) (.slice A m c) (.slice none 0 0) hown4 HT3.out
  have hvt : Boxed tmpw w.heap.size 66 (.slice A0 N c0) := row_on HV2.out hbt
  have hB4 := hvt.kept hgrow4 (hvt.not_row ne_types2.1 (own_onB HR2.out hbt))
  have hne : g ≠ w.heap.size := row_ne hg2 hB4 (Ne.symm ne_types2.1)
  have hcb := hB4.cell
  have hfb := hB4.frozen
  have hlg := (Array.getElem?_eq_some_iff.1 hg2).1
  have hlb := hB4.lt
  have HG1 := Lib.hid hg1
  have HG2 := Lib.hid hg2
  have HSET := Lib.hid hset
  have HB4 := Lib.hid hB4
  have HGR := Lib.hid hgrow4
  have HNE := Lib.hid hne
  have HBT := Lib.hid hbt
  rw [← htw] at hrun
  have hf0 := hfz (N * 3)
  have hf1 := hfz (N * 3 + 1)
  have hf2 := hfz (N * 3 + 2)
  clear hg1 hg2 hset hB4 hgrow4 hown4 hvt hbt hnt hct htw hfz
  gi_wp2_with fail
  obtain ⟨u, hu⟩ : ∃ u, (((w4.setCell ⟨g, N * 3, none⟩ (.int .u8 T)).setCell ⟨g, N * 3 + 1, none⟩ (.slice A m c)).setCell ⟨g, N * 3 + 2, none⟩ (.slice none 0 0)).setCell ⟨w.heap.size, 0, none⟩ (.slice (some ⟨g, 0, none⟩) (N + 1) cap) = u := ⟨_, rfl⟩
  have hus : (w4.setCells g (N * 3) [.int .u8 T, .slice A m c, .slice none 0 0]).setCell ⟨w.heap.size, 0, none⟩ (.slice (some ⟨g, 0, none⟩) (N + 1) cap) = u := hu
  have FIN : KeepsFrom W0.heap.size W u ∧ Below n0 W u ∧ ApI w lo (pre ++ [(o, Value.slice A m c, Value.slice none 0 0)]) u := by
   have q1 : ∀ b, b ≠ g → b ≠ w.heap.size → u.heap[b]? = w4.heap[b]? := fun b hb1 hb2 => by
    rw [← hus, Below.heap_setCell _ _ _ _ hb2]
    exact heap_setCells_other _ _ _ hb1
   have q2 : ∀ b, b < W.heap.size → b ≠ g → (Value.slice A0 N c0).ownBlock ≠ some b → w4.heap[b]? = W.heap[b]? := fun b hb hg ho => (HGR.out.block b (by have := HBT.out.size; omega) (fun e => ho e.symm)).trans (HBT.out.block b hb)
   have qT : ∀ (b : Nat) (cs : Array Value) (S : TypeId), W.heap[b]? = some (Obj.cells cs S (0, 0)) → S ≠ 68 → S ≠ 66 → u.heap[b]? = W.heap[b]? := fun b cs S hb h1 h2 => by
    have hlb := (Array.getElem?_eq_some_iff.1 hb).1
    have e1 : (Value.slice A0 N c0).ownBlock ≠ some b := fun e => by
     rcases HR2.out.2 with ⟨e2, _⟩ | ⟨gg, cc, cur2, e2, _, hgb, _⟩
     ·
      rw [e2] at e; cases e
     ·
      rw [e2] at e
      have e3 : gg = b := Option.some.inj e
      subst e3
      exact typed_ne hb hgb h1 rfl
    have e4 : w4.heap[b]? = W.heap[b]? := (HGR.out.block b (by have := HBT.out.size; omega) (fun e => e1 e.symm)).trans (HBT.out.block b hlb)
    exact (q1 b (typed_ne (e4.trans hb) HG2.out h1) (typed_ne (e4.trans hb) HB4.out h2)).trans e4
   have hsz : w4.heap.size ≤ u.heap.size := by
    rw [← hu]
    exact Nat.le_trans (KeepsOthers.setCell _ _ _).size (Nat.le_trans (KeepsOthers.setCell _ _ _).size (Nat.le_trans (KeepsOthers.setCell _ _ _).size (KeepsOthers.setCell _ _ _).size))
   have hbu : Below w.heap.size W u := by
    rw [← hus]
    exact (below_setCells _ _ _ ((HBT.out.mono (by have := HBL.out.size; omega)).grown HGR.out (by have := HBL.out.size; have := HBT.out.size; omega) (fun j ej => by
     rcases HR2.out.2 with ⟨e2, _⟩ | ⟨gg, cc, cur2, e2, hge, _⟩
     ·
      rw [e2] at ej; cases ej
     ·
      rw [e2] at ej
      have e3 : gg = j := Option.some.inj ej
      omega)) HG1.out).setCell (Nat.le_refl _) _
   have hR8 : RwT 5 lo W = RwT 5 lo W := rfl
   have q8 : ∀ {o' : Oct} {x' y' : Value}, At (RwT 5 lo W) W o' x' y' → At (RwT 5 lo u) u o' x' y' := fun h => at_type h (fun b cs hb => qT b cs _ hb ne_types2.2.1 ne_types2.2.2)
   refine ⟨⟨Nat.le_trans (Nat.le_trans HBT.out.size HGR.out.size) hsz, fun k ob hk hob hc => ?_⟩, hbu.mono HN0.out, ⟨⟨.slice (some ⟨g, 0, none⟩) (N + 1) cap, ?_, ?_⟩, fun t ht => ?_, HBL.out.trans hbu, by rw [List.length_append, HN.out]; show N + 1 ≤ 5000; omega⟩⟩
   ·
    have hlk := (Array.getElem?_eq_some_iff.1 hob).1
    have e1 : (Value.slice A0 N c0).ownBlock ≠ some k := fun e => by
     rcases HR2.out.2 with ⟨e2, _⟩ | ⟨gg, cc, cur2, e2, _, hgb, _⟩
     ·
      rw [e2] at e; cases e
     ·
      rw [e2] at e
      have e3 : gg = k := Option.some.inj e
      subst e3
      rw [hgb] at hob
      obtain rfl := Option.some.inj hob
      cases hc
    have e4 : w4.heap[k]? = some ob := ((HGR.out.block k (by have := HBT.out.size; omega) (fun e => e1 e.symm)).trans (HBT.out.block k hlk)).trans hob
    refine (q1 k (fun e => ?_) (fun e => ?_)).trans e4
    ·
     subst e
     have h9 := HG2.out
     rw [e4] at h9
     obtain rfl := Option.some.inj h9
     cases hc
    ·
     have := HZ.out; omega
   ·
    rw [← hus]
    refine Boxed.set _ (t := 66) (v := .slice A0 N c0) ?_
    exact (heap_setCells_other _ _ _ (Ne.symm HNE.out)).trans HB4.out
   ·
    rw [← hus, List.length_append, HN.out, rowT_snoc]
    dsimp only
    rw [HT.out]
    exact HSET.out.kept (grownBy_setCell' _ _ _) (.inr (fun e => HNE.out (Option.some.inj e)))
   ·
    rcases List.mem_append.1 ht with ht | ht
    ·
     exact q8 (HELS.out t ht)
    ·
     simp at ht
     subst ht
     exact q8 HAT.out
  have FINH := Lib.hid FIN
  have HUE := Lib.hid hu
  clear FIN hu hus
  have hNN : ¬ (N : Int) + 1 ≤ (N : Int) := by omega
  have hSW : w.heap.size < W.heap.size := HV2.out.lt
  -- BODY-BEGIN
  refine wpIn_region_any (by kernel_rfl) (any_inRound l rfl (by kernel_rfl) _ _ _ _ ?_)
  rename_i Q9
  change wpAnyIn _ _ _ _ _ _ _ _ _ (World.drew W)
  have KEY : wpAnyIn Fence.wide (4 - 1 - 1) Tryz.prog .any #[{ dst := Option.some 8, op := Go.Op.load 66 (Go.Operand.tmp 2), type := 66, pos := "iter.go:52", after := #[], guard := Option.none }, { dst := Option.some 9, op := Go.Op.load 68 (Go.Operand.tmp 5), type := 68, pos := "iter.go:52", after := #[], guard := Option.none }, { dst := Option.some 10, op := Go.Op.call { callee := Go.Callee.builtin Go.Builtin.len, args := #[Go.Operand.tmp 8], argTypes := #[66] }, type := 3, pos := "iter.go:52", after := #[{ on := 0, ground := Go.Ground.data }], guard := Option.none }, { dst := Option.some 11, op := Go.Op.buildSlice 66 1 #[(0, Go.Operand.const (Go.Value.agg #[Go.Value.int Go.IntKind.u8 0, Go.Value.slice Option.none 0 0, Go.Value.slice Option.none 0 0]))], type := 66, pos := "iter.go:52", after := #[], guard := Option.none }, { dst := Option.some 12, op := Go.Op.call { callee := Go.Callee.builtin Go.Builtin.append, args := #[Go.Operand.tmp 8, Go.Operand.tmp 11], argTypes := #[66, 66] }, type := 66, pos := "iter.go:52", after := #[{ on := 0, ground := Go.Ground.data }, { on := 3, ground := Go.Ground.data }, { on := 0, ground := Go.Ground.phase }, { on := 1, ground := Go.Ground.phase }, { on := 2, ground := Go.Ground.phase }, { on := 3, ground := Go.Ground.phase }], guard := Option.none }, { dst := Option.some 13, op := Go.Op.indexAddr 66 (Go.Operand.tmp 12) (Go.Operand.tmp 10), type := 0, pos := "iter.go:52", after := #[{ on := 4, ground := Go.Ground.data }, { on := 2, ground := Go.Ground.data }, { on := 0, ground := Go.Ground.phase }, { on := 1, ground := Go.Ground.phase }, { on := 2, ground := Go.Ground.phase }, { on := 3, ground := Go.Ground.phase }, { on := 4, ground := Go.Ground.phase }, { on := 7, ground := Go.Ground.gcOnly Go.Departure.appendInPlace }], guard := Option.none }, { dst := Option.none, op := Go.Op.store 68 (Go.Operand.tmp 13) (Go.Operand.tmp 9), type := 0, pos := "iter.go:52", after := #[{ on := 5, ground := Go.Ground.data }, { on := 1, ground := Go.Ground.data }, { on := 4, ground := Go.Ground.chain }, { on := 0, ground := Go.Ground.phase }, { on := 1, ground := Go.Ground.phase }, { on := 2, ground := Go.Ground.phase }, { on := 3, ground := Go.Ground.phase }, { on := 4, ground := Go.Ground.phase }, { on := 7, ground := Go.Ground.gcOnly Go.Departure.appendInPlace }], guard := Option.none }, { dst := Option.none, op := Go.Op.store 66 (Go.Operand.tmp 2) (Go.Operand.tmp 12), type := 0, pos := "iter.go:52", after := #[{ on := 4, ground := Go.Ground.data }, { on := 4, ground := Go.Ground.chain }, { on := 6, ground := Go.Ground.textOnly Go.Departure.appendInPlace }, { on := 0, ground := Go.Ground.phase }, { on := 1, ground := Go.Ground.phase }, { on := 2, ground := Go.Ground.phase }, { on := 3, ground := Go.Ground.phase }, { on := 4, ground := Go.Ground.phase }, { on := 5, ground := Go.Ground.textOnly Go.Departure.appendInPlace }, { on := 6, ground := Go.Ground.textOnly Go.Departure.appendInPlace }], guard := Option.none }] (Exit.inBlock 1 Q9) 4 #[true, true, true, true, false, false, false, false] { tmps := #[.slice none 0 0, .func (.func gf) #[] lb, .pointer (some ⟨w.heap.size, 0, none⟩), undef, .slice none 0 0, .pointer (some ⟨Bx, 0, none⟩), .func (.func gf) #[] lb, .agg #[.int .u8 T, .slice A m c, .slice none 0 0], .slice A0 N c0, .agg #[.int .u8 T, .slice A m c, .slice none 0 0], .int .i64 (N : Int), .slice (some ⟨W.heap.size, 0, none⟩) 1 1, undef, undef, undef], defers := [] } (World.drew (W.alloc (.cells #[.int .u8 0, .slice none 0 0, .slice none 0 0] 68))) := by
   refine wpAnyIn_ready (rs := [4]) (by kernel_rfl) (by simp) (AllReadyIn.cons (o := { dst := some 12, op := .call { callee := .builtin .append, args := #[.tmp 8, .tmp 11], argTypes := #[66, 66] }, type := 66, pos := "iter.go:52", after := #[{ on := 0, ground := .data }, { on := 3, ground := .data }, { on := 0, ground := .phase }, { on := 1, ground := .phase }, { on := 2, ground := .phase }, { on := 3, ground := .phase }], guard := none }) rfl (fun K hK => ?_) AllReadyIn.nil)
   ·
    rw [if_pos (by rfl)]
    refine opIn_append (.tmp 8) (.tmp 11) 66 rfl _ _ hrun (hK _ _ ?_)
    clear hK K
    try simp only [Act.put, List.setIfInBounds_toArray, List.set_cons_zero, List.set_cons_succ]
    refine wpAnyIn_take (i := 5) (oi := { dst := some 13, op := .indexAddr 66 (.tmp 12) (.tmp 10), type := 0, pos := "iter.go:52", after := #[{ on := 4, ground := .data }, { on := 2, ground := .data }, { on := 0, ground := .phase }, { on := 1, ground := .phase }, { on := 2, ground := .phase }, { on := 3, ground := .phase }, { on := 4, ground := .phase }, { on := 7, ground := .gcOnly .appendInPlace }], guard := none }) (v := .pointer (some ⟨g, N * 3, none⟩)) rfl rfl (by kernel_rfl) (by kernel_rfl) (by kernel_rfl) (fun _ _ _ h => h) ⟨Or.inl ⟨by rfl, ?_⟩, fun _ => rfl⟩ ?_
    ·
     intro w9
     go_simp
    try simp only [Act.put, List.setIfInBounds_toArray, List.set_cons_zero, List.set_cons_succ]
    refine wpAnyIn_ready (rs := [6, 7]) (by kernel_rfl) (by simp) (AllReadyIn.cons (o := { dst := none, op := .store 68 (.tmp 13) (.tmp 9), type := 0, pos := "iter.go:52", after := #[{ on := 5, ground := .data }, { on := 1, ground := .data }, { on := 4, ground := .chain }, { on := 0, ground := .phase }, { on := 1, ground := .phase }, { on := 2, ground := .phase }, { on := 3, ground := .phase }, { on := 4, ground := .phase }, { on := 7, ground := .gcOnly .appendInPlace }], guard := none }) rfl (fun K hK => ?_) (AllReadyIn.cons (o := { dst := none, op := .store 66 (.tmp 2) (.tmp 12), type := 0, pos := "iter.go:52", after := #[{ on := 4, ground := .data }, { on := 4, ground := .chain }, { on := 6, ground := .textOnly .appendInPlace }, { on := 0, ground := .phase }, { on := 1, ground := .phase }, { on := 2, ground := .phase }, { on := 3, ground := .phase }, { on := 4, ground := .phase }, { on := 5, ground := .textOnly .appendInPlace }, { on := 6, ground := .textOnly .appendInPlace }], guard := none }) rfl (fun K hK => ?_) AllReadyIn.nil))
    ·
     go_simp
     refine hK _ _ ?_
     clear hK K
     try simp only [Act.put, List.setIfInBounds_toArray, List.set_cons_zero, List.set_cons_succ]
     refine wpAnyIn_ready (rs := [7]) (by kernel_rfl) (by simp) (AllReadyIn.cons (o := { dst := none, op := .store 66 (.tmp 2) (.tmp 12), type := 0, pos := "iter.go:52", after := #[{ on := 4, ground := .data }, { on := 4, ground := .chain }, { on := 6, ground := .textOnly .appendInPlace }, { on := 0, ground := .phase }, { on := 1, ground := .phase }, { on := 2, ground := .phase }, { on := 3, ground := .phase }, { on := 4, ground := .phase }, { on := 5, ground := .textOnly .appendInPlace }, { on := 6, ground := .textOnly .appendInPlace }], guard := none }) rfl (fun K hK => ?_) AllReadyIn.nil)
     ·
      go_simp
      refine hK _ _ ?_
      clear hK K
      try simp only [Act.put, List.setIfInBounds_toArray, List.set_cons_zero, List.set_cons_succ]
      refine wpAnyIn_done (by kernel_rfl) ?_ _
      show KeepsFrom W0.heap.size W _ ∧ Below n0 W _ ∧ ApI w lo _ _
      first | (rw [HUE.out]; exact FINH.out) | (rw [setCell_comm _ _ _ _ _ _ _ (Ne.symm HNE.out), setCell_comm _ _ _ _ _ _ _ (Ne.symm HNE.out), setCell_comm _ _ _ _ _ _ _ (Ne.symm HNE.out), HUE.out]; exact FINH.out)
    ·
     go_simp
     refine hK _ _ ?_
     clear hK K
     try simp only [Act.put, List.setIfInBounds_toArray, List.set_cons_zero, List.set_cons_succ]
     refine wpAnyIn_ready (rs := [6]) (by kernel_rfl) (by simp) (AllReadyIn.cons (o := { dst := none, op := .store 68 (.tmp 13) (.tmp 9), type := 0, pos := "iter.go:52", after := #[{ on := 5, ground := .data }, { on := 1, ground := .data }, { on := 4, ground := .chain }, { on := 0, ground := .phase }, { on := 1, ground := .phase }, { on := 2, ground := .phase }, { on := 3, ground := .phase }, { on := 4, ground := .phase }, { on := 7, ground := .gcOnly .appendInPlace }], guard := none }) rfl (fun K hK => ?_) AllReadyIn.nil)
     ·
      go_simp
      refine hK _ _ ?_
      clear hK K
      try simp only [Act.put, List.setIfInBounds_toArray, List.set_cons_zero, List.set_cons_succ]
      refine wpAnyIn_done (by kernel_rfl) ?_ _
      show KeepsFrom W0.heap.size W _ ∧ Below n0 W _ ∧ ApI w lo _ _
      first | (rw [HUE.out]; exact FINH.out) | (rw [setCell_comm _ _ _ _ _ _ _ (Ne.symm HNE.out), setCell_comm _ _ _ _ _ _ _ (Ne.symm HNE.out), setCell_comm _ _ _ _ _ _ _ (Ne.symm HNE.out), HUE.out]; exact FINH.out)
  refine wpAnyIn_ready (rs := [0, 1, 3]) (by kernel_rfl) (by simp) (AllReadyIn.cons (o := { dst := some 8, op := .load 66 (.tmp 2), type := 66, pos := "iter.go:52", after := #[], guard := none }) rfl (fun K hK => ?_) (AllReadyIn.cons (o := { dst := some 9, op := .load 68 (.tmp 5), type := 68, pos := "iter.go:52", after := #[], guard := none }) rfl (fun K hK => ?_) (AllReadyIn.cons (o := { dst := some 11, op := .buildSlice 66 1 #[(0, .const (.agg #[.int .u8 0, .slice none 0 0, .slice none 0 0]))], type := 66, pos := "iter.go:52", after := #[], guard := none }) rfl (fun K hK => ?_) AllReadyIn.nil)))
  ·
   go_simp
   refine hK _ _ ?_
   clear hK K
   try simp only [Act.put, List.setIfInBounds_toArray, List.set_cons_zero, List.set_cons_succ]
   refine wpAnyIn_take (i := 2) (oi := { dst := some 10, op := .call { callee := .builtin .len, args := #[.tmp 8], argTypes := #[66] }, type := 3, pos := "iter.go:52", after := #[{ on := 0, ground := .data }], guard := none }) (v := .int .i64 (N : Int)) rfl rfl (by kernel_rfl) (by kernel_rfl) (by kernel_rfl) (fun _ _ _ h => h) ⟨Or.inl ⟨by rfl, ?_⟩, fun _ => rfl⟩ ?_
   ·
    intro w9
    go_simp
   try simp only [Act.put, List.setIfInBounds_toArray, List.set_cons_zero, List.set_cons_succ]
   refine wpAnyIn_ready (rs := [1, 3]) (by kernel_rfl) (by simp) (AllReadyIn.cons (o := { dst := some 9, op := .load 68 (.tmp 5), type := 68, pos := "iter.go:52", after := #[], guard := none }) rfl (fun K hK => ?_) (AllReadyIn.cons (o := { dst := some 11, op := .buildSlice 66 1 #[(0, .const (.agg #[.int .u8 0, .slice none 0 0, .slice none 0 0]))], type := 66, pos := "iter.go:52", after := #[], guard := none }) rfl (fun K hK => ?_) AllReadyIn.nil))
   ·
    go_simp
    refine hK _ _ ?_
    clear hK K
    try simp only [Act.put, List.setIfInBounds_toArray, List.set_cons_zero, List.set_cons_succ]
    refine wpAnyIn_ready (rs := [3]) (by kernel_rfl) (by simp) (AllReadyIn.cons (o := { dst := some 11, op := .buildSlice 66 1 #[(0, .const (.agg #[.int .u8 0, .slice none 0 0, .slice none 0 0]))], type := 66, pos := "iter.go:52", after := #[], guard := none }) rfl (fun K hK => ?_) AllReadyIn.nil)
    ·
     go_simp
     refine hK _ _ ?_
     clear hK K
     try simp only [Act.put, List.setIfInBounds_toArray, List.set_cons_zero, List.set_cons_succ]
     exact KEY
   ·
    go_simp
    refine hK _ _ ?_
    clear hK K
    try simp only [Act.put, List.setIfInBounds_toArray, List.set_cons_zero, List.set_cons_succ]
    refine wpAnyIn_ready (rs := [1]) (by kernel_rfl) (by simp) (AllReadyIn.cons (o := { dst := some 9, op := .load 68 (.tmp 5), type := 68, pos := "iter.go:52", after := #[], guard := none }) rfl (fun K hK => ?_) AllReadyIn.nil)
    ·
     go_simp
     refine hK _ _ ?_
     clear hK K
     try simp only [Act.put, List.setIfInBounds_toArray, List.set_cons_zero, List.set_cons_succ]
     exact KEY
  ·
   go_simp
   refine hK _ _ ?_
   clear hK K
   try simp only [Act.put, List.setIfInBounds_toArray, List.set_cons_zero, List.set_cons_succ]
   refine wpAnyIn_ready (rs := [0, 3]) (by kernel_rfl) (by simp) (AllReadyIn.cons (o := { dst := some 8, op := .load 66 (.tmp 2), type := 66, pos := "iter.go:52", after := #[], guard := none }) rfl (fun K hK => ?_) (AllReadyIn.cons (o := { dst := some 11, op := .buildSlice 66 1 #[(0, .const (.agg #[.int .u8 0, .slice none 0 0, .slice none 0 0]))], type := 66, pos := "iter.go:52", after := #[], guard := none }) rfl (fun K hK => ?_) AllReadyIn.nil))
   ·
    go_simp
    refine hK _ _ ?_
    clear hK K
    try simp only [Act.put, List.setIfInBounds_toArray, List.set_cons_zero, List.set_cons_succ]
    refine wpAnyIn_take (i := 2) (oi := { dst := some 10, op := .call { callee := .builtin .len, args := #[.tmp 8], argTypes := #[66] }, type := 3, pos := "iter.go:52", after := #[{ on := 0, ground := .data }], guard := none }) (v := .int .i64 (N : Int)) rfl rfl (by kernel_rfl) (by kernel_rfl) (by kernel_rfl) (fun _ _ _ h => h) ⟨Or.inl ⟨by rfl, ?_⟩, fun _ => rfl⟩ ?_
    ·
     intro w9
     go_simp
    try simp only [Act.put, List.setIfInBounds_toArray, List.set_cons_zero, List.set_cons_succ]
    refine wpAnyIn_ready (rs := [3]) (by kernel_rfl) (by simp) (AllReadyIn.cons (o := { dst := some 11, op := .buildSlice 66 1 #[(0, .const (.agg #[.int .u8 0, .slice none 0 0, .slice none 0 0]))], type := 66, pos := "iter.go:52", after := #[], guard := none }) rfl (fun K hK => ?_) AllReadyIn.nil)
    ·
     go_simp
     refine hK _ _ ?_
     clear hK K
     try simp only [Act.put, List.setIfInBounds_toArray, List.set_cons_zero, List.set_cons_succ]
     exact KEY
   ·
    go_simp
    refine hK _ _ ?_
    clear hK K
    try simp only [Act.put, List.setIfInBounds_toArray, List.set_cons_zero, List.set_cons_succ]
    refine wpAnyIn_ready (rs := [0]) (by kernel_rfl) (by simp) (AllReadyIn.cons (o := { dst := some 8, op := .load 66 (.tmp 2), type := 66, pos := "iter.go:52", after := #[], guard := none }) rfl (fun K hK => ?_) AllReadyIn.nil)
    ·
     go_simp
     refine hK _ _ ?_
     clear hK K
     try simp only [Act.put, List.setIfInBounds_toArray, List.set_cons_zero, List.set_cons_succ]
     refine wpAnyIn_take (i := 2) (oi := { dst := some 10, op := .call { callee := .builtin .len, args := #[.tmp 8], argTypes := #[66] }, type := 3, pos := "iter.go:52", after := #[{ on := 0, ground := .data }], guard := none }) (v := .int .i64 (N : Int)) rfl rfl (by kernel_rfl) (by kernel_rfl) (by kernel_rfl) (fun _ _ _ h => h) ⟨Or.inl ⟨by rfl, ?_⟩, fun _ => rfl⟩ ?_
     ·
      intro w9
      go_simp
     try simp only [Act.put, List.setIfInBounds_toArray, List.set_cons_zero, List.set_cons_succ]
     exact KEY
  ·
   go_simp
   refine hK _ _ ?_
   clear hK K
   try simp only [Act.put, List.setIfInBounds_toArray, List.set_cons_zero, List.set_cons_succ]
   refine wpAnyIn_ready (rs := [0, 1]) (by kernel_rfl) (by simp) (AllReadyIn.cons (o := { dst := some 8, op := .load 66 (.tmp 2), type := 66, pos := "iter.go:52", after := #[], guard := none }) rfl (fun K hK => ?_) (AllReadyIn.cons (o := { dst := some 9, op := .load 68 (.tmp 5), type := 68, pos := "iter.go:52", after := #[], guard := none }) rfl (fun K hK => ?_) AllReadyIn.nil))
   ·
    go_simp
    refine hK _ _ ?_
    clear hK K
    try simp only [Act.put, List.setIfInBounds_toArray, List.set_cons_zero, List.set_cons_succ]
    refine wpAnyIn_take (i := 2) (oi := { dst := some 10, op := .call { callee := .builtin .len, args := #[.tmp 8], argTypes := #[66] }, type := 3, pos := "iter.go:52", after := #[{ on := 0, ground := .data }], guard := none }) (v := .int .i64 (N : Int)) rfl rfl (by kernel_rfl) (by kernel_rfl) (by kernel_rfl) (fun _ _ _ h => h) ⟨Or.inl ⟨by rfl, ?_⟩, fun _ => rfl⟩ ?_
    ·
     intro w9
     go_simp
    try simp only [Act.put, List.setIfInBounds_toArray, List.set_cons_zero, List.set_cons_succ]
    refine wpAnyIn_ready (rs := [1]) (by kernel_rfl) (by simp) (AllReadyIn.cons (o := { dst := some 9, op := .load 68 (.tmp 5), type := 68, pos := "iter.go:52", after := #[], guard := none }) rfl (fun K hK => ?_) AllReadyIn.nil)
    ·
     go_simp
     refine hK _ _ ?_
     clear hK K
     try simp only [Act.put, List.setIfInBounds_toArray, List.set_cons_zero, List.set_cons_succ]
     exact KEY
   ·
    go_simp
    refine hK _ _ ?_
    clear hK K
    try simp only [Act.put, List.setIfInBounds_toArray, List.set_cons_zero, List.set_cons_succ]
    refine wpAnyIn_ready (rs := [0]) (by kernel_rfl) (by simp) (AllReadyIn.cons (o := { dst := some 8, op := .load 66 (.tmp 2), type := 66, pos := "iter.go:52", after := #[], guard := none }) rfl (fun K hK => ?_) AllReadyIn.nil)
    ·
     go_simp
     refine hK _ _ ?_
     clear hK K
     try simp only [Act.put, List.setIfInBounds_toArray, List.set_cons_zero, List.set_cons_succ]
     refine wpAnyIn_take (i := 2) (oi := { dst := some 10, op := .call { callee := .builtin .len, args := #[.tmp 8], argTypes := #[66] }, type := 3, pos := "iter.go:52", after := #[{ on := 0, ground := .data }], guard := none }) (v := .int .i64 (N : Int)) rfl rfl (by kernel_rfl) (by kernel_rfl) (by kernel_rfl) (fun _ _ _ h => h) ⟨Or.inl ⟨by rfl, ?_⟩, fun _ => rfl⟩ ?_
     ·
      intro w9
      go_simp
     try simp only [Act.put, List.setIfInBounds_toArray, List.set_cons_zero, List.set_cons_succ]
     exact KEY
  -- BODY-END
 case done =>
  rintro D xs W hD hS ⟨⟨v, hv, hrow⟩, hels, hbl, _⟩ hK
  have hcv := hv.cell
  have HROW := Lib.hid hrow
  have HELS := Lib.hid hels
  have HBL := Lib.hid hbl
  have HS := Lib.hid hS
  have HK := Lib.hid hK
  have hlD : D < W.heap.size := (Array.getElem?_eq_some_iff.1 hK).1
  clear hrow hels hbl hS hK
  gi_wp2_with fail
  refine ⟨by simp, .inl ⟨_, _, rfl, run_takeDeferred HK.out, ?_⟩⟩
  have hg := grownBy_putObj' W D (.deferred none)
  have hr : ∀ r, some D = some r → w.heap.size ≤ r ∧ ∃ o : Obj, W.heap[r]? = some o ∧ o.isCells = false := fun r e => by
   obtain rfl := Option.some.inj e
   exact ⟨by have := HZ.out; omega, _, HK.out, rfl⟩
  refine ⟨_, results_tmp rfl _ _ _, v, xs, rfl, HS.out, ?_, fun t ht => at_own (HELS.out t ht) hg hr, HBL.out.grown hg HBL.out.size (fun k e => (hr k e).1)⟩
  exact ownsRow_putObj HROW.out _ HK.out rfl
set_option maxRecDepth 100000 in
set_option maxHeartbeats 4000000 in
theorem collect_any (n0 lo : Nat) (gf : Nat) (lb : Array Value) (eg : ∀ args w, (callFunc gf args).run Tryz.prog w = .ok (.enter gf args) w) (Pq : List Tr → Tr → World → Prop) (S : List Tr → Prop) (w : World) (hn0 : n0 ≤ w.heap.size)
  (hP : ∀ pre x W, Pq pre x W → pre.length < 5000 ∧ (∃ A m c, x.2.1 = .slice A m c) ∧ x.2.2 = .slice none 0 0 ∧ At (RwT 5 lo W) W x.1 x.2.1 x.2.2)
  (hseq : SeqP Fence.wide 3 Tryz.prog gf lb encT Pq (Below n0) S w) :
  Calls Tryz.prog 58 #[.func (.func gf) #[] lb] w (CoPost lo S w) := by
 have HC := Lib.hid (aseq_any n0 lo gf lb eg Pq S w hn0 hP hseq)
 clear hn0 hP hseq
 go_enter Tryz.func58, Tryz.ntmps58
 go_wp2_with fail
 refine HC.out.mono ?_
 rintro e w' ⟨v, ts, rfl, h1, h2, h3, h4⟩
 go_wp2_with fail
 go_ret
 exact ⟨v, ts, rfl, h1, h2, h3, h4⟩
theorem serval_any (A : Option Addr) (n c : Nat) (w : World) : Calls Tryz.prog 59 #[.slice A n c] w fun e w' => e = .returned (.func (.func 101) #[] #[.pointer (some ⟨w.heap.size, 0, none⟩)]) ∧ w' = w.alloc (.cells #[.slice A n c] 22) := by
 go_enter Tryz.func59, Tryz.ntmps59
 go_wp2
 go_ret
 exact ⟨rfl, rfl⟩
theorem sercol_any (xs : List Int) (A : Option Addr) (c : Nat) (hl : xs.length ≤ 5000) (hu : ∀ x ∈ xs, 0 ≤ x ∧ x < 18446744073709551616) (w : World) (hN : Nums A xs w) (w1 : World) (hb : Below w.heap.size w w1) (X : Nat) (hX : w1.heap[X]? = some (.cells #[.slice A xs.length c] 22 (0, 0))) :
  Calls Tryz.prog 58 #[.func (.func 101) #[] #[.pointer (some ⟨X, 0, none⟩)]] w1 (CoPost w.heap.size (fun ts => ts.map (·.1) = xs.map n5i) w1) :=
 collect_any w.heap.size w.heap.size _ _ (enters_of Tryz.func101 (by kernel_rfl) rfl) (SerP xs w.heap.size) _ w1 hb.size (fun pre x W h => ⟨Nat.lt_of_lt_of_le h.1 hl, h.2.1, h.2.2.1, h.2.2.2⟩) (ser_seq 3 X w xs A c hl hu w1 hX hb hN)
theorem own_base {w : World} {b b' : Nat} {E : TypeId} {v : Value} {n k : Nat} {xs : List Value} (h : w.ownsRow b E k v n xs) (hb : b' ≤ b) : w.ownsRow b' E k v n xs := by
 refine ⟨h.1, ?_⟩
 rcases h.2 with hn | ⟨g, cap, cur, hv, hbg, rest⟩
 ·
  exact .inl hn
 ·
  exact .inr ⟨g, cap, cur, hv, Nat.le_trans hb hbg, rest⟩
theorem seq_rows (tg : UInt8) {base lo : Nat} {V : World} {v : Value} {ts : List Tr} (hown : V.ownsRow base 68 3 v ts.length (rowT ts)) (hels : ∀ t ∈ ts, At (RwT 5 lo V) V t.1 t.2.1 t.2.2) (hlb : lo ≤ base) (hlen : ts.length ≤ 5000) (hT : ∀ o ∈ ts.map (·.1), cnt o ≤ 5000 ∧ tot o ≤ 100000) :
  Calls Tryz.prog 29 #[.int .u8 (tg.toNat : Int), v] V (TwPost (.mk tg [] (ts.map (·.1))) V) := by
 obtain ⟨B, d, rfl, hat⟩ := at_of_rows (base := lo) 0 (b := []) (A := none) (c := 0) (own_base hown hlb) (fun u hu => (hels u hu).to fun g p x hx hR => ⟨hx, hR.rw⟩) (by omega) (Nat.le_refl _) (by decide) (fun _ => rfl) (fun h => absurd rfl h) (fun ga oa e => by cases e)
 obtain ⟨A', c', B', d', g, off, vb, vl, e1, e2, _, _, _, _, _, _, he⟩ := hat.any.els
 injection e2 with e3 e4 e5
 subst e3 e5
 have hll : (ts.map (·.1)).length = ts.length := List.length_map _
 have h := seq_any tg (ts.map (·.1)) (by rw [hll]; exact hlen) hT B d g off vb vl V he
 rw [hll] at h
 exact h
end Sg
end Go.Proofs.YtcgffkkfeimifaaGreatDoor
