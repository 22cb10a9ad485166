import Derived.Test.YtcgffkkfeimifaaGreatDoorRvFK
import Derived.Lib.MinMax
import Derived.Lib.ConvBytes
import Derived.Laws.Cover3
import Derived.Deep.RegionHeld3
import Derived.Laws.EntriesVeiled
namespace Go.Proofs.YtcgffkkfeimifaaGreatDoor
namespace Sg
open Go.RowKit Sha Oc
set_option linter.unusedVariables false
set_option linter.unusedSimpArgs false
attribute [local go_sem] Oper.semAt_some
structure Kq (W W' : World) : Prop where
 size : W.heap.size ≤ W'.heap.size
 same : ∀ (g : Nat) (cs : Array Value) (T : TypeId) (fr : Nat × Nat), W.heap[g]? = some (Obj.cells cs T fr) → T ≠ 28 → T ≠ 41 → W'.heap[g]? = some (Obj.cells cs T fr)
theorem Kq.refl (W : World) : Kq W W := ⟨Nat.le_refl _, fun _ _ _ _ h _ _ => h⟩
theorem Kq.trans {A B C : World} (h : Kq A B) (k : Kq B C) : Kq A C := ⟨Nat.le_trans h.size k.size, fun g cs T fr hg h1 h2 => k.same g cs T fr (h.same g cs T fr hg h1 h2) h1 h2⟩
theorem Kq.of {A B : World} (h : Below A.heap.size A B) : Kq A B := ⟨h.size, fun g cs T fr hg _ _ => (h.block g (Array.getElem?_eq_some_iff.1 hg).1).trans hg⟩
theorem chunk_any (A : Option Addr) (n c : Nat) (w : World) : Calls Tryz.prog 159 #[.slice A n c, .int .i64 16] w fun e w' => e = .returned (.func (.func 165) #[] #[.pointer (some ⟨w.heap.size, 0, none⟩), .pointer (some ⟨w.heap.size + 1, 0, none⟩)]) ∧ w' = (w.alloc (.cells #[.slice A n c] 34)).alloc (.cells #[.int .i64 16] 3) := by
 go_enter Tryz.func159, Tryz.ntmps159
 go_wp2
 go_ret
 exact ⟨rfl, rfl⟩
abbrev Cr := Option Addr × List UInt8
abbrev encC (a : Cr) : Array Value := #[.slice a.1 16 16]
def ChP (q : Nat) (pre : List Cr) (a : Cr) (W : World) : Prop := pre.length < q ∧ a.2.length = 16 ∧ ∃ G o cur fr, a.1 = some ⟨G, o, none⟩ ∧ W.heap[G]? = some (Obj.cells cur 5 fr) ∧ ∀ (j : Nat) (x : UInt8), a.2[j]? = some x → cur[o + j]? = some (Value.int .u8 (x.toNat : Int))
theorem chs_at : ∀ (n k : Nat) (b : List UInt8), k < n → (chs n b)[k]? = some ((b.drop (16 * k)).take 16)
 | 0, k, b, h => by omega
 | n + 1, 0, b, h => rfl
 | n + 1, k + 1, b, h => by
  rw [chs, List.getElem?_cons_succ, chs_at n k _ (by omega), List.drop_drop]
  rw [show 16 + 16 * k = 16 * (k + 1) by omega]
set_option maxRecDepth 100000 in
set_option maxHeartbeats 4000000 in
theorem chunk_seq (n XA XN G q c : Nat) (b : List UInt8) (cur : Array Value) (fr : Nat × Nat) (hq : b.length = 16 * q) (hq2 : q ≤ 5000) (hc : b.length ≤ c) (hc2 : c ≤ 9223372036854775807) (hcur : ∀ (j : Nat) (x : UInt8), b[j]? = some x → cur[j]? = some (Value.int .u8 (x.toNat : Int))) (w : World) (hX : w.heap[XA]? = some (.cells #[.slice (some ⟨G, 0, none⟩) (16 * q) c] 34 (0, 0))) (hN : w.heap[XN]? = some (.cells #[.int .i64 16] 3 (0, 0))) (hG : w.heap[G]? = some (.cells cur 5 fr)) :
  SeqP Fence.wide n Tryz.prog 165 #[.pointer (some ⟨XA, 0, none⟩), .pointer (some ⟨XN, 0, none⟩)] encC (ChP q) Kq (fun qs => qs.map (·.2) = chO b) w := by
 intro l J W hb hJ hY h0
 have HXW := Lib.hid (row_on hX hb)
 have HNW := Lib.hid (row_on hN hb)
 have HGW := Lib.hid (row_on hG hb)
 have HQ := Lib.hid hq
 have HCU := Lib.hid hcur
 have HY := Lib.hid hY
 have HJ := Lib.hid hJ
 have HJ0 := Lib.hid h0
 have hc' : 16 * q ≤ c := by omega
 have HC := Lib.hid hc'
 have HC2 := Lib.hid hc2
 clear hX hb hN hG hq hcur hY hJ h0 hc hc' hc2
 refine callsIn_of_wp Tryz.func165 rfl trivial ?_ rfl
 simp only [Tryz.ntmps165, List.size_toArray, List.length_cons, List.length_nil, Nat.reduceAdd, Nat.reduceSub, Array.replicate_succ, Array.replicate_zero, List.push_toArray, List.append_toArray, List.nil_append, List.cons_append]
 gi_wp2_with fail
 gi_loopw [4, 5] (fun ix _ wr => ∃ (k : Nat) (ts : List Cr), k ≤ q ∧ ix = .int .i64 ((16 * k : Nat) : Int) ∧ RowKit.Hid (ts.map (·.2) = (chO b).take k) ∧ RowKit.Hid (J ts wr) ∧ RowKit.Hid (Kq W wr)) (fun ix _ _ => 16 * q - (intOf ix).toNat)
 case atStart => exact ⟨0, [], by omega, rfl, Lib.hid rfl, HJ0, Lib.hid (Kq.refl _)⟩
 case round =>
  clear HJ0
  obtain ⟨k, ts, hk, rfl, HTS, HJS, HKS⟩ := hrel
  have hxw := HKS.out.same _ _ _ _ HXW.out (by decide) (by decide)
  have hnw := HKS.out.same _ _ _ _ HNW.out (by decide) (by decide)
  have hcx := cell_of_one hxw
  have hcn := cell_of_one hnw
  clear hxw hnw
  by_cases hlt : k < q
  ·
   obtain ⟨i, hi⟩ : ∃ i, 16 * k = i := ⟨_, rfl⟩
   obtain ⟨L, hL⟩ : ∃ L, 16 * q = L := ⟨_, rfl⟩
   have hil : i + 16 ≤ L := by omega
   have hcL := HC.out
   have hc9 := HC2.out
   rw [hL] at hcL
   rw [hi, hL]
   rw [hL] at hcx
   have HI := Lib.hid hi
   have HL := Lib.hid hL
   have g1 : (i : Int) < (L : Int) := by omega
   have g5 : (i : Int) ≤ 100000 := by omega
   have g2 : ¬ c = i := by omega
   have g3 : (i : Int) ≤ (c : Int) := by omega
   have g4 : ¬ (L : Int) - (i : Int) < 16 := by omega
   clear hi hL
   gi_wp2_with fail
   gi_region
   rw [show min (16 : Int) ((L - i : Nat) : Int) = 16 by omega]
   have hJ2 : J ts wr.drew := HJ.out ts wr _ none HJS.out ⟨rfl, rfl, rfl, Nat.le_refl _, fun _ _ _ => rfl⟩ (fun r e => by cases e)
   have hTL : ts.length = k := by
    have h1 := congrArg List.length HTS.out
    rw [List.length_map, List.length_take] at h1
    have h2 : (chO b).length = q := by unfold chO; rw [chs_len, HQ.out]; omega
    omega
   have hP2 : ChP q ts (some ⟨G, i, none⟩, (b.drop i).take 16) wr.drew := by
    refine ⟨by omega, by rw [List.length_take, List.length_drop, HQ.out, HL.out]; omega, G, i, cur, fr, rfl, HKS.out.same _ _ _ _ HGW.out (by decide) (by decide), fun j x hx => ?_⟩
    refine HCU.out (i + j) x ?_
    rw [List.getElem?_take] at hx
    split at hx
    ·
     rw [List.getElem?_drop] at hx; exact hx
    ·
     cases hx
   obtain ⟨fn, tmps, assign, body, hy, hR⟩ := HY.out ts _ wr.drew hJ2 hP2
   have HR := Lib.hid hR
   dsimp only [encC] at hy
   have HT3 : RowKit.Hid ((ts ++ [(some (⟨G, i, none⟩ : Addr), (b.drop i).take 16)]).map (·.2) = (chO b).take (k + 1)) := Lib.hid (by
    have e1 : (chO b).take (k + 1) = (chO b).take k ++ [(b.drop i).take 16] := by
     unfold chO
     have e2 := List.take_add_one (l := chs q b) (i := k)
     rw [chs_at q k b hlt, HI.out] at e2
     rw [HQ.out, Nat.mul_div_cancel_left _ (by decide)]
     exact e2
    rw [List.map_append, HTS.out, e1]
    rfl)
   clear hJ2 hP2 hR hTL
   gi_wp2_with fail
   refine ⟨fun h => (by cases h), HR.out.mono ?_⟩
   rintro e W3 ⟨rfl, hJ3, hk3⟩
   have HJ3 := Lib.hid hJ3
   have hk3' : Kq W W3 := HKS.out.trans ((Kq.of (Below.refl _ _).drew).trans hk3)
   have HK3 := Lib.hid hk3'
   have hn3 := cell_of_one (hk3'.same _ _ _ _ HNW.out (by decide) (by decide))
   clear hJ3 hk3 hk3' HR hy hcn hcx
   gi_wp2_with fail
   exact ⟨⟨k + 1, _, by omega, by rw [show (((16 * (k + 1) : Nat)) : Int) = (i : Int) + 16 by have := HI.out; omega], HT3, HJ3, HK3⟩, by simp [intOf]; omega⟩
  ·
   have hkk : k = q := by omega
   have HKK := Lib.hid hkk
   have hge : ¬ ((16 * k : Nat) : Int) < ((16 * q : Nat) : Int) := by omega
   clear hkk
   gi_wp2_with fail
   go_end0
   refine ⟨⟨_, rfl⟩, ts, ?_, HJS.out⟩
   have h1 := HTS.out
   rw [HKK.out, List.take_of_length_le (by unfold chO; rw [chs_len, HQ.out]; omega)] at h1
   exact h1
end Sg
end Go.Proofs.YtcgffkkfeimifaaGreatDoor
namespace Go.Proofs.YtcgffkkfeimifaaGreatDoor
namespace Sg
open Go.RowKit Sha Oc
set_option linter.unusedVariables false
set_option linter.unusedSimpArgs false
attribute [local go_sem] Oper.semAt_some
theorem fold_set : ∀ (l : List Value) (k : Nat) (A : Array Value), k + l.length ≤ A.size → ∀ j, ((l.zipIdx k).foldl (fun cs x => cs.setIfInBounds x.snd x.fst) A)[j]? = if k ≤ j ∧ j < k + l.length then l[j - k]? else A[j]?
 | [], k, A, _, j => by
  rw [if_neg (by simp <;> omega)]
  rfl
 | v :: r, k, A, h, j => by
  rw [List.length_cons] at h
  rw [List.zipIdx_cons, List.foldl_cons, fold_set r (k + 1) (A.setIfInBounds k v) (by simp; omega) j, List.length_cons]
  by_cases e : j = k
  ·
   subst e
   rw [if_neg (by omega), if_pos (by omega), Nat.sub_self, Array.getElem?_setIfInBounds]
   rw [if_pos rfl, if_pos (by omega)]
   rfl
  ·
   by_cases h1 : k + 1 ≤ j ∧ j < k + 1 + r.length
   ·
    rw [if_pos h1, if_pos (by omega), show j - k = (j - (k + 1)) + 1 by omega, List.getElem?_cons_succ]
   ·
    rw [if_neg h1, if_neg (by omega), Array.getElem?_setIfInBounds, if_neg (by omega)]
theorem fill_row (cs Z : Array Value) (h : Z.size = cs.size) : Array.foldl (fun cs x => cs.setIfInBounds x.snd x.fst) Z cs.zipIdx 0 cs.size = cs := by
 have e1 : Array.foldl (fun (cs : Array Value) (x : Value × Nat) => cs.setIfInBounds x.snd x.fst) Z cs.zipIdx 0 cs.size = (cs.toList.zipIdx 0).foldl (fun cs x => cs.setIfInBounds x.snd x.fst) Z := by
  have hz : cs.size = cs.zipIdx.size := by simp
  rw [hz, ← Array.foldl_toList, Array.toList_zipIdx]
 rw [e1]
 apply Array.ext_getElem?
 intro j
 rw [fold_set _ _ _ (by simp [h]) j]
 by_cases hj : j < cs.size
 ·
  rw [if_pos (by simp [hj])]
  simp
 ·
  rw [if_neg (by simp; omega), Array.getElem?_eq_none (by omega), Array.getElem?_eq_none (by omega)]
theorem fill_16 (C : List UInt8) (hC : C.length = 16) : Array.foldl (fun cs x => cs.setIfInBounds x.snd x.fst) #[.int .u8 0, .int .u8 0, .int .u8 0, .int .u8 0, .int .u8 0, .int .u8 0, .int .u8 0, .int .u8 0, .int .u8 0, .int .u8 0, .int .u8 0, .int .u8 0, .int .u8 0, .int .u8 0, .int .u8 0, .int .u8 0] (bcells C).zipIdx 0 16 = bcells C := by
 have h16 : (bcells C).size = 16 := by rw [bcells_size, hC]
 have hf := fill_row (bcells C) #[.int .u8 0, .int .u8 0, .int .u8 0, .int .u8 0, .int .u8 0, .int .u8 0, .int .u8 0, .int .u8 0, .int .u8 0, .int .u8 0, .int .u8 0, .int .u8 0, .int .u8 0, .int .u8 0, .int .u8 0, .int .u8 0] h16.symm
 rw [h16] at hf
 exact hf
theorem opIn_load {F : Fence} {n : Nat} {P : Program} {o : Oper} {a : Act} {w : World} {K : Act → World → Prop} {Q : Exit → Act → World → Prop} (ty : TypeId) (x : Operand) (ho : o.op = .load ty x) (b off : Nat) (hx : a.eval x = .pointer (some ⟨b, off, none⟩)) (cs : List Value) (d : TypeDesc) (hc : w.rangeAt b off cs)
  (hu : P.underlying ty = some d) (hd : d.isRow = true) (hi : (P.info? ty).map (·.size) = some cs.length) (hK : K (a.put o.dst (.agg cs.toArray)) w) : Oper.wpIn F n P o a w K Q := by
 unfold Oper.wpIn
 refine ⟨?_, ?_⟩
 ·
  simp [Oper.about, ho]
 ·
  rw [Oper.semAt_plain F _ _ (by rw [ho]; intro c hc'; cases hc')]
  unfold execOp
  simp only [ho, hx, Instr.loadAt, Instr.sureAddr, Sem.run_bind, Sem.run_pure, Result.andThen_ok, run_loadVar_mid w b off ty cs d hc hu hd hi]
  exact hK
theorem opIn_short {F : Fence} {n : Nat} {P : Program} {o : Oper} {a : Act} {w : World} {K : Act → World → Prop} {Q : Exit → Act → World → Prop} (ty : TypeId) (x : Operand) (ho : o.op = .load ty x) (b off : Nat) (hx : a.eval x = .pointer (some ⟨b, off, none⟩)) (C : List UInt8) (d : TypeDesc) (hc : w.rangeAt b off (bvals C))
  (hu : P.underlying ty = some d) (hd : d.isRow = true) (hi : (P.info? ty).map (·.size) = some (bvals C).length) (hK : K (a.put o.dst (.agg (bcells C))) w) : Oper.wpIn F n P o a w K Q :=
 opIn_load ty x ho b off hx (bvals C) d hc hu hd hi hK
theorem sz_shortL (l : List UInt8) (h : l.length = 16) : (Tryz.prog.info? 41).map (·.size) = some (bvals l).length := by
 rw [bvals_len, h]
 kernel_rfl
theorem ne_shorts : (28 : TypeId) ≠ 41 := by decide
theorem typed_ne2 {V : World} {g k : Nat} {cs ds : Array Value} {S T : TypeId} {fr fr' : Nat × Nat} (h1 : V.heap[g]? = some (Obj.cells cs S fr)) (h2 : V.heap[k]? = some (Obj.cells ds T fr')) (hne : S ≠ T) : g ≠ k := fun e => by
 subst e
 rw [h1] at h2
 exact hne (Obj.cells.inj (Option.some.inj h2)).2.1
structure ShI (S1 B : Nat) (w2 : World) (pre : List Cr) (W : World) : Prop where
 box : ∃ v, Boxed W B 28 v ∧ W.ownsRow B 41 16 v pre.length (bvals ((pre.map (·.2)).flatten))
 bl : Below B w2 W
 rows : ∀ a ∈ pre, a.2.length = 16
 len : pre.length ≤ 5000
 size : S1 ≤ W.heap.size
def ShX (q S1 : Nat) (fr : Act) (pre : List Cr) (x : Cr) (a' : Act) (W : World) : Prop := ChP q pre x W ∧ a' = { tmps := (fr.tmps.setIfInBounds 30 (.slice x.1 16 16)).setIfInBounds 11 (.slice x.1 16 16), defers := [] }
theorem own_keep {w w' : World} {base n k B : Nat} {v : Value} {xs : List Value} {E : TypeId} {row : Option Nat} (h : w.ownsRow base E k v n xs) (hg : w.grownBy w' row) (hr : ∀ r, row = some r → B ≤ r ∧ ∃ o : Obj, w.heap[r]? = some o ∧ o.isCells = false) : w'.ownsRow base E k v n xs := by
 refine ⟨h.1, ?_⟩
 rcases h.2 with hn | ⟨g, cap, cur, hv, h3, h4, rest⟩
 ·
  exact .inl hn
 ·
  exact .inr ⟨g, cap, cur, hv, h3, cells_own h4 hg hr, rest⟩
theorem shi_own (S1 B : Nat) (w2 : World) (n : Nat) (hB : B ≤ n) (hw : B ≤ w2.heap.size) : OwnFrom n (ShI S1 B w2) := fun s W W' row hs hg hr => by
 obtain ⟨v, hv, hrow⟩ := hs.box
 exact ⟨⟨v, cells_own hv hg hr, own_keep hrow hg hr⟩, hs.bl.grown hg (Nat.le_trans hw hs.bl.size) (fun k e => Nat.le_trans hB (hr k e).1), hs.rows, hs.len, Nat.le_trans hs.size hg.size⟩
theorem chp_own {q n : Nat} {pre : List Cr} {x : Cr} {W W' : World} {row : Option Nat} (h : ChP q pre x W) (hg : W.grownBy W' row) (hr : ∀ r, row = some r → n ≤ r ∧ ∃ o : Obj, W.heap[r]? = some o ∧ o.isCells = false) : ChP q pre x W' := by
 obtain ⟨h1, h2, G, o, cur, fr, h3, h4, h5⟩ := h
 exact ⟨h1, h2, G, o, cur, fr, h3, cells_own h4 hg hr, h5⟩
theorem flat_snoc (pre : List Cr) (x : Cr) : bvals (((pre ++ [x]).map (·.2)).flatten) = bvals ((pre.map (·.2)).flatten) ++ bvals x.2 := by
 rw [List.map_append, List.flatten_append]
 unfold bvals
 rw [List.map_append]
 simp
def shR (v : Oct) (tg : UInt8) (M : Int) : List (List UInt8) × Int := if (rS v tg (M * 16)).1.length % 16 = 0 then (chO (rS v tg (M * 16)).1, (rS v tg (M * 16)).2) else ([], kp (rS v tg (M * 16)).2 12)
theorem kp_assoc (a b c : Int) : kp (kp a b) c = kp a (kp b c) := by
 unfold kp
 by_cases h : a = 0
 ·
  rw [if_pos h, if_pos h]
 ·
  rw [if_neg h, if_neg h, if_neg h]
def ShPost (R F lo : Nat) (l : Rl) (m : Mp) (r : List (List UInt8) × Int) (e0 : Int) (W : World) (e : Ending) (W' : World) : Prop := ∃ A c, e = .returned (.slice A r.1.length c) ∧ Shs A r.1 W' ∧ (∀ g o, A = some ⟨g, o, none⟩ → lo ≤ g) ∧ Rs R F lo l m (kp e0 r.2) W' ∧ Bu R F W W'
set_option maxRecDepth 100000 in
set_option maxHeartbeats 8000000 in
theorem shorts_rd {R F lo : Nat} {l : Rl} {m : Mp} {e0 : Int} {W : World} (hS : Rs R F lo l m e0 W) (v : Oct) (tg : UInt8) (M M16 : Int) (hM : 0 ≤ M ∧ M ≤ 100) (hM16 : M * 16 = M16) (x y : Value) (hat : At (fun g => g ≠ R ∧ g ≠ F) W v x y) :
  Calls Tryz.prog 150 #[.pointer (some ⟨R, 0, none⟩), .agg (cell3 v x y), .int .u8 (tg.toNat : Int), .int .i64 M] W (ShPost R F lo l m (shR v tg M) e0 W) := by
 have hcl : ∀ V : World, Below W.heap.size W V → Calls Tryz.prog 148 #[.pointer (some ⟨R, 0, none⟩), .agg (cell3 v x y), .int .u8 (tg.toNat : Int), .int .i64 M16] V fun e V' => e = .returned (.string ⟨(rS v tg (M * 16)).1.toArray⟩) ∧ Rs R F lo l m (kp e0 (rS v tg (M * 16)).2) V' ∧ Bu R F V V' := fun V hb => by
  rw [← hM16]
  exact str_rd (hS.on hb) v tg (M * 16) x y (Bu.at hat (Bu.below hb))
 have hXlen : ((rS v tg (M * 16)).1.length : Int) ≤ 1600 := by
  unfold rS rdS
  by_cases h : tagO v = tg ∧ (kids v).length = 0 ∧ ((bytO v).length : Int) ≤ M * 16
  ·
   rw [if_pos h]
   have := h.2.2
   show ((bytO v).length : Int) ≤ 1600
   omega
  ·
   rw [if_neg h]
   decide
 have hshR : shR v tg M = if (rS v tg (M * 16)).1.length % 16 = 0 then (chO (rS v tg (M * 16)).1, (rS v tg (M * 16)).2) else ([], kp (rS v tg (M * 16)).2 12) := rfl
 obtain ⟨sr, hsr⟩ : ∃ sr, shR v tg M = sr := ⟨_, rfl⟩
 rw [hsr] at hshR ⊢
 obtain ⟨A1, m1, c1, B1, n1, d1, rfl, rfl⟩ := hat.slices
 obtain ⟨X, hX⟩ : ∃ X, (rS v tg (M * 16)).1 = X := ⟨_, rfl⟩
 obtain ⟨E, hE⟩ : ∃ E, (rS v tg (M * 16)).2 = E := ⟨_, rfl⟩
 obtain ⟨tz, htz⟩ : ∃ tz : Int, ((tagO v).toNat : Int) = tz := ⟨_, rfl⟩
 obtain ⟨gz, hgz⟩ : ∃ gz : Int, (tg.toNat : Int) = gz := ⟨_, rfl⟩
 obtain ⟨sX, hsX⟩ : ∃ sX : ByteArray, (⟨X.toArray⟩ : ByteArray) = sX := ⟨_, rfl⟩
 obtain ⟨L, hL⟩ : ∃ L, X.length = L := ⟨_, rfl⟩
 have hsL : sX.size = L := by rw [← hsX, ← hL]; simp [ByteArray.size]
 unfold cell3 at hcl ⊢
 rw [hX, hE] at hcl hshR
 rw [hX] at hXlen
 rw [hL] at hXlen hshR
 rw [htz, hgz, hsX] at hcl
 rw [htz, hgz]
 have hM0 := hM.1
 have hM1 := hM.2
 have hwm : IntKind.i64.wrap (M * 16) = M16 := by
  rw [hM16]
  simp [IntKind.wrap, IntKind.bits, IntKind.signed]
  omega
 have HCL := Lib.hid hcl
 have HSH := Lib.hid hshR
 have HSX := Lib.hid hsX
 have HLX := Lib.hid hL
 have HSL := Lib.hid hsL
 have HSS := Lib.hid hS
 have HM16 := Lib.hid hM16
 have hLI : (L : Int) ≤ 1600 := hXlen
 clear hcl hshR hX hE htz hgz hsX hL hsL hXlen hS hsr hat hM hM16
 obtain ⟨S0, hS0⟩ : ∃ S0, W.heap.size = S0 := ⟨_, rfl⟩
 refine (callsIn_wide (n := 4)).1 ?_
 refine callsIn_of_wp_marks Tryz.func150 rfl trivial ?_ rfl
 simp only [Tryz.ntmps150, List.size_toArray, List.length_cons, List.length_nil, Nat.reduceAdd, Nat.reduceSub, Array.replicate_succ, Array.replicate_zero, List.push_toArray, List.append_toArray, List.nil_append, List.cons_append]
 gi_wp2_with fail
 have HB0 := Lib.hid (below_new W (.cells #[.int .u8 tz, .slice A1 m1 c1, .slice B1 n1 d1] 68))
 refine ⟨trivial, (callsIn_wide.2 (HCL.out _ HB0.out)).mono ?_⟩
 rintro e w1 ⟨rfl, hs1, hu1⟩
 have hr := Lib.run_convert_string_bytes (P := Tryz.prog) w1 9 34 5 sX (u := .string) Tryz.underlying9 Tryz.underlying34 Tryz.underlying5
 rw [HSL.out] at hr
 obtain ⟨cb, hcb⟩ : ∃ c, grownCap w1 L 0 5 = c := ⟨_, rfl⟩
 have hlc : L ≤ cb := by rw [← hcb]; exact grownCap_ge w1 L 0 _
 have hnew := Lib.bytesWorld_at_new w1 5 sX
 have hb2 : Below w1.heap.size w1 (Lib.bytesWorld w1 5 sX) := below_bytesWorld w1 sX
 obtain ⟨cur, hcur⟩ : ∃ cur, Lib.bytesCells w1 5 sX = cur := ⟨_, rfl⟩
 have hcu : ∀ (j : Nat) (z : UInt8), X[j]? = some z → cur[j]? = some (Value.int .u8 (z.toNat : Int)) := fun j z hz => by
  have hjl := (List.getElem?_eq_some_iff.1 hz).1
  have h1 := Lib.bytesWorld_cell w1 5 sX j (by rw [HSL.out, ← HLX.out]; exact hjl)
  simp only [World.cell?, hnew] at h1
  rw [hcur] at h1
  rw [← HSX.out] at h1
  simp only [List.getD_eq_getElem?_getD, hz, Option.getD_some] at h1
  simpa using h1
 have hcz : cb ≤ 9223372036854775807 := by rw [← hcb]; exact grownCap_le_maxLen w1 L 0 _ (by unfold maxLen; omega)
 rw [hcur] at hnew
 rw [hcb] at hr
 generalize Lib.bytesWorld w1 5 sX = w2 at hr hb2 hnew
 obtain ⟨G, hG⟩ : ∃ G, w1.heap.size = G := ⟨_, rfl⟩
 rw [hG] at hr hnew
 have HNEW := Lib.hid hnew
 have HS2 := Lib.hid (hs1.on hb2)
 have HU2 := Lib.hid (((Bu.below (a := R) (b := F) HB0.out).trans hu1).trans (Bu.below hb2))
 have HG := Lib.hid hG
 have HCU := Lib.hid hcu
 clear hs1 hu1 hb2 hnew hcb hcur hcu hG
 have HLC := Lib.hid hlc
 have HCZ := Lib.hid hcz
 clear hlc hcz
 by_cases hmod : L % 16 = 0
 ·
  have hm1 : ((L : Int) % 16 != 0) = false := by
   have : (L : Int) % 16 = 0 := by omega
   rw [this]; rfl
  have HMOD := Lib.hid hmod
  clear hmod
  gi_wp2_with fail
  refine ⟨trivial, (callsIn_wide.2 (chunk_any _ _ _ _)).mono ?_⟩
  rintro e W0 ⟨rfl, hw3⟩
  obtain ⟨B, hBB⟩ : ∃ B, w2.heap.size = B := ⟨_, rfl⟩
  have hz1 : (w2.alloc (.cells #[.slice none 0 0] 28)).heap.size = B + 1 := by rw [World.size_alloc, hBB]
  have hz0 : W0.heap.size = B + 3 := by rw [hw3, World.size_alloc, World.size_alloc, hz1]
  have hb1 := below_new w2 (.cells #[.slice none 0 0] 28)
  have hb3 : Below (w2.alloc (.cells #[.slice none 0 0] 28)).heap.size (w2.alloc (.cells #[.slice none 0 0] 28)) W0 := by rw [hw3]; exact (below_new _ _).alloc (by simp) _
  have hrB : W0.heap[B]? = some (.cells #[.slice none 0 0] 28 (0, 0)) := by rw [← hBB]; exact row_on (heap_alloc_new w2 _) hb3
  have hrA : W0.heap[B + 1]? = some (.cells #[.slice (some ⟨G, 0, none⟩) L cb] 34 (0, 0)) := by
   rw [hw3, ← hz1]
   exact heap_alloc2_old _ _ _
  have hrN : W0.heap[B + 2]? = some (.cells #[.int .i64 16] 3 (0, 0)) := by
   rw [hw3, show B + 2 = (w2.alloc (.cells #[.slice none 0 0] 28)).heap.size + 1 by rw [hz1]]
   exact heap_alloc2_new _ _ _
  have hb0 : Below w2.heap.size w2 W0 := hb1.trans (hb3.mono (by simp))
  have hrG := row_on HNEW.out hb0
  rw [hBB] at hb0
  rw [hz1]
  clear hb1 hb3 hw3 hr
  gi_wp2_with fail
  generalize hfr : (Act.mk _ _) = fr0
  obtain ⟨q, hq⟩ : ∃ q, L / 16 = q := ⟨_, rfl⟩
  have hLq : L = 16 * q := by have := HMOD.out; omega
  have hseq := chunk_seq 3 (B + 1) (B + 2) G q cb X cur (cur.size, cur.size + 1) (by rw [HLX.out]; exact hLq) (by omega) (by rw [HLX.out]; exact HLC.out) HCZ.out HCU.out W0 (by rw [← hLq]; exact hrA) hrN hrG
  have hBw : B ≤ w2.heap.size := by rw [hBB]; exact Nat.le_refl _
  have HLQ := Lib.hid hLq
  have HQQ := Lib.hid hq
  have HZ0 := Lib.hid hz0
  have HBB := Lib.hid hBB
  have hBle : B ≤ W0.heap.size := by omega
  clear hLq hq hz0 hz1 hBB
  refine rangeFunc_P rfl (by decide) (gf := 165) (lb := #[.pointer (some ⟨B + 1, 0, none⟩), .pointer (some ⟨B + 2, 0, none⟩)]) (by rw [← hfr]; rfl) trivial (enters_of Tryz.func165 (by kernel_rfl) rfl) hseq Kq.trans (fun U k ob ob' hl h hc => ⟨by simp, fun g cs T fr hg h1 h2 => (World.putObj_heap_other (fun e => by
    subst e
    rw [h] at hg
    obtain rfl := Option.some.inj hg
    cases hc)).trans hg⟩) (Below.refl _ _) (fun _ => rfl)
   (ShI S0 B w2) (shi_own S0 B w2 _ hBle hBw) ⟨⟨_, hrB, ⟨rfl, .inl ⟨rfl, rfl⟩⟩⟩, hb0, fun a ha => (by cases ha), Nat.zero_le _, ?szz⟩
   (ShX q S0 fr0) (fun pre x a' => ?own) ?assign ?body ?done
  case szz =>
   have h1 := HU2.out.size
   have h2 := HBB.out
   rw [← hS0]
   omega
  case own =>
   rintro _ U V row ⟨h1, h2⟩ hg hr
   exact ⟨chp_own h1 hg hr, h2⟩
  case assign =>
   rintro lp pre ⟨a1, C⟩ U K hi hp hK
   subst hfr
   gi_wp2
   exact hK _ _ ⟨Nat.le_refl _, fun _ _ _ h _ => h⟩ (Kq.refl _) hi ⟨hp, rfl⟩
  case body =>
   rintro lp pre ⟨a1, C⟩ a' W ⟨⟨v, hv, hrow⟩, hbl, hrows, hlen, hsz⟩ ⟨⟨hlt, hC16, GC, oC, curC, frC, hA1, hGC, hcurC⟩, rfl⟩
   dsimp only at hA1 hC16 hcurC
   subst hA1
   subst hfr
   obtain ⟨A0, c0, rfl⟩ := own_open hrow
   have hld : W.rangeAt GC oC (bvals C) := fun j u hj => by
    unfold bvals at hj
    rw [List.getElem?_map] at hj
    obtain ⟨z, hz, rfl⟩ := Option.map_eq_some_iff.1 hj
    rw [cell_of_row _ _ _ _ _ _ hGC]
    exact hcurC j z hz
   have hldC : (World.drew W).rangeAt GC oC (bvals C) := hld
   have hq5 : q ≤ 5000 := by have := HLQ.out; omega
   have HSZC := Lib.hid (sz_shortL C hC16)
   have HFL0 := fill_16 C hC16
   obtain ⟨N, hN⟩ : ∃ N, pre.length = N := ⟨_, rfl⟩
   rw [hN] at hlt hv hrow
   have HN := Lib.hid hN
   have HV := Lib.hid hv
   have HROW := Lib.hid hrow
   have HBL := Lib.hid hbl
   have HRWS := Lib.hid hrows
   have HSZ := Lib.hid hsz
   have HC16 := Lib.hid hC16
   have hcv := hv.cell
   have hBW : B < W.heap.size := hv.lt
   obtain ⟨i0, hi, hz0', hz1', hz2'⟩ := info_parts Tryz.info_short
   obtain ⟨tmpw, htw⟩ : ∃ tmpw, (W.alloc (.cells (bcells C) 41)).drew = tmpw := ⟨_, rfl⟩
   have hbt : Below W.heap.size W tmpw := by rw [← htw]; exact (below_new W _).drew
   have hnt : tmpw.heap[W.heap.size]? = some (.cells (bcells C) 41 (0, 0)) := by rw [← htw]; exact heap_alloc_new W _
   have hct : ∀ (j : Nat) (u : Value), (bvals C)[j]? = some u → tmpw.cell? ((⟨W.heap.size, 0, none⟩ : Addr).add j) = some u := fun j u hj => by
    rw [add_eq, Nat.zero_add, cell_of_row _ _ _ _ _ _ hnt]
    unfold bcells
    unfold bvals at hj
    simpa using hj
   obtain ⟨v', w4, hrun, hown4, hgrow4, _⟩ := run_append_own (P := Tryz.prog) tmpw B 28 28 41 i0 (.agg (bcells (List.replicate 16 0))) 16 16 Tryz.underlying28 hi hz0' hz1' hz2' rfl (by decide) _ N _ (own_onB hrow hbt) ⟨W.heap.size, 0, none⟩ 1 1 (bvals C) (by rw [bvals_len, hC16]) hct (fun u hu => by
     unfold bvals at hu
     obtain ⟨z, _, rfl⟩ := List.mem_map.1 hu
     rfl) (by unfold maxLen; omega) (by omega) (by have := hbt.size; omega)
   have hvt : Boxed tmpw B 28 (.slice A0 N c0) := row_on hv hbt
   have hB4 := hvt.kept hgrow4 (hvt.not_row ne_shorts (own_onB hrow hbt))
   obtain ⟨A4, c4, rfl⟩ := own_open hown4
   obtain ⟨u, hu⟩ : ∃ u, w4.setCell ⟨B, 0, none⟩ (.slice A4 (N + 1) c4) = u := ⟨_, rfl⟩
   have FIN : KeepsFrom W0.heap.size W u ∧ Kq W u ∧ ShI S0 B w2 (pre ++ [(some ⟨GC, oC, none⟩, C)]) u := by
    have e1 : ∀ (k : Nat) (ob : Obj), W.heap[k]? = some ob → (∀ cs fr, ob ≠ .cells cs 41 fr) → w4.heap[k]? = some ob := fun k ob hob hne => by
     have hlk := (Array.getElem?_eq_some_iff.1 hob).1
     refine ((hgrow4.block k (by have := hbt.size; omega) (fun e => ?_)).trans (hbt.block k hlk)).trans hob
     rcases hrow.2 with ⟨e2, _⟩ | ⟨gg, cc, cur2, e2, _, hgb, _⟩
     ·
      rw [e2] at e; cases e
     ·
      rw [e2] at e
      have e3 : k = gg := Option.some.inj e
      subst e3
      rw [hgb] at hob
      exact hne _ _ (Option.some.inj hob).symm
    have e2 : ∀ k, k ≠ B → u.heap[k]? = w4.heap[k]? := fun k hk => by rw [← hu]; exact Below.heap_setCell _ _ _ _ hk
    have hsu : w4.heap.size ≤ u.heap.size := by rw [← hu]; exact (KeepsOthers.setCell _ _ _).size
    have hs4 : W.heap.size ≤ u.heap.size := Nat.le_trans (Nat.le_trans hbt.size hgrow4.size) hsu
    have hbu : Below B W u := by
     have h5 : Below B W w4 := (hbt.mono (Nat.le_of_lt hBW)).grown hgrow4 (by have := hbt.size; omega) (fun j ej => by
      rcases hrow.2 with ⟨e5, _⟩ | ⟨gg, cc, cur2, e5, hge, _⟩
      ·
       rw [e5] at ej; cases ej
      ·
       rw [e5] at ej
       have e6 : gg = j := Option.some.inj ej
       omega)
     rw [← hu]
     exact h5.setCell (p := ⟨B, 0, none⟩) (Nat.le_refl _) _
    refine ⟨⟨hs4, fun k ob hk hob hc => ?_⟩, ⟨hs4, fun g cs T fr hg h1 h2 => ?_⟩, ⟨⟨.slice A4 (N + 1) c4, ?_, ?_⟩, hbl.trans hbu, fun a ha => ?_, by rw [List.length_append, hN]; show N + 1 ≤ 5000; omega, by omega⟩⟩
    ·
     exact (e2 k (by have := HZ0.out; omega)).trans (e1 k ob hob (fun cs fr e => by rw [e] at hc; cases hc))
    ·
     have h9 := e1 g _ hg (fun cs' fr' e => by injection e with e8 e9; exact h2 e9)
     exact (e2 g (typed_ne2 h9 hB4 h1)).trans h9
    ·
     rw [← hu]; exact Boxed.set _ hB4
    ·
     rw [← hu, List.length_append, hN, flat_snoc]
     exact hown4.kept (grownBy_setCell' _ _ _) (.inr (fun e => hB4.not_row ne_shorts hown4 e.symm))
    ·
     rcases List.mem_append.1 ha with ha | ha
     ·
      exact hrows a ha
     ·
      simp at ha
      subst ha
      exact hC16
   rw [← hu] at FIN
   have FINH := Lib.hid FIN
   have hcb4 := hB4.cell
   have hfb4 := hB4.frozen
   have hlb4 := hB4.lt
   rw [← htw] at hrun
   have HFL : Array.foldl (fun cs x => cs.setIfInBounds x.snd x.fst) #[.int .u8 0, .int .u8 0, .int .u8 0, .int .u8 0, .int .u8 0, .int .u8 0, .int .u8 0, .int .u8 0, .int .u8 0, .int .u8 0, .int .u8 0, .int .u8 0, .int .u8 0, .int .u8 0, .int .u8 0, .int .u8 0] (bcells C).zipIdx 0 16 = bcells C := HFL0
   have harr : ∀ w, (Instr.arrayAt 41 (.slice (some ⟨GC, oC, none⟩) 16 16)).run Tryz.prog w = .ok (.pointer (some ⟨GC, oC, none⟩)) w := fun w => run_arrayAt w _ _ 16 _ 16 16 Tryz.underlying41 (Nat.le_refl _)
   have hbs : (bcells C).size = 16 := by rw [bcells_size, hC16]
   simp only [List.setIfInBounds_toArray, List.set_cons_zero, List.set_cons_succ]
   clear FIN hu hnt hct htw hvt hown4 hgrow4 hB4 hrow hv hbl hrows hsz hN hld hC16 hGC hcurC hbt hi hz0' hz1' hz2' HFL0
   gi_wp2_with fail
   refine wpIn_region_any (by kernel_rfl) (any_inRound lp rfl (by kernel_rfl) _ _ _ _ ?_)
   rename_i Q9
   change wpAnyIn _ _ _ _ _ _ _ _ _ (World.drew W)
   have KEY : wpAnyIn Fence.wide (4 - 1 - 1) Tryz.prog .any #[{ dst := Option.some 31, op := Go.Op.load 28 (Go.Operand.tmp 10), type := 28, pos := "read.go:98", after := #[], guard := Option.none }, { dst := Option.some 32, op := Go.Op.move (Go.Operand.tmp 11), type := 34, pos := "read.go:98", after := #[], guard := Option.none }, { dst := Option.some 33, op := Go.Op.sliceToArrayPointer 41 (Go.Operand.tmp 32), type := 0, pos := "read.go:98", after := #[{ on := 1, ground := Go.Ground.data }], guard := Option.none }, { dst := Option.some 34, op := Go.Op.load 41 (Go.Operand.tmp 33), type := 41, pos := "read.go:98", after := #[{ on := 2, ground := Go.Ground.data }], guard := Option.none }, { dst := Option.some 35, op := Go.Op.buildSlice 28 1 #[(0, Go.Operand.tmp 34)], type := 28, pos := "read.go:98", after := #[{ on := 3, ground := Go.Ground.data }], guard := Option.none }, { dst := Option.some 36, op := Go.Op.call { callee := Go.Callee.builtin Go.Builtin.append, args := #[Go.Operand.tmp 31, Go.Operand.tmp 35], argTypes := #[28, 28] }, type := 28, pos := "read.go:98", after := #[{ on := 0, ground := Go.Ground.data }, { on := 4, ground := Go.Ground.data }], guard := Option.none }, { dst := Option.none, op := Go.Op.store 28 (Go.Operand.tmp 10) (Go.Operand.tmp 36), type := 0, pos := "read.go:98", after := #[{ on := 5, ground := Go.Ground.data }, { on := 5, ground := Go.Ground.chain }, { on := 0, ground := Go.Ground.phase }, { on := 1, ground := Go.Ground.phase }, { on := 2, ground := Go.Ground.phase }, { on := 3, ground := Go.Ground.phase }, { on := 4, ground := Go.Ground.phase }, { on := 5, ground := Go.Ground.phase }], guard := Option.none }] (Exit.inBlock 1 Q9) 2 #[true, true, true, true, true, false, false] { tmps := #[.pointer (some ⟨R, 0, none⟩), .agg #[.int .u8 tz, .slice A1 m1 c1, .slice B1 n1 d1], .int .u8 gz, .int .i64 M, undef, .pointer (some ⟨S0, 0, none⟩), undef, undef, .slice none 0 0, .slice (some ⟨G, 0, none⟩) L cb, .pointer (some ⟨B, 0, none⟩), .slice (some ⟨GC, oC, none⟩) 16 16, .pointer (some ⟨R, 0, none⟩), .agg #[.int .u8 tz, .slice A1 m1 c1, .slice B1 n1 d1], .int .u8 gz, .int .i64 M, .int .i64 M16, .string sX, .slice (some ⟨G, 0, none⟩) L cb, .slice (some ⟨G, 0, none⟩) L cb, .int .i64 (L : Int), .int .i64 ((L : Int) % 16), .bool false, undef, undef, undef, undef, undef, .slice (some ⟨G, 0, none⟩) L cb, .func (.func 165) #[] #[.pointer (some ⟨B + 1, 0, none⟩), .pointer (some ⟨B + 1 + 1, 0, none⟩)], .slice (some ⟨GC, oC, none⟩) 16 16, .slice A0 N c0, .slice (some ⟨GC, oC, none⟩) 16 16, .pointer (some ⟨GC, oC, none⟩), .agg (bcells C), .slice (some ⟨W.heap.size, 0, none⟩) 1 1, undef, undef], defers := [] } (World.drew (W.alloc (.cells (bcells C) 41))) := by
    refine wpAnyIn_ready (rs := [5]) (by kernel_rfl) (by simp) (AllReadyIn.cons (o := { dst := some 36, op := .call { callee := .builtin .append, args := #[.tmp 31, .tmp 35], argTypes := #[28, 28] }, type := 28, pos := "read.go:98", after := #[{ on := 0, ground := .data }, { on := 4, ground := .data }], guard := none }) rfl (fun K hK => ?_) AllReadyIn.nil)
    ·
     rw [if_pos (by rfl)]
     refine opIn_append (.tmp 31) (.tmp 35) 28 rfl _ _ hrun (hK _ _ ?_)
     clear hK K
     try simp only [Act.put, List.setIfInBounds_toArray, List.set_cons_zero, List.set_cons_succ]
     refine wpAnyIn_ready (rs := [6]) (by kernel_rfl) (by simp) (AllReadyIn.cons (o := { dst := none, op := .store 28 (.tmp 10) (.tmp 36), type := 0, pos := "read.go:98", after := #[{ on := 5, ground := .data }, { on := 5, ground := .chain }, { on := 0, ground := .phase }, { on := 1, ground := .phase }, { on := 2, ground := .phase }, { on := 3, ground := .phase }, { on := 4, ground := .phase }, { on := 5, ground := .phase }], guard := none }) rfl (fun K hK => ?_) AllReadyIn.nil)
     ·
      go_simp
      refine hK _ _ ?_
      clear hK K
      try simp only [Act.put, List.setIfInBounds_toArray, List.set_cons_zero, List.set_cons_succ]
      refine wpAnyIn_done (by kernel_rfl) ?_ _
      show KeepsFrom W0.heap.size W _ ∧ Kq W _ ∧ ShI S0 B w2 _ _
      exact FINH.out
   refine wpAnyIn_take (i := 1) (oi := { dst := some 32, op := .move (.tmp 11), type := 34, pos := "read.go:98", after := #[], guard := none }) (v := .slice (some ⟨GC, oC, none⟩) 16 16) rfl rfl (by kernel_rfl) (by kernel_rfl) (by kernel_rfl) (fun _ _ _ h => h) ⟨Or.inl ⟨by rfl, ?_⟩, fun _ => rfl⟩ ?_
   ·
    intro w9
    go_simp
   try simp only [Act.put, List.setIfInBounds_toArray, List.set_cons_zero, List.set_cons_succ]
   refine wpAnyIn_take (i := 2) (oi := { dst := some 33, op := .sliceToArrayPointer 41 (.tmp 32), type := 0, pos := "read.go:98", after := #[{ on := 1, ground := .data }], guard := none }) (v := .pointer (some ⟨GC, oC, none⟩)) rfl rfl (by kernel_rfl) (by kernel_rfl) (by kernel_rfl) (fun _ _ _ h => h) ⟨Or.inl ⟨by rfl, ?_⟩, fun _ => rfl⟩ ?_
   ·
    intro w9
    go_simp
   try simp only [Act.put, List.setIfInBounds_toArray, List.set_cons_zero, List.set_cons_succ]
   refine wpAnyIn_ready (rs := [0, 3]) (by kernel_rfl) (by simp) (AllReadyIn.cons (o := { dst := some 31, op := .load 28 (.tmp 10), type := 28, pos := "read.go:98", after := #[], guard := none }) rfl (fun K hK => ?_) (AllReadyIn.cons (o := { dst := some 34, op := .load 41 (.tmp 33), type := 41, pos := "read.go:98", after := #[{ on := 2, ground := .data }], guard := none }) rfl (fun K hK => ?_) AllReadyIn.nil))
   ·
    go_simp
    refine hK _ _ ?_
    clear hK K
    try simp only [Act.put, List.setIfInBounds_toArray, List.set_cons_zero, List.set_cons_succ]
    refine wpAnyIn_ready (rs := [3]) (by kernel_rfl) (by simp) (AllReadyIn.cons (o := { dst := some 34, op := .load 41 (.tmp 33), type := 41, pos := "read.go:98", after := #[{ on := 2, ground := .data }], guard := none }) rfl (fun K hK => ?_) AllReadyIn.nil)
    ·
     rw [if_pos (by rfl)]
     refine opIn_short 41 (.tmp 33) rfl GC oC rfl C _ hldC Tryz.underlying41 rfl HSZC.out (hK _ _ ?_)
     clear hK K
     try simp only [Act.put, List.setIfInBounds_toArray, List.set_cons_zero, List.set_cons_succ]
     refine wpAnyIn_ready (rs := [4]) (by kernel_rfl) (by simp) (AllReadyIn.cons (o := { dst := some 35, op := .buildSlice 28 1 #[(0, .tmp 34)], type := 28, pos := "read.go:98", after := #[{ on := 3, ground := .data }], guard := none }) rfl (fun K hK => ?_) AllReadyIn.nil)
     ·
      go_simp
      try rw [HFL]
      refine hK _ _ ?_
      clear hK K
      try simp only [Act.put, List.setIfInBounds_toArray, List.set_cons_zero, List.set_cons_succ]
      exact KEY
   ·
    rw [if_pos (by rfl)]
    refine opIn_short 41 (.tmp 33) rfl GC oC rfl C _ hldC Tryz.underlying41 rfl HSZC.out (hK _ _ ?_)
    clear hK K
    try simp only [Act.put, List.setIfInBounds_toArray, List.set_cons_zero, List.set_cons_succ]
    refine wpAnyIn_ready (rs := [0, 4]) (by kernel_rfl) (by simp) (AllReadyIn.cons (o := { dst := some 31, op := .load 28 (.tmp 10), type := 28, pos := "read.go:98", after := #[], guard := none }) rfl (fun K hK => ?_) (AllReadyIn.cons (o := { dst := some 35, op := .buildSlice 28 1 #[(0, .tmp 34)], type := 28, pos := "read.go:98", after := #[{ on := 3, ground := .data }], guard := none }) rfl (fun K hK => ?_) AllReadyIn.nil))
    ·
     go_simp
     refine hK _ _ ?_
     clear hK K
     try simp only [Act.put, List.setIfInBounds_toArray, List.set_cons_zero, List.set_cons_succ]
     refine wpAnyIn_ready (rs := [4]) (by kernel_rfl) (by simp) (AllReadyIn.cons (o := { dst := some 35, op := .buildSlice 28 1 #[(0, .tmp 34)], type := 28, pos := "read.go:98", after := #[{ on := 3, ground := .data }], guard := none }) rfl (fun K hK => ?_) AllReadyIn.nil)
     ·
      go_simp
      try rw [HFL]
      refine hK _ _ ?_
      clear hK K
      try simp only [Act.put, List.setIfInBounds_toArray, List.set_cons_zero, List.set_cons_succ]
      exact KEY
    ·
     go_simp
     try rw [HFL]
     refine hK _ _ ?_
     clear hK K
     try simp only [Act.put, List.setIfInBounds_toArray, List.set_cons_zero, List.set_cons_succ]
     refine wpAnyIn_ready (rs := [0]) (by kernel_rfl) (by simp) (AllReadyIn.cons (o := { dst := some 31, op := .load 28 (.tmp 10), type := 28, pos := "read.go:98", after := #[], guard := none }) rfl (fun K hK => ?_) AllReadyIn.nil)
     ·
      go_simp
      refine hK _ _ ?_
      clear hK K
      try simp only [Act.put, List.setIfInBounds_toArray, List.set_cons_zero, List.set_cons_succ]
      exact KEY
  case done =>
   rintro D xs U hD hxs ⟨⟨v, hv, hrow⟩, hbl, hrows, _, hsz⟩ hK
   have hls : (xs.map (·.2)).length = xs.length := List.length_map _
   rw [← hls] at hrow
   have hrow2 := hrow
   obtain ⟨A', c', rfl, hAc, hAn, hsh⟩ := shorts_own (fun x hx => by obtain ⟨a, ha, rfl⟩ := List.mem_map.1 hx; exact hrows a ha) hrow
   have hlow := own_ref hrow2 rfl
   rw [hxs] at hsh hv
   have hcv := hv.cell
   have HSHS := Lib.hid hsh
   have HLOW := Lib.hid (fun g o e => (hlow g o e).1)
   have HBL := Lib.hid hbl
   have HK := Lib.hid hK
   have hlD : D < U.heap.size := (Array.getElem?_eq_some_iff.1 hK).1
   have HD := Lib.hid hD
   subst hfr
   clear hrow hrow2 hAc hAn hsh hlow hbl hK hv hls hxs hrows hD
   gi_wp2_with fail
   refine ⟨by simp, .inl ⟨_, _, rfl, run_takeDeferred HK.out, ?_⟩⟩
   have hg := grownBy_putObj' U D (.deferred none)
   have hr : ∀ r, some D = some r → B ≤ r ∧ ∃ o : Obj, U.heap[r]? = some o ∧ o.isCells = false := fun r e => by
    obtain rfl := Option.some.inj e
    exact ⟨by have := HD.out; have := HZ0.out; omega, _, HK.out, rfl⟩
   have hbu : Below w2.heap.size w2 (U.putObj D (.deferred none)) := by
    have h := HBL.out.grown hg (by have := HBL.out.size; have := HBB.out; omega) (fun k e => (hr k e).1)
    rw [HBB.out]
    exact h
   have hsr := HSH.out
   rw [if_pos HMOD.out] at hsr
   have hch : chO X = sr.1 := by rw [hsr]
   rw [hch] at HSHS
   have hE2 : sr.2 = E := by rw [hsr]
   refine ⟨_, results_tmp rfl _ _ _, A', c', by rw [hch]; rfl, ?_, fun g o e => ?_, ?_, HU2.out.trans (Bu.below hbu)⟩
   ·
    refine ⟨fun i l hi => ?_, HSHS.out.len⟩
    obtain ⟨g, o, e, hr2⟩ := HSHS.out.row i l hi
    exact ⟨g, o, e, fun j u hj => cell_kept (hr2 j u hj) hg (fun r e => (hr r e).2)⟩
   ·
    have h1 := HLOW.out g o e
    have h2 := HS2.out.lo.2.2.2
    have h3 := HBB.out
    omega
   ·
    rw [hE2]
    exact HS2.out.on hbu
 ·
  have hm1 : ((L : Int) % 16 != 0) = true := by
   have : (L : Int) % 16 ≠ 0 := by omega
   simp [this]
  have HMOD := Lib.hid hmod
  clear hmod
  obtain ⟨k0, k1, _, _, _, _, _, _, _, _, k8⟩ := HS2.out.facts
  gi_wp2_with fail
  refine ⟨trivial, (callsIn_wide.2 (keep_any F _ 12 w2 HS2.out.err)).mono ?_⟩
  rintro e w3 ⟨rfl, herr, hg⟩
  have HS3 := Lib.hid (HS2.out.keep hg herr)
  have HU3 := Lib.hid (HU2.out.trans (Bu.grown hg))
  clear k0 k1 k8 herr hg hr
  gi_wp2_with fail
  have hsr := HSH.out
  rw [if_neg HMOD.out] at hsr
  refine ⟨_, results_tmp rfl _ _ _, none, 0, ?_, ?_, (fun g o e => by cases e), ?_, HU3.out⟩
  ·
   rw [hsr]; rfl
  ·
   rw [hsr]; exact ⟨fun i l hi => by simp at hi, fun l hl => by simp at hl⟩
  ·
   rw [hsr, ← kp_assoc]; exact HS3.out
end Sg
end Go.Proofs.YtcgffkkfeimifaaGreatDoor
namespace Go.Proofs.YtcgffkkfeimifaaGreatDoor
namespace Sg
open Go.RowKit Sha Oc
set_option linter.unusedVariables false
set_option linter.unusedSimpArgs false
theorem shR_len (v : Oct) (tg : UInt8) (M : Int) (hM : 0 ≤ M ∧ M ≤ 100) : (shR v tg M).1.length ≤ 100 := by
 have h0 : ((rS v tg (M * 16)).1.length : Int) ≤ 1600 := by
  unfold rS rdS
  by_cases h : tagO v = tg ∧ (kids v).length = 0 ∧ ((bytO v).length : Int) ≤ M * 16
  ·
   rw [if_pos h]
   have := h.2.2
   show ((bytO v).length : Int) ≤ 1600
   omega
  ·
   rw [if_neg h]
   decide
 unfold shR
 by_cases h : (rS v tg (M * 16)).1.length % 16 = 0
 ·
  rw [if_pos h]
  show (chO (rS v tg (M * 16)).1).length ≤ 100
  unfold chO
  rw [chs_len]
  omega
 ·
  rw [if_neg h]
  exact Nat.zero_le _
set_option maxRecDepth 100000 in
set_option maxHeartbeats 2000000 in
theorem chains_rd {R F lo : Nat} {l : Rl} {m : Mp} {e0 : Int} {W : World} (hS : Rs R F lo l m e0 W) (v : Oct) (x y : Value) (hat : At (fun g => g ≠ R ∧ g ≠ F) W v x y) :
  Calls Tryz.prog 142 #[.pointer (some ⟨R, 0, none⟩), .agg (cell3 v x y)] W (MPost R F lo { l with sg := { l.sg with cs := (shR v 2 35).1 } } (kp e0 (shR v 2 35).2) W) := by
 have HS0 := Lib.hid hS
 have hcl : ∀ V : World, Below W.heap.size W V → Calls Tryz.prog 150 #[.pointer (some ⟨R, 0, none⟩), .agg (cell3 v x y), .int .u8 2, .int .i64 35] V (ShPost R F lo l m (shR v 2 35) e0 V) := fun V hb => shorts_rd (hS.on hb) v 2 35 560 (by decide) (by decide) x y (Bu.at hat (Bu.below hb))
 have hln := shR_len v 2 35 (by decide)
 obtain ⟨A1, m1, c1, B1, n1, d1, rfl, rfl⟩ := hat.slices
 obtain ⟨sr, hsr⟩ : ∃ sr, shR v 2 35 = sr := ⟨_, rfl⟩
 obtain ⟨tz, htz⟩ : ∃ tz : Int, ((tagO v).toNat : Int) = tz := ⟨_, rfl⟩
 unfold cell3 at hcl ⊢
 rw [hsr, htz] at hcl
 rw [hsr] at hln
 rw [hsr, htz]
 have HLN := Lib.hid hln
 have HCL := Lib.hid hcl
 have HROW := Lib.hid (heap_alloc_new W (.cells #[.int .u8 tz, .slice A1 m1 c1, .slice B1 n1 d1] 68))
 have HB0 := Lib.hid (below_new W (.cells #[.int .u8 tz, .slice A1 m1 c1, .slice B1 n1 d1] 68))
 clear hcl hsr hln htz hat hS
 go_enter Tryz.func142, Tryz.ntmps142
 go_upto_region 1 with (fail)
 generalize hV : World.alloc W _ = V at HROW HB0 ⊢
 clear hV
 have hlt := (Array.getElem?_eq_some_iff.1 HROW.out).1
 obtain ⟨_, hc0, hc1, hc2⟩ := facts3 HROW.out
 have hrg := range3o hc0 hc1 hc2
 go_wp2_with fail
 refine (HCL.out V HB0.out).mono ?_
 rintro e w1 ⟨A', c', rfl, hsh, hlow, hs1, hu1⟩
 have HSH := Lib.hid hsh
 have HLOW := Lib.hid hlow
 have HS1 := Lib.hid hs1
 have HU1 := Lib.hid ((Bu.below (a := R) (b := F) HB0.out).trans hu1)
 clear hlt hc0 hc1 hc2 hrg hs1 hu1 hsh hlow HROW HB0 HCL
 obtain ⟨k0, kf, q0, q1, q2, q3, q4, q5, q6, q7, q8⟩ := HS1.out.facts
 have kf0 := kf 6
 clear kf
 go_wp2_with fail
 go_end0
 have hst := Bu.set (a := R) (b := F) w1 6 (.slice A' sr.1.length c')
 have hl := HS1.out.lo
 refine ⟨rfl, ⟨{ m with CA := A', cc := c' }, ⟨(heap_setCell_same _ _ _ _ _ _ HS1.out.row).trans rfl, (Below.heap_setCell _ _ _ _ (Ne.symm hl.2.2.1)).trans HS1.out.err, own_bu HS1.out.ser hst hl.1 hl.2.1, shs_bu ⟨HSH.out, HLOW.out⟩ hst hl.1 hl.2.1, shs_bu HS1.out.ps hst hl.1 hl.2.1, ⟨hl.1, hl.2.1, hl.2.2.1, Nat.le_trans hl.2.2.2 hst.size⟩, ?_⟩⟩, HU1.out.trans hst⟩
 have h5 := HS1.out.len
 have h6 := HLN.out
 exact ⟨h5.1, by show sr.1.length ≤ 5000; omega, h5.2.2⟩
set_option maxRecDepth 100000 in
set_option maxHeartbeats 2000000 in
theorem path_rd {R F lo : Nat} {l : Rl} {m : Mp} {e0 : Int} {W : World} (hS : Rs R F lo l m e0 W) (v : Oct) (x y : Value) (hat : At (fun g => g ≠ R ∧ g ≠ F) W v x y) :
  Calls Tryz.prog 143 #[.pointer (some ⟨R, 0, none⟩), .agg (cell3 v x y)] W (MPost R F lo { l with sg := { l.sg with ps := (shR v 3 4).1 } } (kp e0 (shR v 3 4).2) W) := by
 have HS0 := Lib.hid hS
 have hcl : ∀ V : World, Below W.heap.size W V → Calls Tryz.prog 150 #[.pointer (some ⟨R, 0, none⟩), .agg (cell3 v x y), .int .u8 3, .int .i64 4] V (ShPost R F lo l m (shR v 3 4) e0 V) := fun V hb => shorts_rd (hS.on hb) v 3 4 64 (by decide) (by decide) x y (Bu.at hat (Bu.below hb))
 have hln := shR_len v 3 4 (by decide)
 obtain ⟨A1, m1, c1, B1, n1, d1, rfl, rfl⟩ := hat.slices
 obtain ⟨sr, hsr⟩ : ∃ sr, shR v 3 4 = sr := ⟨_, rfl⟩
 obtain ⟨tz, htz⟩ : ∃ tz : Int, ((tagO v).toNat : Int) = tz := ⟨_, rfl⟩
 unfold cell3 at hcl ⊢
 rw [hsr, htz] at hcl
 rw [hsr] at hln
 rw [hsr, htz]
 have HLN := Lib.hid hln
 have HCL := Lib.hid hcl
 have HROW := Lib.hid (heap_alloc_new W (.cells #[.int .u8 tz, .slice A1 m1 c1, .slice B1 n1 d1] 68))
 have HB0 := Lib.hid (below_new W (.cells #[.int .u8 tz, .slice A1 m1 c1, .slice B1 n1 d1] 68))
 clear hcl hsr hln htz hat hS
 go_enter Tryz.func143, Tryz.ntmps143
 go_upto_region 1 with (fail)
 generalize hV : World.alloc W _ = V at HROW HB0 ⊢
 clear hV
 have hlt := (Array.getElem?_eq_some_iff.1 HROW.out).1
 obtain ⟨_, hc0, hc1, hc2⟩ := facts3 HROW.out
 have hrg := range3o hc0 hc1 hc2
 go_wp2_with fail
 refine (HCL.out V HB0.out).mono ?_
 rintro e w1 ⟨A', c', rfl, hsh, hlow, hs1, hu1⟩
 have HSH := Lib.hid hsh
 have HLOW := Lib.hid hlow
 have HS1 := Lib.hid hs1
 have HU1 := Lib.hid ((Bu.below (a := R) (b := F) HB0.out).trans hu1)
 clear hlt hc0 hc1 hc2 hrg hs1 hu1 hsh hlow HROW HB0 HCL
 obtain ⟨k0, kf, q0, q1, q2, q3, q4, q5, q6, q7, q8⟩ := HS1.out.facts
 have kf0 := kf 7
 clear kf
 go_wp2_with fail
 go_end0
 have hst := Bu.set (a := R) (b := F) w1 7 (.slice A' sr.1.length c')
 have hl := HS1.out.lo
 refine ⟨rfl, ⟨{ m with PA := A', pc := c' }, ⟨(heap_setCell_same _ _ _ _ _ _ HS1.out.row).trans rfl, (Below.heap_setCell _ _ _ _ (Ne.symm hl.2.2.1)).trans HS1.out.err, own_bu HS1.out.ser hst hl.1 hl.2.1, shs_bu HS1.out.cs hst hl.1 hl.2.1, shs_bu ⟨HSH.out, HLOW.out⟩ hst hl.1 hl.2.1, ⟨hl.1, hl.2.1, hl.2.2.1, Nat.le_trans hl.2.2.2 hst.size⟩, ?_⟩⟩, HU1.out.trans hst⟩
 have h5 := HS1.out.len
 have h6 := HLN.out
 exact ⟨h5.1, h5.2.1, by show sr.1.length ≤ 5000; omega⟩
end Sg
end Go.Proofs.YtcgffkkfeimifaaGreatDoor
namespace Go.Proofs.YtcgffkkfeimifaaGreatDoor
namespace Sg
open Go.RowKit Sha Oc
set_option linter.unusedVariables false
set_option linter.unusedSimpArgs false
def FdPost (R F : Nat) (J : World → Prop) (W : World) (e : Ending) (W' : World) : Prop := e = .returned (.tuple #[]) ∧ J W' ∧ Bu R F W W'
set_option maxRecDepth 100000 in
set_option maxHeartbeats 8000000 in
theorem fields_rd {R F lo : Nat} {l : Rl} {m : Mp} {e0 : Int} {W : World} (hS : Rs R F lo l m e0 W) (v : Oct) (hcn : cnt v ≤ 5000) (htt : tot v ≤ 100000) (x y : Value) (hat : At (fun g => g ≠ R ∧ g ≠ F) W v x y) (tg : UInt8) (P n : Nat) (hn : n ≤ 100) (fs : List Nat) (hfs : fs.length = n) (hP : P ≠ R ∧ P ≠ F)
  (hpc : ∀ (k f : Nat), fs[k]? = some f → W.cell? ⟨P, k, none⟩ = some (.func (.func f) #[.pointer (some ⟨R, 0, none⟩)] #[]))
  (eg : ∀ (k f : Nat), fs[k]? = some f → ∀ args w, (callFunc f args).run Tryz.prog w = .ok (.enter f args) w)
  (J : Nat → World → Prop) (hJon : ∀ k z z', J k z → Below z.heap.size z z' → J k z') (hJ0 : ∀ V, Rs R F lo l m e0 V → J 0 V)
  (hstep : ∀ (k f : Nat) (o : Oct), fs[k]? = some f → (kids v)[k]? = some o → ∀ (z : World) (x y : Value), J k z → At (fun g => g ≠ R ∧ g ≠ F) z o x y → Calls Tryz.prog f #[.pointer (some ⟨R, 0, none⟩), .agg (cell3 o x y)] z (FdPost R F (J (k + 1)) z)) :
  Calls Tryz.prog 113 #[.pointer (some ⟨R, 0, none⟩), .agg (cell3 v x y), .int .u8 (tg.toNat : Int), .slice (some ⟨P, 0, none⟩) n n] W (FdPost R F (fun W' => if rdQ (tagO v) tg (bytO v).length (kids v).length (n : Int) (n : Int) = true then J n W' else Rs R F lo l m (kp e0 12) W') W) := by
 have HS0 := Lib.hid hS
 have hrq : ∀ V : World, Below W.heap.size W V → Calls Tryz.prog 135 #[.agg (cell3 v x y), .int .u8 (tg.toNat : Int), .int .i64 (n : Int), .int .i64 (n : Int)] V (RsPost (rdQ (tagO v) tg (bytO v).length (kids v).length (n : Int) (n : Int)) (kids v) V) := fun V hb => by
  obtain ⟨t, b, ls⟩ := v
  exact readseq_any t b ls tg n n hcn htt V x y (hat.any.on hb)
 have hqs : rdQ (tagO v) tg (bytO v).length (kids v).length (n : Int) (n : Int) = true → (kids v).length = n := fun h => by
  have := seq_of (v := v) (tg := tg) (lo := n) (hi := n) h
  omega
 obtain ⟨A1, m1, c1, B1, n1, d1, rfl, rfl⟩ := hat.slices
 obtain ⟨yes, hyes⟩ : ∃ b, rdQ (tagO v) tg (bytO v).length (kids v).length (n : Int) (n : Int) = b := ⟨_, rfl⟩
 obtain ⟨kl, hkl⟩ : ∃ kl, kids v = kl := ⟨_, rfl⟩
 obtain ⟨tz0, htz0⟩ : ∃ tz : Int, ((tagO v).toNat : Int) = tz := ⟨_, rfl⟩
 obtain ⟨gz, hgz⟩ : ∃ gz : Int, (tg.toNat : Int) = gz := ⟨_, rfl⟩
 unfold cell3 at hrq ⊢
 rw [hyes] at hrq hqs ⊢
 rw [hkl] at hrq hqs hstep
 rw [htz0, hgz] at hrq
 rw [htz0, hgz]
 have HRQ := Lib.hid hrq
 have HQS := Lib.hid hqs
 have HST := Lib.hid hstep
 have HEG := Lib.hid eg
 have HJ0 := Lib.hid hJ0
 have HJON := Lib.hid hJon
 have HFS := Lib.hid hfs
 have hpw : ∀ (k f : Nat), fs[k]? = some f → ∀ (z : World), Bu R F W z → z.cell? ⟨P, k, none⟩ = some (.func (.func f) #[.pointer (some ⟨R, 0, none⟩)] #[]) := fun k f hk z hb => cell_same (hb.oth P (World.block_lt_of_cell? _ _ (hpc k f hk)) hP.1 hP.2) (hpc k f hk)
 have HPW := Lib.hid hpw
 have HROW := Lib.hid (heap_alloc_new W (.cells #[.int .u8 tz0, .slice A1 m1 c1, .slice B1 n1 d1] 68))
 have HB0 := Lib.hid (below_new W (.cells #[.int .u8 tz0, .slice A1 m1 c1, .slice B1 n1 d1] 68))
 clear hrq hqs hstep eg hJ0 hJon hfs hpw hpc hyes hkl htz0 hgz hat hS hcn htt hP
 go_enter Tryz.func113, Tryz.ntmps113
 go_upto_region 1 with (fail)
 generalize hV : World.alloc W _ = V at HROW HB0 ⊢
 clear hV
 have hlt := (Array.getElem?_eq_some_iff.1 HROW.out).1
 obtain ⟨_, hc0, hc1, hc2⟩ := facts3 HROW.out
 have hrg := range3o hc0 hc1 hc2
 go_wp2_with fail
 refine (HRQ.out V HB0.out).mono ?_
 rintro e w1 ⟨vl, rfl, hatl, hb1⟩
 have HB1 := Lib.hid (chain HB0.out hb1)
 have HS1 := Lib.hid (HS0.out.on HB1.out)
 obtain ⟨kk, hkk⟩ : ∃ kk, (if yes = true then kl else []) = kk := ⟨_, rfl⟩
 obtain ⟨E1, hE1⟩ : ∃ E1 : Int, (if yes = true then (0 : Int) else 12) = E1 := ⟨_, rfl⟩
 rw [hkk] at hatl
 rw [hE1]
 have hat1 : At (fun g => g ≠ R ∧ g ≠ F) w1 (.mk 0 [] kk) (.slice none 0 0) vl := hatl.to fun g p u hu hR => ⟨hu, by
  have h1 := hR.1
  have h2 := HB0.out.size
  have h3 := HS0.out.lo
  omega⟩
 clear hlt hc0 hc1 hc2 hrg hb1 HROW HB0 HRQ hatl
 have HAT1 := Lib.hid hat1
 have HKK := Lib.hid hkk
 have HE1 := Lib.hid hE1
 obtain ⟨_, _, Bl, dl, gl, ol, vb, vc, _, rfl, _, _, _, _, _, hdl, hdn, _⟩ := hat1.elsR
 clear hat1 hkk hE1 hdl hdn
 obtain ⟨k0, k1, _, _, _, _, _, _, _, _, k8⟩ := HS1.out.facts
 go_wp2_with fail
 refine (keep_any F e0 E1 w1 HS1.out.err).mono ?_
 rintro e w2 ⟨rfl, herr, hg⟩
 have HS2 := Lib.hid (HS1.out.keep hg herr)
 have HU2 := Lib.hid ((Bu.below (a := R) (b := F) HB1.out).trans (Bu.grown hg))
 have HEL := Lib.hid (Bu.at HAT1.out (Bu.grown hg)).elsR
 clear k0 k1 k8 herr hg HAT1 HS1
 go_wp2_with fail
 cases yes with
 | false =>
  have hk0 := HKK.out
  rw [if_neg (by decide)] at hk0
  subst hk0
  have he1 := HE1.out
  rw [if_neg (by decide)] at he1
  subst he1
  go_loopw [30] (fun ix wr => ix = .int .i64 0 ∧ RowKit.Hid (wr = w2)) (fun _ _ => 0)
  case atStart => exact ⟨rfl, Lib.hid rfl⟩
  case round =>
   obtain ⟨rfl, HW⟩ := hrel
   have hge : ¬ (0 : Int) < (([] : List Oct).length : Int) := by decide
   go_wp2_with fail
   go_end0
   rw [HW.out]
   exact ⟨rfl, HS2.out, HU2.out⟩
 | true =>
  have hk0 := HKK.out
  rw [if_pos rfl] at hk0
  subst hk0
  have he1 := HE1.out
  rw [if_pos rfl] at he1
  subst he1
  have hke : kp e0 0 = e0 := by unfold kp; split <;> (try omega) <;> rfl
  rw [hke] at HS2
  have HJS := Lib.hid (HJ0.out w2 HS2.out)
  have hq := HQS.out rfl
  rw [hq]
  have HQ := Lib.hid hq
  obtain ⟨_, _, B', d', g, off, vb, vc, _, e2, _, _, _, _, _, _, _, hels⟩ := HEL.out
  injection e2 with e3 e4 e5
  subst e3 e5
  have HELS := Lib.hid hels
  have HBU0 := Lib.hid (Bu.refl R F w2)
  have HRL := Lib.hid (show R < lo ∧ F < lo ∧ lo ≤ w2.heap.size from ⟨HS2.out.lo.1, HS2.out.lo.2.1, HS2.out.lo.2.2.2⟩)
  clear hels HEL e4 hq hke HS2
  go_loopw [10, 11, 30] (fun _ _ ix wr => ∃ k : Nat, k ≤ n ∧ ix = .int .i64 (k : Int) ∧ RowKit.Hid (J k wr) ∧ RowKit.Hid (Bu R F w2 wr)) (fun _ _ ix _ => n - (intOf ix).toNat)
  case atStart => exact ⟨0, Nat.zero_le _, rfl, HJS, HBU0⟩
  case round =>
   clear HJS HBU0
   obtain ⟨k, hk, rfl, HJW, BU_w⟩ := hrel
   by_cases hlt : k < n
   ·
    have hki : (k : Int) < (n : Int) := by omega
    obtain ⟨o, ho⟩ : ∃ o, kl[k]? = some o := ⟨_, List.getElem?_eq_getElem (by rw [HQ.out]; exact hlt)⟩
    obtain ⟨f, hf⟩ : ∃ f, fs[k]? = some f := ⟨_, List.getElem?_eq_getElem (by rw [HFS.out]; exact hlt)⟩
    have hew := elsR_bu HELS.out BU_w.out
    have hBB := (hew.hB (fun e => by rw [e] at ho; simp at ho)).1
    subst hBB
    have hc0 := hew.h0 k o ho
    have hc1 := hew.h1 k o ho
    have hc2 := hew.h2 k o ho
    have hat := HELS.out.hr k o ho
    obtain ⟨A2, m2, c2, B2, n2, d2, e1, e2⟩ := hat.slices
    rw [e1] at hc1 hat
    rw [e2] at hc2 hat
    have hstp := fun (z : World) (hj : J k z) (ha : At (fun g => g ≠ R ∧ g ≠ F) z o (.slice A2 m2 c2) (.slice B2 n2 d2)) => HST.out k f o hf ho z _ _ hj ha
    obtain ⟨tz, htz⟩ : ∃ tz : Int, ((tagO o).toNat : Int) = tz := ⟨_, rfl⟩
    unfold cell3 at hstp
    rw [htz] at hstp hc0
    have STEP : RowKit.Hid (∀ (z : World) (hj : J k z) (ha : At (fun g => g ≠ R ∧ g ≠ F) z o (.slice A2 m2 c2) (.slice B2 n2 d2)), Calls Tryz.prog f #[.pointer (some ⟨R, 0, none⟩), .agg #[.int .u8 tz, .slice A2 m2 c2, .slice B2 n2 d2]] z (FdPost R F (J (k + 1)) z)) := Lib.hid hstp
    have hAO := Lib.hid (fun (z : World) (h : Bu R F w2 z) => Bu.at hat h)
    have PC := Lib.hid (fun (z : World) (hb : Bu R F w2 z) => HPW.out k f hf z (HU2.out.trans hb))
    have hegf := HEG.out k f hf
    clear hew ho hf e1 e2 htz hstp hat
    go_upto_region 6 with (fail)
    obtain ⟨BX, hBX⟩ : ∃ BX, wr.heap.size = BX := ⟨_, rfl⟩
    have hrX := heap_alloc_new wr (.cells #[.int .u8 tz, .slice A2 m2 c2, .slice B2 n2 d2] 68)
    have hbX := below_new wr (.cells #[.int .u8 tz, .slice A2 m2 c2, .slice B2 n2 d2] 68)
    generalize hV : World.alloc wr _ = V at hrX hbX ⊢
    clear hV
    rw [hBX] at hrX ⊢
    have HXR : RowKit.Hid (BX ≠ R ∧ BX ≠ F) := Lib.hid (by have h1 := HRL.out; have h2 := BU_w.out.size; omega)
    have HJV := Lib.hid (HJON.out k wr V HJW.out hbX)
    clear hc0 hc1 hc2 hBX HJW
    have BU_V := Lib.hid (BU_w.out.trans (Bu.below hbX))
    refine wp_region_held_drew (S := fun z => z.cell? ⟨P, k, none⟩ = some (.func (.func f) #[.pointer (some ⟨R, 0, none⟩)] #[]) ∧ z.rangeAt BX 0 [Value.int .u8 tz, .slice A2 m2 c2, .slice B2 n2 d2]) (by kernel_rfl) ⟨PC.out V BU_V.out, row_range (cs := [Value.int .u8 tz, .slice A2 m2 c2, .slice B2 n2 d2]) hrX⟩ (fun hHeld => ?_)
    generalize hU : World.drew V = U at hHeld ⊢
    have hbU : Below V.heap.size V U := by rw [← hU]; exact (Below.refl _ _).drew
    clear hU
    have HJU := Lib.hid (HJON.out k V U HJV.out hbU)
    have BU_U := Lib.hid (BU_V.out.trans (Bu.below hbU))
    have RX_U := Lib.hid (row_on hrX hbU)
    clear hrX hbX hbU BU_w
    refine wpAnyH_take (i := 0) (oi := { dst := some 35, op := .move (.tmp 3), type := 162, pos := "read.go:37", after := #[], guard := none }) (v := ?_) rfl (by kernel_rfl) (by kernel_rfl) (by kernel_rfl) (fun _ _ _ h => h) (Or.inl ⟨by rfl, ?_⟩) hHeld ?_
    rotate_left
    ·
     intro w hSw
     clear hSw
     go_simp
     try with_reducible rfl
    try simp only [Act.put, List.setIfInBounds_toArray, List.set_cons_zero, List.set_cons_succ]
    refine wpAnyH_take (i := 1) (oi := { dst := some 36, op := .move (.tmp 10), type := 3, pos := "read.go:37", after := #[], guard := none }) (v := ?_) rfl (by kernel_rfl) (by kernel_rfl) (by kernel_rfl) (fun _ _ _ h => h) (Or.inl ⟨by rfl, ?_⟩) hHeld ?_
    rotate_left
    ·
     intro w hSw
     clear hSw
     go_simp
     try with_reducible rfl
    try simp only [Act.put, List.setIfInBounds_toArray, List.set_cons_zero, List.set_cons_succ]
    refine wpAnyH_take (i := 2) (oi := { dst := some 37, op := .indexAddr 162 (.tmp 35) (.tmp 36), type := 0, pos := "read.go:37", after := #[{ on := 0, ground := .data }, { on := 1, ground := .data }], guard := none }) (v := ?_) rfl (by kernel_rfl) (by kernel_rfl) (by kernel_rfl) (fun _ _ _ h => h) (Or.inl ⟨by rfl, ?_⟩) hHeld ?_
    rotate_left
    ·
     intro w hSw
     clear hSw
     go_simp
     try with_reducible rfl
    try simp only [Act.put, List.setIfInBounds_toArray, List.set_cons_zero, List.set_cons_succ]
    refine wpAnyH_take (i := 3) (oi := { dst := some 38, op := .load 123 (.tmp 37), type := 123, pos := "read.go:37", after := #[{ on := 2, ground := .data }], guard := none }) (v := ?_) rfl (by kernel_rfl) (by kernel_rfl) (by kernel_rfl) (fun _ _ _ h => h) (Or.inl ⟨by rfl, ?_⟩) hHeld ?_
    rotate_left
    ·
     intro w hSw
     have hfc0 := hSw.1
     clear hSw
     go_simp
     try with_reducible rfl
    try simp only [Act.put, List.setIfInBounds_toArray, List.set_cons_zero, List.set_cons_succ]
    refine wpAnyH_take (i := 4) (oi := { dst := some 39, op := .load 68 (.tmp 11), type := 68, pos := "read.go:37", after := #[], guard := none }) (v := .agg ([Value.int .u8 tz, .slice A2 m2 c2, .slice B2 n2 d2]).toArray) rfl (by kernel_rfl) (by kernel_rfl) (by kernel_rfl) (fun _ _ _ h => h) (yieldsIf_load_mid (by rfl) _ _ rfl _ _ rfl [Value.int .u8 tz, .slice A2 m2 c2, .slice B2 n2 d2] _ (fun w hSw => hSw.2) Tryz.underlying68 rfl (sz3o _ _ _)) hHeld ?_
    try simp only [Act.put, List.setIfInBounds_toArray, List.set_cons_zero, List.set_cons_succ]
    refine wpAnyH_ready (rs := [5]) (by kernel_rfl) (by simp) (AllReadyH.cons (o := { dst := some 40, op := .call { callee := .value (.tmp 38), args := #[.tmp 39], argTypes := #[68] }, type := 0, pos := "read.go:37", after := #[{ on := 3, ground := .data }, { on := 4, ground := .data }], guard := none }) rfl (fun K hK => ?_) AllReadyH.nil)
    go_simp
    refine (STEP.out U HJU.out (hAO.out U BU_U.out)).mono ?_
    rintro e z5 ⟨rfl, hj, hb⟩
    have HJ5 := Lib.hid hj
    have BU_5 := Lib.hid (BU_U.out.trans hb)
    have RX_5 := Lib.hid ((hb.oth BX (Array.getElem?_eq_some_iff.1 RX_U.out).1 HXR.out.1 HXR.out.2).trans RX_U.out)
    clear hj hb
    go_simp
    refine hK.out _ _ ⟨PC.out z5 BU_5.out, row_range (cs := [Value.int .u8 tz, .slice A2 m2 c2, .slice B2 n2 d2]) RX_5.out⟩ (fun hHeld2 => ?_)
    clear hK K hHeld
    clear hHeld2
    try simp only [Act.put, List.setIfInBounds_toArray, List.set_cons_zero, List.set_cons_succ]
    refine wpAnyH_done (by kernel_rfl) ?_ _
    go_wp2_with fail
    exact ⟨⟨k + 1, by omega, by go_num, HJ5, BU_5⟩, by simp [intOf]; omega⟩
   ·
    have hkk : k = n := by omega
    have HKQ := Lib.hid hkk
    have hge : ¬ (k : Int) < (n : Int) := by omega
    clear hkk
    go_wp2_with fail
    go_end0
    exact ⟨rfl, by show J n wr; rw [← HKQ.out]; exact HJW.out, HU2.out.trans BU_w.out⟩
end Sg
end Go.Proofs.YtcgffkkfeimifaaGreatDoor
namespace Go.Proofs.YtcgffkkfeimifaaGreatDoor
namespace Sg
open Go.RowKit Sha Oc
set_option linter.unusedVariables false
set_option linter.unusedSimpArgs false
def ixS (a : Rl × Int) (o : Oct) : Rl × Int := ({ a.1 with sg := { a.1.sg with idx := (rN o 1 15).1 } }, kp a.2 (rN o 1 15).2)
def chS (a : Rl × Int) (o : Oct) : Rl × Int := ({ a.1 with sg := { a.1.sg with cs := (shR o 2 35).1 } }, kp a.2 (shR o 2 35).2)
def paS (a : Rl × Int) (o : Oct) : Rl × Int := ({ a.1 with sg := { a.1.sg with ps := (shR o 3 4).1 } }, kp a.2 (shR o 3 4).2)
def isS (a : Rl × Int) (o : Oct) : Rl × Int := ({ a.1 with iss := ⟨(rS o 1 40).1.toArray⟩ }, kp a.2 (rS o 1 40).2)
def nuS (a : Rl × Int) (o : Oct) : Rl × Int := ({ a.1 with num := (rN o 2 18446744073709551615).1 }, kp a.2 (rN o 2 18446744073709551615).2)
def frS (a : Rl × Int) (o : Oct) : Rl × Int := ({ a.1 with fr := (rN o 3 1099511627776).1 }, kp a.2 (rN o 3 1099511627776).2)
def ttS (a : Rl × Int) (o : Oct) : Rl × Int := ({ a.1 with tt := (rN o 4 1099511627776).1 }, kp a.2 (rN o 4 1099511627776).2)
def seS (a : Rl × Int) (o : Oct) : Rl × Int := ({ a.1 with ser := (serR o a.2).1 }, (serR o a.2).2)
def qB (v : Oct) (tg : UInt8) (n : Int) : Bool := rdQ (tagO v) tg (bytO v).length (kids v).length n n
def sigN (a : Rl × Int) (v : Oct) : Nat → Rl × Int
 | 0 => a
 | 1 => ixS a (kid v 0)
 | 2 => chS (ixS a (kid v 0)) (kid v 1)
 | _ => paS (chS (ixS a (kid v 0)) (kid v 1)) (kid v 2)
def bodyN (a : Rl × Int) (v : Oct) : Nat → Rl × Int
 | 0 => a
 | 1 => isS a (kid v 0)
 | 2 => nuS (isS a (kid v 0)) (kid v 1)
 | 3 => frS (nuS (isS a (kid v 0)) (kid v 1)) (kid v 2)
 | 4 => ttS (frS (nuS (isS a (kid v 0)) (kid v 1)) (kid v 2)) (kid v 3)
 | _ => seS (ttS (frS (nuS (isS a (kid v 0)) (kid v 1)) (kid v 2)) (kid v 3)) (kid v 4)
def sigS (a : Rl × Int) (v : Oct) : Rl × Int := if qB v 131 3 = true then sigN a v 3 else (a.1, kp a.2 12)
def bodyS (a : Rl × Int) (v : Oct) : Rl × Int := if qB v 134 5 = true then bodyN a v 5 else (a.1, kp a.2 12)
def wholeN (a : Rl × Int) (v : Oct) : Nat → Rl × Int
 | 0 => a
 | 1 => bodyS a (kid v 0)
 | _ => sigS (bodyS a (kid v 0)) (kid v 1)
def wholeS (a : Rl × Int) (v : Oct) : Rl × Int := if qB v 135 2 = true then wholeN a v 2 else (a.1, kp a.2 12)
theorem kid_of {v : Oct} {k : Nat} {o : Oct} (h : (kids v)[k]? = some o) : kid v k = o := by
 unfold kid
 rw [List.getD_eq_getElem?_getD, h]
 rfl
theorem cnts_get : ∀ (ls : List Oct) (k : Nat) (o : Oct), ls[k]? = some o → cnt o ≤ cnts ls ∧ tot o ≤ tots ls
 | [], k, o, h => by simp at h
 | v :: r, 0, o, h => by
  obtain rfl : v = o := by simpa using h
  rw [cnts, tots]
  omega
 | v :: r, k + 1, o, h => by
  have := cnts_get r k o (by simpa using h)
  rw [cnts, tots]
  omega
theorem kid_small {v : Oct} {k : Nat} {o : Oct} (h : (kids v)[k]? = some o) : cnt o ≤ cnt v ∧ tot o ≤ tot v := by
 obtain ⟨t, b, ls⟩ := v
 have := cnts_get ls k o h
 rw [cnt, tot]
 omega
def RsE (R F lo : Nat) (a : Rl × Int) (W : World) : Prop := ∃ m, Rs R F lo a.1 m a.2 W
theorem RsE.on {R F lo : Nat} {a : Rl × Int} {W W' : World} (h : RsE R F lo a W) (hb : Below W.heap.size W W') : RsE R F lo a W' := by
 obtain ⟨m, h⟩ := h
 exact ⟨m, h.on hb⟩
theorem mp_fd {R F lo : Nat} {a : Rl × Int} {W : World} {e : Ending} {W' : World} (h : MPost R F lo a.1 a.2 W e W') : FdPost R F (RsE R F lo a) W e W' := ⟨h.1, h.2.1, h.2.2⟩
theorem ms_fd {R F lo : Nat} {l : Rl} {m : Mp} {e' : Int} {W : World} {e : Ending} {W' : World} (h : MSame R F lo l m e' W e W') : FdPost R F (RsE R F lo (l, e')) W e W' := ⟨h.1, ⟨m, h.2.1⟩, h.2.2⟩
set_option maxRecDepth 100000 in
set_option maxHeartbeats 2000000 in
theorem sig_rd {R F lo : Nat} {l : Rl} {m : Mp} {e0 : Int} {W : World} (hS : Rs R F lo l m e0 W) (v : Oct) (hcn : cnt v ≤ 5000) (htt : tot v ≤ 100000) (x y : Value) (hat : At (fun g => g ≠ R ∧ g ≠ F) W v x y) :
  Calls Tryz.prog 115 #[.pointer (some ⟨R, 0, none⟩), .agg (cell3 v x y)] W (MPost R F lo (sigS (l, e0) v).1 (sigS (l, e0) v).2 W) := by
 have hl := hS.lo
 have hstep : ∀ (k f : Nat) (o : Oct), ([141, 142, 143] : List Nat)[k]? = some f → (kids v)[k]? = some o → ∀ (z : World) (x y : Value), (fun k z => RsE R F lo (sigN (l, e0) v k) z) k z → At (fun g => g ≠ R ∧ g ≠ F) z o x y → Calls Tryz.prog f #[.pointer (some ⟨R, 0, none⟩), .agg (cell3 o x y)] z (FdPost R F ((fun k z => RsE R F lo (sigN (l, e0) v k) z) (k + 1)) z) := fun k f o => match k, f, o with
  | 0, f, o => fun hf ho => by
   obtain rfl := Option.some.inj hf
   intro z x y hj ha
   have hk := kid_of ho
   have hs := kid_small ho
   subst hk
   obtain ⟨m9, hj⟩ := hj
   exact (index_rd hj _ x y ha).mono fun e z9 h => ms_fd h
  | 1, f, o => fun hf ho => by
   obtain rfl := Option.some.inj hf
   intro z x y hj ha
   have hk := kid_of ho
   have hs := kid_small ho
   subst hk
   obtain ⟨m9, hj⟩ := hj
   exact (chains_rd hj _ x y ha).mono fun e z9 h => mp_fd (a := chS _ _) h
  | 2, f, o => fun hf ho => by
   obtain rfl := Option.some.inj hf
   intro z x y hj ha
   have hk := kid_of ho
   have hs := kid_small ho
   subst hk
   obtain ⟨m9, hj⟩ := hj
   exact (path_rd hj _ x y ha).mono fun e z9 h => mp_fd (a := paS _ _) h
  | k + 3, f, o => fun hf => by simp at hf
 have hfd : ∀ (V : World) (P : Nat), Below W.heap.size W V → W.heap.size ≤ P → V.heap[P]? = some (.cells #[.func (.func 141) #[.pointer (some ⟨R, 0, none⟩)] #[], .func (.func 142) #[.pointer (some ⟨R, 0, none⟩)] #[], .func (.func 143) #[.pointer (some ⟨R, 0, none⟩)] #[]] 123 (0, 0)) → Calls Tryz.prog 113 #[.pointer (some ⟨R, 0, none⟩), .agg (cell3 v x y), .int .u8 131, .slice (some ⟨P, 0, none⟩) 3 3] V (FdPost R F (fun W' => if qB v 131 3 = true then (fun k z => RsE R F lo (sigN (l, e0) v k) z) 3 W' else Rs R F lo l m (kp e0 12) W') V) := fun V P hb hP hrow =>
  fields_rd (hS.on hb) v hcn htt x y (Bu.at hat (Bu.below hb)) 131 P 3 (by decide) [141, 142, 143] rfl (by omega)
   (fun k f hf => by
    rw [cell_of_row _ _ _ _ _ _ hrow]
    match k, hf with
    | 0, hf => obtain rfl := Option.some.inj hf; rfl
    | 1, hf => obtain rfl := Option.some.inj hf; rfl
    | 2, hf => obtain rfl := Option.some.inj hf; rfl
    | k + 3, hf => simp at hf)
   (fun k f hf => by
    match k, hf with
    | 0, hf => obtain rfl := Option.some.inj hf; exact enters_of Tryz.func141 (by kernel_rfl) rfl
    | 1, hf => obtain rfl := Option.some.inj hf; exact enters_of Tryz.func142 (by kernel_rfl) rfl
    | 2, hf => obtain rfl := Option.some.inj hf; exact enters_of Tryz.func143 (by kernel_rfl) rfl
    | k + 3, hf => simp at hf)
   (fun k z => RsE R F lo (sigN (l, e0) v k) z) (fun _ _ _ h hb => h.on hb) (fun _ h => ⟨m, h⟩) hstep
 have hmf : ∀ (fn : Fn) (first cap : Array Value) (w : World), (Instr.makeFunc fn first cap).run Tryz.prog w = .ok (.func fn first cap) w := fun _ _ _ _ => rfl
 have HS0 := Lib.hid hS
 obtain ⟨A1, m1, c1, B1, n1, d1, rfl, rfl⟩ := hat.slices
 obtain ⟨tz, htz⟩ : ∃ tz : Int, ((tagO v).toNat : Int) = tz := ⟨_, rfl⟩
 unfold cell3 at hfd ⊢
 rw [htz] at hfd ⊢
 have HFD := Lib.hid hfd
 have HZ := Lib.hid (heap_alloc2_new8 W (.cells #[.int .u8 tz, .slice A1 m1 c1, .slice B1 n1 d1] 68) (.cells #[.func (.func 141) #[.pointer (some ⟨R, 0, none⟩)] #[], .func (.func 142) #[.pointer (some ⟨R, 0, none⟩)] #[], .func (.func 143) #[.pointer (some ⟨R, 0, none⟩)] #[]] 123))
 have HB := Lib.hid (show Below W.heap.size W ((W.alloc (.cells #[.int .u8 tz, .slice A1 m1 c1, .slice B1 n1 d1] 68)).alloc (.cells #[.func (.func 141) #[.pointer (some ⟨R, 0, none⟩)] #[], .func (.func 142) #[.pointer (some ⟨R, 0, none⟩)] #[], .func (.func 143) #[.pointer (some ⟨R, 0, none⟩)] #[]] 123)) from (below_new _ _).alloc (by simp) _)
 clear hfd hstep htz hat hS hcn htt hl
 go_enter Tryz.func115, Tryz.ntmps115
 go_wp2_with fail
 refine (HFD.out _ (W.heap.size + 1) HB.out (Nat.le_succ _) HZ.out).mono ?_
 rintro e w3 ⟨rfl, hj, hb⟩
 have HJ := Lib.hid hj
 have HU := Lib.hid ((Bu.below (a := R) (b := F) HB.out).trans hb)
 clear hj hb
 go_wp2_with fail
 go_end0
 refine ⟨rfl, ?_, HU.out⟩
 have h := HJ.out
 unfold sigS
 cases hq : qB v 131 3 with
 | true =>
  rw [hq, if_pos rfl] at h
  rw [if_pos rfl]
  exact h
 | false =>
  rw [hq, if_neg (by decide)] at h
  rw [if_neg (by decide)]
  exact ⟨m, h⟩
set_option maxRecDepth 100000 in
set_option maxHeartbeats 2000000 in
theorem body_rd {R F lo : Nat} {l : Rl} {m : Mp} {e0 : Int} {W : World} (hS : Rs R F lo l m e0 W) (hfr : Fresh l m) (v : Oct) (hcn : cnt v ≤ 5000) (htt : tot v ≤ 100000) (x y : Value) (hat : At (fun g => g ≠ R ∧ g ≠ F) W v x y) :
  Calls Tryz.prog 114 #[.pointer (some ⟨R, 0, none⟩), .agg (cell3 v x y)] W (MPost R F lo (bodyS (l, e0) v).1 (bodyS (l, e0) v).2 W) := by
 have hl := hS.lo
 have hstep : ∀ (k f : Nat) (o : Oct), ([136, 137, 138, 139, 140] : List Nat)[k]? = some f → (kids v)[k]? = some o → ∀ (z : World) (x y : Value), (fun k z => if k < 5 then (Rs R F lo (bodyN (l, e0) v k).1 m (bodyN (l, e0) v k).2 z) else RsE R F lo (bodyN (l, e0) v k) z) k z → At (fun g => g ≠ R ∧ g ≠ F) z o x y → Calls Tryz.prog f #[.pointer (some ⟨R, 0, none⟩), .agg (cell3 o x y)] z (FdPost R F ((fun k z => if k < 5 then (Rs R F lo (bodyN (l, e0) v k).1 m (bodyN (l, e0) v k).2 z) else RsE R F lo (bodyN (l, e0) v k) z) (k + 1)) z) := fun k f o => match k, f, o with
  | 0, f, o => fun hf ho => by
   obtain rfl := Option.some.inj hf
   intro z x y hj ha
   have hk := kid_of ho
   have hs := kid_small ho
   subst hk
   exact (issuer_rd hj _ x y ha).mono fun e z9 h => ⟨h.1, h.2.1, h.2.2⟩
  | 1, f, o => fun hf ho => by
   obtain rfl := Option.some.inj hf
   intro z x y hj ha
   have hk := kid_of ho
   have hs := kid_small ho
   subst hk
   exact (number_rd hj _ x y ha).mono fun e z9 h => ⟨h.1, h.2.1, h.2.2⟩
  | 2, f, o => fun hf ho => by
   obtain rfl := Option.some.inj hf
   intro z x y hj ha
   have hk := kid_of ho
   have hs := kid_small ho
   subst hk
   exact (from_rd hj _ x y ha).mono fun e z9 h => ⟨h.1, h.2.1, h.2.2⟩
  | 3, f, o => fun hf ho => by
   obtain rfl := Option.some.inj hf
   intro z x y hj ha
   have hk := kid_of ho
   have hs := kid_small ho
   subst hk
   exact (to_rd hj _ x y ha).mono fun e z9 h => ⟨h.1, h.2.1, h.2.2⟩
  | 4, f, o => fun hf ho => by
   obtain rfl := Option.some.inj hf
   intro z x y hj ha
   have hk := kid_of ho
   have hs := kid_small ho
   subst hk
   exact (serials_rd hj ⟨hfr.ser, hfr.cs, hfr.ps, hfr.SA, hfr.CA, hfr.PA⟩ _ (by omega) (by omega) x y ha).mono fun e z9 h => mp_fd (a := seS _ _) h
  | k + 5, f, o => fun hf => by simp at hf
 have hfd : ∀ (V : World) (P : Nat), Below W.heap.size W V → W.heap.size ≤ P → V.heap[P]? = some (.cells #[.func (.func 136) #[.pointer (some ⟨R, 0, none⟩)] #[], .func (.func 137) #[.pointer (some ⟨R, 0, none⟩)] #[], .func (.func 138) #[.pointer (some ⟨R, 0, none⟩)] #[], .func (.func 139) #[.pointer (some ⟨R, 0, none⟩)] #[], .func (.func 140) #[.pointer (some ⟨R, 0, none⟩)] #[]] 123 (0, 0)) → Calls Tryz.prog 113 #[.pointer (some ⟨R, 0, none⟩), .agg (cell3 v x y), .int .u8 134, .slice (some ⟨P, 0, none⟩) 5 5] V (FdPost R F (fun W' => if qB v 134 5 = true then (fun k z => if k < 5 then (Rs R F lo (bodyN (l, e0) v k).1 m (bodyN (l, e0) v k).2 z) else RsE R F lo (bodyN (l, e0) v k) z) 5 W' else Rs R F lo l m (kp e0 12) W') V) := fun V P hb hP hrow =>
  fields_rd (hS.on hb) v hcn htt x y (Bu.at hat (Bu.below hb)) 134 P 5 (by decide) [136, 137, 138, 139, 140] rfl (by omega)
   (fun k f hf => by
    rw [cell_of_row _ _ _ _ _ _ hrow]
    match k, hf with
    | 0, hf => obtain rfl := Option.some.inj hf; rfl
    | 1, hf => obtain rfl := Option.some.inj hf; rfl
    | 2, hf => obtain rfl := Option.some.inj hf; rfl
    | 3, hf => obtain rfl := Option.some.inj hf; rfl
    | 4, hf => obtain rfl := Option.some.inj hf; rfl
    | k + 5, hf => simp at hf)
   (fun k f hf => by
    match k, hf with
    | 0, hf => obtain rfl := Option.some.inj hf; exact enters_of Tryz.func136 (by kernel_rfl) rfl
    | 1, hf => obtain rfl := Option.some.inj hf; exact enters_of Tryz.func137 (by kernel_rfl) rfl
    | 2, hf => obtain rfl := Option.some.inj hf; exact enters_of Tryz.func138 (by kernel_rfl) rfl
    | 3, hf => obtain rfl := Option.some.inj hf; exact enters_of Tryz.func139 (by kernel_rfl) rfl
    | 4, hf => obtain rfl := Option.some.inj hf; exact enters_of Tryz.func140 (by kernel_rfl) rfl
    | k + 5, hf => simp at hf)
   (fun k z => if k < 5 then (Rs R F lo (bodyN (l, e0) v k).1 m (bodyN (l, e0) v k).2 z) else RsE R F lo (bodyN (l, e0) v k) z) (fun k _ _ h hb => by by_cases h5 : k < 5 <;> (first | (rw [if_pos h5] at h ⊢; exact Rs.on h hb) | (rw [if_neg h5] at h ⊢; exact RsE.on h hb))) (fun _ h => h) hstep
 have hmf : ∀ (fn : Fn) (first cap : Array Value) (w : World), (Instr.makeFunc fn first cap).run Tryz.prog w = .ok (.func fn first cap) w := fun _ _ _ _ => rfl
 have HS0 := Lib.hid hS
 obtain ⟨A1, m1, c1, B1, n1, d1, rfl, rfl⟩ := hat.slices
 obtain ⟨tz, htz⟩ : ∃ tz : Int, ((tagO v).toNat : Int) = tz := ⟨_, rfl⟩
 unfold cell3 at hfd ⊢
 rw [htz] at hfd ⊢
 have HFD := Lib.hid hfd
 have HZ := Lib.hid (heap_alloc2_new8 W (.cells #[.int .u8 tz, .slice A1 m1 c1, .slice B1 n1 d1] 68) (.cells #[.func (.func 136) #[.pointer (some ⟨R, 0, none⟩)] #[], .func (.func 137) #[.pointer (some ⟨R, 0, none⟩)] #[], .func (.func 138) #[.pointer (some ⟨R, 0, none⟩)] #[], .func (.func 139) #[.pointer (some ⟨R, 0, none⟩)] #[], .func (.func 140) #[.pointer (some ⟨R, 0, none⟩)] #[]] 123))
 have HB := Lib.hid (show Below W.heap.size W ((W.alloc (.cells #[.int .u8 tz, .slice A1 m1 c1, .slice B1 n1 d1] 68)).alloc (.cells #[.func (.func 136) #[.pointer (some ⟨R, 0, none⟩)] #[], .func (.func 137) #[.pointer (some ⟨R, 0, none⟩)] #[], .func (.func 138) #[.pointer (some ⟨R, 0, none⟩)] #[], .func (.func 139) #[.pointer (some ⟨R, 0, none⟩)] #[], .func (.func 140) #[.pointer (some ⟨R, 0, none⟩)] #[]] 123)) from (below_new _ _).alloc (by simp) _)
 clear hfd hstep htz hat hS hcn htt hl
 go_enter Tryz.func114, Tryz.ntmps114
 go_wp2_with fail
 refine (HFD.out _ (W.heap.size + 1) HB.out (Nat.le_succ _) HZ.out).mono ?_
 rintro e w3 ⟨rfl, hj, hb⟩
 have HJ := Lib.hid hj
 have HU := Lib.hid ((Bu.below (a := R) (b := F) HB.out).trans hb)
 clear hj hb
 go_wp2_with fail
 go_end0
 refine ⟨rfl, ?_, HU.out⟩
 have h := HJ.out
 unfold bodyS
 cases hq : qB v 134 5 with
 | true =>
  rw [hq, if_pos rfl] at h
  rw [if_pos rfl]
  exact h
 | false =>
  rw [hq, if_neg (by decide)] at h
  rw [if_neg (by decide)]
  exact ⟨m, h⟩
set_option maxRecDepth 100000 in
set_option maxHeartbeats 2000000 in
theorem whole_rd {R F lo : Nat} {l : Rl} {m : Mp} {e0 : Int} {W : World} (hS : Rs R F lo l m e0 W) (hfr : Fresh l m) (v : Oct) (hcn : cnt v ≤ 5000) (htt : tot v ≤ 100000) (x y : Value) (hat : At (fun g => g ≠ R ∧ g ≠ F) W v x y) :
  Calls Tryz.prog 77 #[.pointer (some ⟨R, 0, none⟩), .agg (cell3 v x y)] W (MPost R F lo (wholeS (l, e0) v).1 (wholeS (l, e0) v).2 W) := by
 have hl := hS.lo
 have hstep : ∀ (k f : Nat) (o : Oct), ([114, 115] : List Nat)[k]? = some f → (kids v)[k]? = some o → ∀ (z : World) (x y : Value), (fun k z => if k < 1 then (Rs R F lo (wholeN (l, e0) v k).1 m (wholeN (l, e0) v k).2 z) else RsE R F lo (wholeN (l, e0) v k) z) k z → At (fun g => g ≠ R ∧ g ≠ F) z o x y → Calls Tryz.prog f #[.pointer (some ⟨R, 0, none⟩), .agg (cell3 o x y)] z (FdPost R F ((fun k z => if k < 1 then (Rs R F lo (wholeN (l, e0) v k).1 m (wholeN (l, e0) v k).2 z) else RsE R F lo (wholeN (l, e0) v k) z) (k + 1)) z) := fun k f o => match k, f, o with
  | 0, f, o => fun hf ho => by
   obtain rfl := Option.some.inj hf
   intro z x y hj ha
   have hk := kid_of ho
   have hs := kid_small ho
   subst hk
   exact (body_rd hj hfr _ (by omega) (by omega) x y ha).mono fun e z9 h => mp_fd (a := bodyS _ _) h
  | 1, f, o => fun hf ho => by
   obtain rfl := Option.some.inj hf
   intro z x y hj ha
   have hk := kid_of ho
   have hs := kid_small ho
   subst hk
   obtain ⟨m9, hj⟩ := hj
   exact (sig_rd hj _ (by omega) (by omega) x y ha).mono fun e z9 h => mp_fd (a := sigS _ _) h
  | k + 2, f, o => fun hf => by simp at hf
 have hfd : ∀ (V : World) (P : Nat), Below W.heap.size W V → W.heap.size ≤ P → V.heap[P]? = some (.cells #[.func (.func 114) #[.pointer (some ⟨R, 0, none⟩)] #[], .func (.func 115) #[.pointer (some ⟨R, 0, none⟩)] #[]] 123 (0, 0)) → Calls Tryz.prog 113 #[.pointer (some ⟨R, 0, none⟩), .agg (cell3 v x y), .int .u8 135, .slice (some ⟨P, 0, none⟩) 2 2] V (FdPost R F (fun W' => if qB v 135 2 = true then (fun k z => if k < 1 then (Rs R F lo (wholeN (l, e0) v k).1 m (wholeN (l, e0) v k).2 z) else RsE R F lo (wholeN (l, e0) v k) z) 2 W' else Rs R F lo l m (kp e0 12) W') V) := fun V P hb hP hrow =>
  fields_rd (hS.on hb) v hcn htt x y (Bu.at hat (Bu.below hb)) 135 P 2 (by decide) [114, 115] rfl (by omega)
   (fun k f hf => by
    rw [cell_of_row _ _ _ _ _ _ hrow]
    match k, hf with
    | 0, hf => obtain rfl := Option.some.inj hf; rfl
    | 1, hf => obtain rfl := Option.some.inj hf; rfl
    | k + 2, hf => simp at hf)
   (fun k f hf => by
    match k, hf with
    | 0, hf => obtain rfl := Option.some.inj hf; exact enters_of Tryz.func114 (by kernel_rfl) rfl
    | 1, hf => obtain rfl := Option.some.inj hf; exact enters_of Tryz.func115 (by kernel_rfl) rfl
    | k + 2, hf => simp at hf)
   (fun k z => if k < 1 then (Rs R F lo (wholeN (l, e0) v k).1 m (wholeN (l, e0) v k).2 z) else RsE R F lo (wholeN (l, e0) v k) z) (fun k _ _ h hb => by by_cases h5 : k < 1 <;> (first | (rw [if_pos h5] at h ⊢; exact Rs.on h hb) | (rw [if_neg h5] at h ⊢; exact RsE.on h hb))) (fun _ h => h) hstep
 have hmf : ∀ (fn : Fn) (first cap : Array Value) (w : World), (Instr.makeFunc fn first cap).run Tryz.prog w = .ok (.func fn first cap) w := fun _ _ _ _ => rfl
 have HS0 := Lib.hid hS
 obtain ⟨A1, m1, c1, B1, n1, d1, rfl, rfl⟩ := hat.slices
 obtain ⟨tz, htz⟩ : ∃ tz : Int, ((tagO v).toNat : Int) = tz := ⟨_, rfl⟩
 unfold cell3 at hfd ⊢
 rw [htz] at hfd ⊢
 have HFD := Lib.hid hfd
 have HZ := Lib.hid (heap_alloc2_new8 W (.cells #[.int .u8 tz, .slice A1 m1 c1, .slice B1 n1 d1] 68) (.cells #[.func (.func 114) #[.pointer (some ⟨R, 0, none⟩)] #[], .func (.func 115) #[.pointer (some ⟨R, 0, none⟩)] #[]] 123))
 have HB := Lib.hid (show Below W.heap.size W ((W.alloc (.cells #[.int .u8 tz, .slice A1 m1 c1, .slice B1 n1 d1] 68)).alloc (.cells #[.func (.func 114) #[.pointer (some ⟨R, 0, none⟩)] #[], .func (.func 115) #[.pointer (some ⟨R, 0, none⟩)] #[]] 123)) from (below_new _ _).alloc (by simp) _)
 clear hfd hstep htz hat hS hcn htt hl
 go_enter Tryz.func77, Tryz.ntmps77
 go_wp2_with fail
 refine (HFD.out _ (W.heap.size + 1) HB.out (Nat.le_succ _) HZ.out).mono ?_
 rintro e w3 ⟨rfl, hj, hb⟩
 have HJ := Lib.hid hj
 have HU := Lib.hid ((Bu.below (a := R) (b := F) HB.out).trans hb)
 clear hj hb
 go_wp2_with fail
 go_end0
 refine ⟨rfl, ?_, HU.out⟩
 have h := HJ.out
 unfold wholeS
 cases hq : qB v 135 2 with
 | true =>
  rw [hq, if_pos rfl] at h
  rw [if_pos rfl]
  exact h
 | false =>
  rw [hq, if_neg (by decide)] at h
  rw [if_neg (by decide)]
  exact ⟨m, h⟩
end Sg
end Go.Proofs.YtcgffkkfeimifaaGreatDoor
namespace Go.Proofs.YtcgffkkfeimifaaGreatDoor
namespace Sg
open Go.RowKit Sha Oc
set_option linter.unusedVariables false
set_option linter.unusedSimpArgs false
abbrev rl0 : Rl := ⟨⟨#[]⟩, 0, 0, 0, [], ⟨0, [], []⟩⟩
abbrev mp0 : Mp := ⟨none, 0, none, 0, none, 0⟩
theorem fresh0 : Fresh rl0 mp0 := ⟨rfl, rfl, rfl, ⟨rfl, rfl⟩, rfl, rfl⟩
theorem rng9 {l : Rl} {m : Mp} {F R : Nat} {V : World} {T : TypeId} {fr : Nat × Nat} (h : V.heap[R]? = some (.cells (rdC l m F) T fr)) : V.rangeAt R 0 [Value.string l.iss, .int .u64 l.num, .int .i64 l.fr, .int .i64 l.tt, .slice m.SA l.ser.length m.sc, .int .i64 l.sg.idx, .slice m.CA l.sg.cs.length m.cc, .slice m.PA l.sg.ps.length m.pc] := fun j u hj => by
 rw [cell_of_row _ _ _ _ _ _ h]
 match j, hj with
 | 0, hj => rw [← hj]; rfl
 | 1, hj => rw [← hj]; rfl
 | 2, hj => rw [← hj]; rfl
 | 3, hj => rw [← hj]; rfl
 | 4, hj => rw [← hj]; rfl
 | 5, hj => rw [← hj]; rfl
 | 6, hj => rw [← hj]; rfl
 | 7, hj => rw [← hj]; rfl
 | j + 8, hj => simp at hj
theorem one8 (a b c d e f g h : Value) (h1 : a.oneCell' = true) (h2 : b.oneCell' = true) (h3 : c.oneCell' = true) (h4 : d.oneCell' = true) (h5 : e.oneCell' = true) (h6 : f.oneCell' = true) (h7 : g.oneCell' = true) (h8 : h.oneCell' = true) : (#[a, b, c, d, e, f, g, h] : Array Value).all (·.oneCell') = true := by
 simp [h1, h2, h3, h4, h5, h6, h7, h8]
structure Frs (lo : Nat) (m : Mp) : Prop where
 SA : ∀ g o, m.SA = some ⟨g, o, none⟩ → lo ≤ g
 CA : ∀ g o, m.CA = some ⟨g, o, none⟩ → lo ≤ g
 PA : ∀ g o, m.PA = some ⟨g, o, none⟩ → lo ≤ g
theorem RlAt.other {l : Rl} {m : Mp} {lo k : Nat} {V W : World} (h : RlAt l m V) (hf : Frs lo m) (hk : k < lo) (ho : ∀ b, b ≠ k → W.heap[b]? = V.heap[b]?) : RlAt l m W := by
 refine ⟨⟨fun i x hi => ?_⟩, ⟨fun i x hi => ?_, h.cs.len⟩, ⟨fun i x hi => ?_, h.ps.len⟩, h.ls, h.lc, h.lp⟩
 ·
  obtain ⟨g, o, e, hc⟩ := h.ser.row i x hi
  exact ⟨g, o, e, cell_same (ho g (by have := hf.SA g o e; omega)) hc⟩
 ·
  obtain ⟨g, o, e, hc⟩ := h.cs.row i x hi
  exact ⟨g, o, e, fun j v hv => cell_same (ho g (by have := hf.CA g o e; omega)) (hc j v hv)⟩
 ·
  obtain ⟨g, o, e, hc⟩ := h.ps.row i x hi
  exact ⟨g, o, e, fun j v hv => cell_same (ho g (by have := hf.PA g o e; omega)) (hc j v hv)⟩
def RdPost (a : Rl × Int) (W : World) (e : Ending) (W' : World) : Prop := ∃ m, e = .returned (.tuple #[.agg (rlC a.1 m), .int .i64 a.2]) ∧ RlAt a.1 m W' ∧ Frs W.heap.size m ∧ Below W.heap.size W W'
set_option maxRecDepth 100000 in
set_option maxHeartbeats 4000000 in
theorem read_rd (v : Oct) (hcn : cnt v ≤ 5000) (htt : tot v ≤ 100000) (x y : Value) (W : World) (hat : At (fun _ => True) W v x y) :
  Calls Tryz.prog 43 #[.agg (cell3 v x y)] W (RdPost (wholeS (rl0, 0) v) W) := by
 have hwh := fun (z : World) (R F lo : Nat) (hs : Rs R F lo rl0 mp0 0 z) (ha : At (fun g => g ≠ R ∧ g ≠ F) z v x y) => whole_rd hs fresh0 v hcn htt x y ha
 have hlow := hat.lower (Nat.le_refl _)
 have hmf : ∀ (fn : Fn) (first cap : Array Value) (w : World), (Instr.makeFunc fn first cap).run Tryz.prog w = .ok (.func fn first cap) w := fun _ _ _ _ => rfl
 obtain ⟨A1, m1, c1, B1, n1, d1, rfl, rfl⟩ := hat.slices
 obtain ⟨a, ha⟩ : ∃ a, wholeS (rl0, 0) v = a := ⟨_, rfl⟩
 obtain ⟨tz, htz⟩ : ∃ tz : Int, ((tagO v).toNat : Int) = tz := ⟨_, rfl⟩
 unfold cell3 at hwh ⊢
 rw [htz, ha] at hwh
 rw [htz, ha]
 have HWH := Lib.hid hwh
 have HLOW := Lib.hid hlow
 clear hwh hlow htz ha hat hcn htt
 go_enter Tryz.func43, Tryz.ntmps43
 go_wp2_with fail
 obtain ⟨V3, hV3⟩ : ∃ V3, ((W.alloc (.cells #[.int .u8 tz, .slice A1 m1 c1, .slice B1 n1 d1] 68)).alloc (.cells #[.string ⟨#[]⟩, .int .u64 0, .int .i64 0, .int .i64 0, .slice none 0 0, .int .i64 0, .slice none 0 0, .slice none 0 0] 32)).alloc (.cells #[.int .i64 0] 24) = V3 := ⟨_, rfl⟩
 have hz3 : V3.heap.size = W.heap.size + 3 := by rw [← hV3, World.size_alloc, World.size_alloc, World.size_alloc]
 have hb2 := below_new W (.cells #[.int .u8 tz, .slice A1 m1 c1, .slice B1 n1 d1] 68)
 have hb3 : Below W.heap.size W V3 := by rw [← hV3]; exact (hb2.alloc (by simp) _).alloc (by simp; omega) _
 have hrG3 : V3.heap[W.heap.size + 1]? = some (.cells #[.string ⟨#[]⟩, .int .u64 0, .int .i64 0, .int .i64 0, .slice none 0 0, .int .i64 0, .slice none 0 0, .slice none 0 0] 32 (0, 0)) := by
  rw [← hV3]
  have h := heap_alloc_new (W.alloc (.cells #[.int .u8 tz, .slice A1 m1 c1, .slice B1 n1 d1] 68)) (.cells #[.string ⟨#[]⟩, .int .u64 0, .int .i64 0, .int .i64 0, .slice none 0 0, .int .i64 0, .slice none 0 0, .slice none 0 0] 32)
  rw [World.size_alloc] at h
  exact row_on h (below_new _ _)
 have hrF3 : V3.heap[W.heap.size + 2]? = some (.cells #[.int .i64 0] 24 (0, 0)) := by
  rw [← hV3]
  have h := heap_alloc_new ((W.alloc (.cells #[.int .u8 tz, .slice A1 m1 c1, .slice B1 n1 d1] 68)).alloc (.cells #[.string ⟨#[]⟩, .int .u64 0, .int .i64 0, .int .i64 0, .slice none 0 0, .int .i64 0, .slice none 0 0, .slice none 0 0] 32)) (.cells #[.int .i64 0] 24)
  rw [World.size_alloc, World.size_alloc] at h
  exact h
 obtain ⟨V, hV⟩ : ∃ V, V3.alloc (.cells #[.string ⟨#[]⟩, .int .u64 0, .int .i64 0, .int .i64 0, .slice none 0 0, .int .i64 0, .slice none 0 0, .slice none 0 0, kpf (W.heap.size + 2)] 122) = V := ⟨_, rfl⟩
 have hb4 : Below V3.heap.size V3 V := by rw [← hV]; exact below_new _ _
 have hrR : V.heap[W.heap.size + 3]? = some (.cells #[.string ⟨#[]⟩, .int .u64 0, .int .i64 0, .int .i64 0, .slice none 0 0, .int .i64 0, .slice none 0 0, .slice none 0 0, kpf (W.heap.size + 2)] 122 (0, 0)) := by
  rw [← hV]
  have h := heap_alloc_new V3 (.cells #[.string ⟨#[]⟩, .int .u64 0, .int .i64 0, .int .i64 0, .slice none 0 0, .int .i64 0, .slice none 0 0, .slice none 0 0, kpf (W.heap.size + 2)] 122)
  rw [hz3] at h
  exact h
 have hzV : V.heap.size = W.heap.size + 4 := by rw [← hV, World.size_alloc, hz3]
 have hbV : Below W.heap.size W V := hb3.trans (hb4.mono hb3.size)
 have hrs : Rs (W.heap.size + 3) (W.heap.size + 2) (W.heap.size + 4) rl0 mp0 0 V := ⟨hrR, row_on hrF3 hb4, ⟨rfl, .inl ⟨rfl, rfl⟩⟩, ⟨shs_nil rfl _ _, fun g o e => by cases e⟩, ⟨shs_nil rfl _ _, fun g o e => by cases e⟩, ⟨by omega, by omega, by omega, by omega⟩, by decide⟩
 have hatV : At (fun g => g ≠ W.heap.size + 3 ∧ g ≠ W.heap.size + 2) V v (.slice A1 m1 c1) (.slice B1 n1 d1) := (HLOW.out.low hbV).to fun g p u hu hR => ⟨hu, by omega, by omega⟩
 have hWV : (((W.alloc (.cells #[.int .u8 tz, .slice A1 m1 c1, .slice B1 n1 d1] 68)).alloc (.cells #[.string ⟨#[]⟩, .int .u64 0, .int .i64 0, .int .i64 0, .slice none 0 0, .int .i64 0, .slice none 0 0, .slice none 0 0] 32)).alloc (.cells #[.int .i64 0] 24)).alloc (.cells #[.string ⟨#[]⟩, .int .u64 0, .int .i64 0, .int .i64 0, .slice none 0 0, .int .i64 0, .slice none 0 0, .slice none 0 0, .func (.func 76) #[] #[.pointer (some ⟨W.heap.size + 1 + 1, 0, none⟩)]] 122) = V := by rw [hV3]; exact hV
 try rw [hWV]
 have HC := Lib.hid (HWH.out V (W.heap.size + 3) (W.heap.size + 2) (W.heap.size + 4) hrs hatV)
 have HBV := Lib.hid hbV
 have HRG := Lib.hid (row_on hrG3 hb4)
 have HZV := Lib.hid hzV
 clear hV3 hz3 hb2 hb3 hrG3 hrF3 hV hb4 hrR hzV hbV hrs hatV hWV HWH HLOW
 refine HC.out.mono ?_
 rintro e w1 ⟨rfl, ⟨m9, hs⟩, hu⟩
 obtain ⟨l9, e9⟩ := a
 dsimp only at hs
 have HU := Lib.hid (hu.under HBV.out HBV.out.size (by omega) (by omega))
 have HRG1 := Lib.hid ((hu.oth _ (by have := HZV.out; omega) (by omega) (by omega)).trans HRG.out)
 have HS := Lib.hid hs
 clear hs hu HC HBV HRG
 go_wp2_with fail
 refine wp_region_held_drew (S := fun z => z.rangeAt (W.heap.size + 3) 0 [Value.string l9.iss, .int .u64 l9.num, .int .i64 l9.fr, .int .i64 l9.tt, .slice m9.SA l9.ser.length m9.sc, .int .i64 l9.sg.idx, .slice m9.CA l9.sg.cs.length m9.cc, .slice m9.PA l9.sg.ps.length m9.pc] ∧ z.cell? ⟨W.heap.size + 2, 0, none⟩ = some (.int .i64 e9)) (by kernel_rfl) ⟨rng9 HS.out.row, cell_of_one HS.out.err⟩ (fun hHeld => ?_)
 generalize hUU : World.drew w1 = U at hHeld ⊢
 have hbU : Below w1.heap.size w1 U := by rw [← hUU]; exact (Below.refl _ _).drew
 clear hUU
 refine wpAnyH_take (i := 0) (oi := { dst := some 10, op := .fieldAddr 122 (.tmp 5) 0, type := 0, pos := "read.go:29", after := #[], guard := none }) (v := ?_) rfl (by kernel_rfl) (by kernel_rfl) (by kernel_rfl) (fun _ _ _ h => h) (Or.inl ⟨by rfl, ?_⟩) hHeld ?_
 rotate_left
 ·
  intro w hSw
  clear hSw
  go_simp
  try with_reducible rfl
 try simp only [Act.put, List.setIfInBounds_toArray, List.set_cons_zero, List.set_cons_succ]
 refine wpAnyH_take (i := 1) (oi := { dst := some 11, op := .load 32 (.tmp 10), type := 32, pos := "read.go:29", after := #[{ on := 0, ground := .data }], guard := none }) (v := .agg ([Value.string l9.iss, .int .u64 l9.num, .int .i64 l9.fr, .int .i64 l9.tt, .slice m9.SA l9.ser.length m9.sc, .int .i64 l9.sg.idx, .slice m9.CA l9.sg.cs.length m9.cc, .slice m9.PA l9.sg.ps.length m9.pc]).toArray) rfl (by kernel_rfl) (by kernel_rfl) (by kernel_rfl) (fun _ _ _ h => h) (yieldsIf_load_mid (by rfl) _ _ rfl _ _ rfl [Value.string l9.iss, .int .u64 l9.num, .int .i64 l9.fr, .int .i64 l9.tt, .slice m9.SA l9.ser.length m9.sc, .int .i64 l9.sg.idx, .slice m9.CA l9.sg.cs.length m9.cc, .slice m9.PA l9.sg.ps.length m9.pc] _ (fun w hSw => hSw.1) Tryz.underlying32 rfl (sz8l _ rfl)) hHeld ?_
 try simp only [Act.put, List.setIfInBounds_toArray, List.set_cons_zero, List.set_cons_succ]
 refine wpAnyH_take (i := 2) (oi := { dst := some 12, op := .load 24 (.tmp 4), type := 24, pos := "read.go:29", after := #[{ on := 3, ground := .gcOnly .lateStores }], guard := none }) (v := ?_) rfl (by kernel_rfl) (by kernel_rfl) (by kernel_rfl) (fun _ _ _ h => h) (Or.inl ⟨by rfl, ?_⟩) hHeld ?_
 rotate_left
 ·
  intro w hSw
  have hfc0 := hSw.2
  clear hSw
  go_simp
  try with_reducible rfl
 try simp only [Act.put, List.setIfInBounds_toArray, List.set_cons_zero, List.set_cons_succ]
 refine wpAnyH_ready (rs := [3]) (by kernel_rfl) (by simp) (AllReadyH.cons (o := { dst := none, op := .store 32 (.tmp 2) (.tmp 11), type := 0, pos := "read.go:29", after := #[{ on := 1, ground := .data }, { on := 0, ground := .phase }, { on := 1, ground := .phase }, { on := 2, ground := .textOnly .lateStores }], guard := none }) rfl (fun K hK => ?_) AllReadyH.nil)
 try rw [if_pos (by rfl)]
 have HR3 := Lib.hid (row_on HRG1.out hbU)
 have HSU := Lib.hid (HS.out.on hbU)
 have HU3 := Lib.hid (HU.out.trans (hbU.mono HU.out.size))
 refine wp_store_mid 32 (.tmp 2) (.tmp 11) rfl (W.heap.size + 1) 0 (rlC l9 m9) rfl rfl (there_row HR3.out 8 (show 8 ≤ 8 by decide)) (sz8 _ rfl) (one8 _ _ _ _ _ _ _ _ rfl rfl rfl rfl rfl rfl rfl rfl) ?_
 obtain ⟨z9, hz9⟩ : ∃ z9, World.setCells U (W.heap.size + 1) 0 (rlC l9 m9).toList = z9 := ⟨_, rfl⟩
 have HOO := Lib.hid (fun (b : Nat) (hb : b ≠ W.heap.size + 1) => (show z9.heap[b]? = U.heap[b]? by rw [← hz9]; exact heap_setCells_other _ _ _ hb))
 have HR4 := Lib.hid (show z9.heap[W.heap.size + 1]? = some (.cells (rlC l9 m9) 32 (0, 0)) by rw [← hz9]; exact row_setCells HR3.out rfl)
 have HB4 := Lib.hid (show Below W.heap.size W z9 by rw [← hz9]; exact below_setCells _ _ _ HU3.out (Nat.le_succ _))
 have HBU := Lib.hid (show Below (W.heap.size + 1) U z9 by rw [← hz9]; exact below_setCells _ _ _ (Below.refl _ _) (Nat.le_refl _))
 rw [hz9]
 clear hz9
 refine hK.out _ _ ⟨rng9 ((HOO.out _ (by omega)).trans HSU.out.row), cell_of_one ((HOO.out _ (by omega)).trans HSU.out.err)⟩ (fun hHeld2 => ?_)
 clear hK K hHeld
 have hHeld := hHeld2
 clear hHeld2
 try simp only [Act.put, List.setIfInBounds_toArray, List.set_cons_zero, List.set_cons_succ]
 refine wpAnyH_take (i := 4) (oi := { dst := some 3, op := .assign (.tmp 12), type := 24, pos := "read.go:29", after := #[{ on := 2, ground := .data }, { on := 3, ground := .chain }, { on := 0, ground := .phase }, { on := 1, ground := .phase }, { on := 2, ground := .phase }, { on := 3, ground := .phase }], guard := none }) (v := ?_) rfl (by kernel_rfl) (by kernel_rfl) (by kernel_rfl) (fun _ _ _ h => h) (Or.inl ⟨by rfl, ?_⟩) hHeld ?_
 rotate_left
 ·
  intro w hSw
  clear hSw
  go_simp
  try with_reducible rfl
 try simp only [Act.put, List.setIfInBounds_toArray, List.set_cons_zero, List.set_cons_succ]
 refine wpAnyH_done (by kernel_rfl) ?_ _
 go_wp2_with fail
 refine bodyPost_ret (v := .tuple #[.agg (rlC l9 m9), .int .i64 e9]) ?res rfl ⟨m9, rfl, ?_, ?_, HB4.out⟩
 case res =>
  obtain ⟨_, f0, f1, f2, f3, f4, f5, f6, f7⟩ := facts8 HR4.out
  simp [results, Tryz.results43, go_sem, f0, f1, f2, f3, f4, f5, f6, f7]
  try rfl
 have hl := HSU.out.lo
 have hbu : Bu (W.heap.size + 1) (W.heap.size + 1) U z9 := ⟨HBU.out.os, HBU.out.tape, HBU.out.output, HBU.out.size, fun k _ h1 _ => HOO.out k h1⟩
 rotate_left
 ·
  refine ⟨fun g o e => ?_, fun g o e => ?_, fun g o e => ?_⟩
  ·
   rcases HSU.out.ser.2 with ⟨hn, _⟩ | ⟨g', cap, cur, hn, h3, _⟩
   ·
    injection hn with hn
    rw [e] at hn
    cases hn
   ·
    injection hn with hn
    rw [e] at hn
    injection hn with hn
    injection hn with hn
    omega
  ·
   have := HSU.out.cs.2 g o e
   omega
  ·
   have := HSU.out.ps.2 g o e
   omega
 refine ⟨?_, (shs_bu HSU.out.cs hbu (by omega) (by omega)).1, (shs_bu HSU.out.ps hbu (by omega) (by omega)).1, ?_, ?_, ?_⟩
 ·
  obtain ⟨A, c, e, _, hn⟩ := nums_own (own_bu HSU.out.ser hbu (by omega) (by omega))
  injection e with e1 e2 e3
  rw [e1]
  exact hn
 ·
  have := HSU.out.len; dsimp only; omega
 ·
  have := HSU.out.len; dsimp only; omega
 ·
  have := HSU.out.len; dsimp only; omega
end Sg
end Go.Proofs.YtcgffkkfeimifaaGreatDoor
namespace Go.Proofs.YtcgffkkfeimifaaGreatDoor
namespace Sg
open Go.RowKit Sha Oc
set_option linter.unusedVariables false
set_option linter.unusedSimpArgs false
theorem rN_zero (v : Oct) (tg : UInt8) (M : Int) : (rN v tg M).2 = 0 ↔ NumG tg M v := Iff.rfl
theorem rS_zero (v : Oct) (tg : UInt8) (M : Int) : (rS v tg M).2 = 0 ↔ StrG tg M v := Iff.rfl
theorem qB_iff (v : Oct) (tg : UInt8) (n : Int) : qB v tg n = true ↔ SeqG tg n n v := Iff.rfl
theorem serF_zero : ∀ (ks : List Oct) (a : List Int × Int), (serF a ks).2 = 0 ↔ a.2 = 0 ∧ ∀ o ∈ ks, NumG 5 maxU o
 | [], a => by simp [serF]
 | o :: r, a => by
  have h := serF_zero r (a.1 ++ [(rN o 5 18446744073709551615).1], kp a.2 (rN o 5 18446744073709551615).2)
  have e : serF a (o :: r) = serF (a.1 ++ [(rN o 5 18446744073709551615).1], kp a.2 (rN o 5 18446744073709551615).2) r := rfl
  rw [e, h, kp_zero, rN_zero]
  constructor
  ·
   rintro ⟨⟨h1, h2⟩, h3⟩
   exact ⟨h1, fun x hx => (List.mem_cons.1 hx).elim (fun e => e ▸ h2) (h3 x)⟩
  ·
   rintro ⟨h1, h2⟩
   exact ⟨⟨h1, h2 o (List.mem_cons_self ..)⟩, fun x hx => h2 x (List.mem_cons_of_mem _ hx)⟩
theorem serF_one : ∀ (ks : List Oct) (a : List Int × Int), (∀ o ∈ ks, NumG 5 maxU o) → (serF a ks).1 = a.1 ++ ks.map fun o => (numX o : Int)
 | [], a, _ => by simp [serF]
 | o :: r, a, h => by
  have e : serF a (o :: r) = serF (a.1 ++ [(rN o 5 18446744073709551615).1], kp a.2 (rN o 5 18446744073709551615).2) r := rfl
  have h1 : (rN o 5 18446744073709551615).1 = (numX o : Int) := (num_of (h o (List.mem_cons_self ..))).2.2.2
  rw [e, serF_one r _ (fun x hx => h x (List.mem_cons_of_mem _ hx)), h1, List.map_cons, List.append_assoc]
  rfl
theorem serR_zero (v : Oct) (e0 : Int) : (serR v e0).2 = 0 ↔ e0 = 0 ∧ SerG v := by
 unfold serR SerG SeqG
 by_cases h : rdQ (tagO v) 129 (bytO v).length (kids v).length 0 500 = true
 ·
  rw [if_pos h, serF_zero]
  exact ⟨fun k => ⟨k.1, h, k.2⟩, fun k => ⟨k.1, k.2.2⟩⟩
 ·
  rw [if_neg h]
  dsimp only
  rw [kp_zero]
  exact ⟨fun k => absurd k.2 (by decide), fun k => absurd k.2.1 h⟩
theorem serR_one (v : Oct) (e0 : Int) (h : SerG v) : (serR v e0).1 = serO v := by
 have h1 : rdQ (tagO v) 129 (bytO v).length (kids v).length 0 500 = true := h.1
 unfold serR
 rw [if_pos h1, serF_one _ _ h.2]
 rfl
theorem shR_zero (v : Oct) (tg : UInt8) (M : Int) : (shR v tg M).2 = 0 ↔ ShG tg (M * 16) v := by
 unfold shR ShG
 by_cases h : (rS v tg (M * 16)).1.length % 16 = 0
 ·
  rw [if_pos h]
  dsimp only
  rw [rS_zero]
  refine ⟨fun k => ⟨k, ?_⟩, fun k => k.1⟩
  have e : (rS v tg (M * 16)).1 = bytO v := (str_of k).2.2
  rw [e] at h
  exact h
 ·
  rw [if_neg h]
  dsimp only
  rw [kp_zero]
  refine ⟨fun k => absurd k.2 (by decide), fun k => absurd ?_ h⟩
  have e : (rS v tg (M * 16)).1 = bytO v := (str_of k.1).2.2
  rw [e]
  exact k.2
theorem shR_one (v : Oct) (tg : UInt8) (M : Int) (h : ShG tg (M * 16) v) : (shR v tg M).1 = chO (bytO v) := by
 have e : (rS v tg (M * 16)).1 = bytO v := (str_of h.1).2.2
 unfold shR
 rw [e, if_pos h.2]
theorem body_zero (a : Rl × Int) (v : Oct) : (bodyS a v).2 = 0 ↔ a.2 = 0 ∧ BodyG v := by
 unfold bodyS BodyG
 rw [← qB_iff]
 by_cases h : qB v 134 5 = true
 ·
  rw [if_pos h]
  have e : bodyN a v 5 = seS (ttS (frS (nuS (isS a (kid v 0)) (kid v 1)) (kid v 2)) (kid v 3)) (kid v 4) := rfl
  rw [e]
  unfold seS
  dsimp only
  rw [serR_zero]
  unfold ttS frS nuS isS
  dsimp only
  rw [kp_zero, kp_zero, kp_zero, kp_zero, rN_zero, rN_zero, rN_zero, rS_zero]
  exact ⟨fun ⟨⟨⟨⟨⟨h1, h2⟩, h3⟩, h4⟩, h5⟩, h6⟩ => ⟨h1, h, h2, h3, h4, h5, h6⟩, fun ⟨h1, _, h2, h3, h4, h5, h6⟩ => ⟨⟨⟨⟨⟨h1, h2⟩, h3⟩, h4⟩, h5⟩, h6⟩⟩
 ·
  rw [if_neg h]
  dsimp only
  rw [kp_zero]
  exact ⟨fun k => absurd k.2 (by decide), fun k => absurd k.2.1 h⟩
theorem body_one (a : Rl × Int) (v : Oct) (h : BodyG v) : (bodyS a v).1 = { a.1 with iss := ⟨(bytO (kid v 0)).toArray⟩, num := (numX (kid v 1) : Int), fr := (numX (kid v 2) : Int), tt := (numX (kid v 3) : Int), ser := serO (kid v 4) } := by
 obtain ⟨h0, h1, h2, h3, h4, h5⟩ := h
 have e1 : (rS (kid v 0) 1 40).1 = bytO (kid v 0) := (str_of h1).2.2
 have e2 : (rN (kid v 1) 2 18446744073709551615).1 = (numX (kid v 1) : Int) := (num_of h2).2.2.2
 have e3 : (rN (kid v 2) 3 1099511627776).1 = (numX (kid v 2) : Int) := (num_of h3).2.2.2
 have e4 : (rN (kid v 3) 4 1099511627776).1 = (numX (kid v 3) : Int) := (num_of h4).2.2.2
 unfold bodyS
 rw [if_pos ((qB_iff _ _ _).2 h0)]
 have e : bodyN a v 5 = seS (ttS (frS (nuS (isS a (kid v 0)) (kid v 1)) (kid v 2)) (kid v 3)) (kid v 4) := rfl
 rw [e]
 unfold seS
 rw [serR_one _ _ h5]
 unfold ttS frS nuS isS
 dsimp only
 rw [e1, e2, e3, e4]
theorem sig_zero (a : Rl × Int) (v : Oct) : (sigS a v).2 = 0 ↔ a.2 = 0 ∧ SigG v := by
 unfold sigS SigG
 rw [← qB_iff]
 have e35 : (35 : Int) * 16 = 560 := by decide
 have e4 : (4 : Int) * 16 = 64 := by decide
 by_cases h : qB v 131 3 = true
 ·
  rw [if_pos h]
  have e : sigN a v 3 = paS (chS (ixS a (kid v 0)) (kid v 1)) (kid v 2) := rfl
  rw [e]
  unfold paS chS ixS
  dsimp only
  rw [kp_zero, kp_zero, kp_zero, rN_zero, shR_zero, shR_zero, e35, e4]
  exact ⟨fun ⟨⟨⟨h1, h2⟩, h3⟩, h4⟩ => ⟨h1, h, h2, h3, h4⟩, fun ⟨h1, _, h2, h3, h4⟩ => ⟨⟨⟨h1, h2⟩, h3⟩, h4⟩⟩
 ·
  rw [if_neg h]
  dsimp only
  rw [kp_zero]
  exact ⟨fun k => absurd k.2 (by decide), fun k => absurd k.2.1 h⟩
theorem sig_one (a : Rl × Int) (v : Oct) (h : SigG v) : (sigS a v).1 = { a.1 with sg := sgO v } := by
 obtain ⟨h0, h1, h2, h3⟩ := h
 have e1 : (rN (kid v 0) 1 15).1 = (numX (kid v 0) : Int) := (num_of h1).2.2.2
 unfold sigS
 rw [if_pos ((qB_iff _ _ _).2 h0)]
 have e : sigN a v 3 = paS (chS (ixS a (kid v 0)) (kid v 1)) (kid v 2) := rfl
 rw [e]
 unfold paS chS ixS
 rw [shR_one _ 2 35 h2, shR_one _ 3 4 h3]
 dsimp only
 rw [e1]
 rfl
theorem whole_zero (v : Oct) : (wholeS (rl0, 0) v).2 = 0 ↔ WholeG v := by
 unfold wholeS WholeG
 rw [← qB_iff]
 by_cases h : qB v 135 2 = true
 ·
  rw [if_pos h]
  have e : wholeN (rl0, 0) v 2 = sigS (bodyS (rl0, 0) (kid v 0)) (kid v 1) := rfl
  rw [e]
  rw [sig_zero, body_zero]
  exact ⟨fun ⟨⟨_, h1⟩, h2⟩ => ⟨h, h1, h2⟩, fun ⟨_, h1, h2⟩ => ⟨⟨rfl, h1⟩, h2⟩⟩
 ·
  rw [if_neg h]
  dsimp only
  rw [kp_zero]
  exact ⟨fun k => absurd k.2 (by decide), fun k => absurd k.1 h⟩
theorem whole_one (v : Oct) (h : WholeG v) : (wholeS (rl0, 0) v).1 = rlO v := by
 obtain ⟨h0, h1, h2⟩ := h
 unfold wholeS
 rw [if_pos ((qB_iff _ _ _).2 h0)]
 have e : wholeN (rl0, 0) v 2 = sigS (bodyS (rl0, 0) (kid v 0)) (kid v 1) := rfl
 rw [e]
 rw [sig_one _ _ h2, body_one _ _ h1]
 rfl
def rvD (b : List UInt8) : Rl × Int := if (decV b).2 = 0 ∧ (wholeS (rl0, 0) (decV b).1).2 = 0 ∧ rvC (wholeS (rl0, 0) (decV b).1).1 = 0 then ((wholeS (rl0, 0) (decV b).1).1, 0) else (rl0, 12)
theorem rvD_enc {l : Rl} (hf : Fit l) (hc : rvC l = 0) (hk : ckV (rlV l) = 0) : rvD (enc (rlV l)) = (l, 0) := by
 obtain ⟨hw, he⟩ := whole_mk hf
 unfold rvD
 rw [decV_enc _ hk]
 dsimp only
 have e := whole_one _ hw
 rw [e, he, if_pos ⟨rfl, (whole_zero _).2 hw, hc⟩]
end Sg
end Go.Proofs.YtcgffkkfeimifaaGreatDoor
