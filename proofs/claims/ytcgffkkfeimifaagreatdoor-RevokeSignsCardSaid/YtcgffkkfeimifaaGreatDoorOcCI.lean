import Derived.Test.YtcgffkkfeimifaaGreatDoorOcB
import Derived.Laws.Bits64b
import Derived.Laws.IdiomStrings
import Derived.Lib.BufferRead
namespace Go.Proofs.YtcgffkkfeimifaaGreatDoor
open Go.RowKit Sha Oc
set_option linter.unusedVariables false
set_option linter.unusedSimpArgs false
theorem srcAt_set {w : World} {A : Option Addr} {b : List UInt8} {X : Nat} (h : SrcAt A b w) (hne : ∀ ga oa, A = some ⟨ga, oa, none⟩ → ga ≠ X) (k : Nat) (vs : List Value) : SrcAt A b (w.setCells X k vs) := fun hb => by
 obtain ⟨g, o, e, hc⟩ := h hb
 refine ⟨g, o, e, fun j x hj => ?_⟩
 have hk := heap_setCells_other8 vs k w (hne g o e)
 have h1 := hc j x hj
 simp only [World.cell?, hk] at h1 ⊢
 exact h1
theorem rw_set {w : World} {b g X : Nat} (h : Rw b w g) (hne : g ≠ X) (k : Nat) (vs : List Value) : Rw b (w.setCells X k vs) g := by
 obtain ⟨h1, cs, t, h2⟩ := h
 exact ⟨h1, cs, t, (heap_setCells_other8 vs k w hne).trans h2⟩
theorem own_sliceO {w : World} {b n : Nat} {v : Value} {xs : List Value} (h : w.ownsRow b 68 3 v n xs) : ∃ A cap, v = .slice A n cap := by
 obtain ⟨h1, ⟨rfl, rfl⟩ | ⟨g, cap, cur, rfl, h3, h4, _⟩⟩ := h
 ·
  exact ⟨none, 0, rfl⟩
 ·
  exact ⟨_, cap, rfl⟩
theorem wp_append_own_at8 {w : World} {o : Oper} {a : Act} {K : Act → World → Prop} {Q : Exit → Act → World → Prop} (s x : Operand)
  (ho : o.op = .call { callee := .builtin .append, args := #[s, x], argTypes := #[66, 66] }) (base : Nat) (v : Value) (n : Nat) (xs : List Value) (hs : a.eval s = v) (hown : w.ownsRow base 68 3 v n xs)
  (ad : Addr) (m c : Nat) (news : List Value) (hx : a.eval x = .slice (some ad) m c) (hl : news.length = m * 3) (hnews : ∀ j u, news[j]? = some u → w.cell? (ad.add j) = some u) (h1 : ∀ u ∈ news, u.oneCell' = true) (h63 : n + m ≤ 1000000) (hbase : base ≤ w.heap.size)
  (h : ∀ v' w', w'.ownsRow base 68 3 v' (n + m) (xs ++ news) → w.grownBy w' v.ownBlock → (v'.ownBlock = v.ownBlock ∨ v'.ownBlock = some w.heap.size) → K (a.put o.dst v') w') : o.wp Tryz.prog a w K Q := by
 obtain ⟨i0, hi, hz0, hz1, hz2⟩ := info_parts Tryz.info_oct
 obtain ⟨v', w', hr, h2, h3, _, h4⟩ := run_append_own_at (P := Tryz.prog) w base 66 o.type 68 i0 (.agg #[.int .u8 0, .slice none 0 0, .slice none 0 0]) 3 56 Tryz.underlying66 hi hz0 hz1 hz2 rfl (by decide) v n xs hown ad m c news hl hnews h1 (by unfold maxLen; omega) (by omega) hbase
 unfold Oper.wp execOp
 simp only [ho, resolve, invoke, builtin, Sem.run_bind, Sem.run_pure, Result.andThen_ok, List.map_toArray, List.map_cons, List.map_nil, hs, hx, hr]
 exact h v' w' h2 h3 h4
structure TX (W1 : World) (SB : Nat) (t0 y0 : Value) (ts : List (Oct × Value × Value)) (B : Option Addr) (d k : Nat) (V : World) : Prop where
 os : V.os = W1.os
 tape : V.tape = W1.tape
 output : V.output = W1.output
 sz : W1.heap.size ≤ V.heap.size
 oth : ∀ b, b < W1.heap.size → b ≠ SB → V.heap[b]? = W1.heap[b]?
 lt : SB < W1.heap.size
 rg : V.heap[SB]? = some (.cells #[t0, y0, .slice B k d] 68 (0, 0))
 lm : Mk W1.heap.size ts (.slice B k d) k V
theorem TX.on {W1 V U : World} {SB d k : Nat} {t0 y0 : Value} {ts : List (Oct × Value × Value)} {B : Option Addr} (h : TX W1 SB t0 y0 ts B d k V) (hb : Below V.heap.size V U) : TX W1 SB t0 y0 ts B d k U :=
 ⟨hb.os.trans h.os, hb.tape.trans h.tape, hb.output.trans h.output, Nat.le_trans h.sz hb.size, fun b h1 h2 => (hb.block b (by have := h.sz; omega)).trans (h.oth b h1 h2), h.lt, row_on h.rg hb, h.lm.on hb⟩
theorem TX.below {W0 W1 V : World} {SB d k n : Nat} {t0 y0 : Value} {ts : List (Oct × Value × Value)} {B : Option Addr} (h : TX W1 SB t0 y0 ts B d k V) (hb : Below n W0 W1) (h1 : n ≤ W1.heap.size) (hn : n ≤ SB) : Below n W0 V :=
 ⟨h.os.trans hb.os, h.tape.trans hb.tape, h.output.trans hb.output, Nat.le_trans hb.size h.sz, fun b hlt => (h.oth b (by omega) (by omega)).trans (hb.block b hlt)⟩
theorem TX.step {W1 U V6 V7 : World} {SB d k d' : Nat} {t0 y0 : Value} {ts ts' : List (Oct × Value × Value)} {B B' : Option Addr} (h : TX W1 SB t0 y0 ts B d k U) (hb : Below U.heap.size U V6) (hg : V6.grownBy V7 (Value.ownBlock (.slice B k d))) (hlo : ∀ j, Value.ownBlock (.slice B k d) = some j → W1.heap.size ≤ j) (hm : Mk W1.heap.size ts' (.slice B' (k + 1) d') (k + 1) V7) :
  V7.heap[SB]? = some (.cells #[t0, y0, .slice B k d] 68 (0, 0)) ∧ TX W1 SB t0 y0 ts' B' d' (k + 1) (V7.setCell ⟨SB, 2, none⟩ (.slice B' (k + 1) d')) := by
 have h6 := h.on hb
 have hlt := h.lt
 have hb7 : ∀ b, b < W1.heap.size → V7.heap[b]? = V6.heap[b]? := fun b hbl => hg.block b (by have := h6.sz; omega) (fun e => by have := hlo b e.symm; omega)
 have hr7 : V7.heap[SB]? = some (.cells #[t0, y0, .slice B k d] 68 (0, 0)) := (hb7 SB hlt).trans h6.rg
 refine ⟨hr7, hg.os.trans h6.os, hg.tape.trans h6.tape, hg.output.trans h6.output, ?_, fun b h1 h2 => ?_, hlt, heap_setCell_same _ _ _ _ _ _ hr7, ?_⟩
 ·
  have h3 := hg.size
  have h4 := h6.sz
  have h5 : (V7.setCell ⟨SB, 2, none⟩ (.slice B' (k + 1) d')).heap.size = V7.heap.size := by simp [World.setCell]
  omega
 ·
  exact ((Below.heap_setCell _ _ _ _ h2).trans (hb7 b h1)).trans (h6.oth b h1 h2)
 ·
  have hne : ∀ g, W1.heap.size ≤ g → (V7.setCell ⟨SB, 2, none⟩ (.slice B' (k + 1) d')).heap[g]? = V7.heap[g]? := fun g hgl => Below.heap_setCell _ _ _ _ (show g ≠ SB by omega)
  refine ⟨ownsRow_setCell_other (a := ⟨SB, 2, none⟩) hm.own (fun e => by have h1 : W1.heap.size ≤ SB := (hm.own.lt _ e).1; omega) _, hm.len, fun u hu => (hm.els u hu).to fun g p x hx hR => ?_⟩
  have hk := hne g hR.1.1
  obtain ⟨⟨h1, cs, t, h2⟩, h3⟩ := hR
  exact ⟨by simp only [World.cell?, hk] at hx ⊢; exact hx, ⟨h1, cs, t, hk.trans h2⟩, h3⟩
set_option maxRecDepth 100000 in
set_option maxHeartbeats 8000000 in
theorem twin_ref_of (t : UInt8) (b : List UInt8) (l : List Oct) (hbl : b.length ≤ 100000) (hll : l.length ≤ 5000) (hT : ∀ (k : Nat) (o : Oct), l[k]? = some o → ∀ (V : World) (x y : Value), At (fun _ => True) V o x y → Calls Tryz.prog 126 #[.agg (cell3 o x y)] V (TwPost o V))
  (w : World) (x y : Value) (hat : At (fun _ => True) w (.mk t b l) x y) : Calls Tryz.prog 126 #[.agg (cell3 (.mk t b l) x y)] w (TwPost (.mk t b l) w) := by
 obtain ⟨A, c, B, d, g, off, vb, vl, rfl, rfl, hc, _, hcn, hs, hd, hdn, he⟩ := hat.els
 have HTT := Lib.hid hT
 have HCN := Lib.hid hcn
 have HSRC := Lib.hid hs
 have HE := Lib.hid he
 have HBL := Lib.hid hbl
 have HL := Lib.hid hll
 show Calls Tryz.prog 126 #[.agg #[.int .u8 (t.toNat : Int), .slice A b.length c, .slice B l.length d]] w (TwPost (.mk t b l) w)
 clear hT hcn hs he hat hbl hll hc hd hdn
 go_enter Tryz.func126, Tryz.ntmps126
 go_upto_region 1 with (fail)
 generalize hV : World.alloc (World.alloc w _) _ = V
 have hb0 : Below w.heap.size w V := by rw [← hV]; exact (below_new _ _).alloc (by simp) _
 have hr0 : V.heap[w.heap.size]? = some (.cells #[.int .u8 (t.toNat : Int), .slice A b.length c, .slice B l.length d] 68 (0, 0)) := by rw [← hV]; rw [Below.heap_alloc _ _ _ (by simp)]; exact heap_alloc_new _ _
 have hr1 : V.heap[w.heap.size + 1]? = some (.cells #[.int .u8 0, .slice none 0 0, .slice none 0 0] 68 (0, 0)) := by rw [← hV]; have h := heap_alloc_new (w.alloc (.cells #[.int .u8 (t.toNat : Int), .slice A b.length c, .slice B l.length d] 68)) (.cells #[.int .u8 0, .slice none 0 0, .slice none 0 0] 68); simpa using h
 obtain ⟨U, hU⟩ : ∃ U, V.drew = U := ⟨_, rfl⟩
 have hbU : Below V.heap.size V U := by rw [← hU]; exact (Below.refl _ _).drew
 have HWU := Lib.hid (chain hb0 hbU)
 have HSG := Lib.hid (row_on hr0 hbU)
 have HRR := Lib.hid (row_on hr1 hbU)
 have HLE : RowKit.Hid (w.heap.size + 1 < U.heap.size) := Lib.hid (Array.getElem?_eq_some_iff.1 HRR.out).1
 have mkS : ∀ z, Below U.heap.size U z → z.cell? ⟨w.heap.size, 0, none⟩ = some (.int .u8 (t.toNat : Int)) ∧ z.cell? ⟨w.heap.size, 1, none⟩ = some (.slice A b.length c) ∧ z.cell? ⟨w.heap.size, 2, none⟩ = some (.slice B l.length d) := fun z hz => (facts3 (row_on HSG.out hz)).2
 have hS0 : V.drew.cell? ⟨w.heap.size, 0, none⟩ = some (.int .u8 (t.toNat : Int)) ∧ V.drew.cell? ⟨w.heap.size, 1, none⟩ = some (.slice A b.length c) ∧ V.drew.cell? ⟨w.heap.size, 2, none⟩ = some (.slice B l.length d) := by rw [hU]; exact mkS _ (Below.refl _ _)
 clear hV hb0 hr0 hr1 hbU
 go_cut [3] (fun s3 wx => ∃ (SB : Nat) (A1 : Option Addr) (c1 : Nat), s3 = .pointer (some ⟨SB, 0, none⟩) ∧ U.heap.size ≤ SB ∧ wx.heap[SB]? = some (.cells #[.int .u8 (t.toNat : Int), .slice A1 b.length c1, .slice none 0 0] 68 (0, 0)) ∧ b.length ≤ c1 ∧ (A1 = none → c1 = 0) ∧ SrcAt A1 b wx ∧ (∀ ga oa, A1 = some ⟨ga, oa, none⟩ → Rw U.heap.size wx ga ∧ ga ≠ SB) ∧ Below U.heap.size U wx)
 case first =>
  refine wp_region_held_drew (S := fun z => z.cell? ⟨w.heap.size, 0, none⟩ = some (.int .u8 (t.toNat : Int)) ∧ z.cell? ⟨w.heap.size, 1, none⟩ = some (.slice A b.length c) ∧ z.cell? ⟨w.heap.size, 2, none⟩ = some (.slice B l.length d)) (by kernel_rfl) hS0 (fun hHeld => ?_)
  rw [hU] at hHeld ⊢
  clear hS0 hU
  refine wpAnyH_take (i := 0) (oi := { dst := some 5, op := .fieldAddr 68 (.tmp 1) 0, type := 0, pos := "ref.go:247", after := #[], guard := none }) (v := ?_) rfl (by kernel_rfl) (by kernel_rfl) (by kernel_rfl) (fun _ _ _ h => h) (Or.inl ⟨by rfl, ?_⟩) hHeld ?_
  rotate_left
  ·
   intro w hSw
   clear hSw
   go_simp
   try with_reducible rfl
  try simp only [Act.put, List.setIfInBounds_toArray, List.set_cons_zero, List.set_cons_succ]
  refine wpAnyH_take (i := 1) (oi := { dst := some 6, op := .load 5 (.tmp 5), type := 5, pos := "ref.go:247", after := #[{ on := 0, ground := .data }], guard := none }) (v := ?_) rfl (by kernel_rfl) (by kernel_rfl) (by kernel_rfl) (fun _ _ _ h => h) (Or.inl ⟨by rfl, ?_⟩) hHeld ?_
  rotate_left
  ·
   intro w hSw
   have hfc0 := hSw.1
   clear hSw
   go_simp
   try with_reducible rfl
  try simp only [Act.put, List.setIfInBounds_toArray, List.set_cons_zero, List.set_cons_succ]
  refine wpAnyH_take (i := 3) (oi := { dst := some 8, op := .fieldAddr 68 (.tmp 1) 1, type := 0, pos := "ref.go:247", after := #[], guard := none }) (v := ?_) rfl (by kernel_rfl) (by kernel_rfl) (by kernel_rfl) (fun _ _ _ h => h) (Or.inl ⟨by rfl, ?_⟩) hHeld ?_
  rotate_left
  ·
   intro w hSw
   clear hSw
   go_simp
   try with_reducible rfl
  try simp only [Act.put, List.setIfInBounds_toArray, List.set_cons_zero, List.set_cons_succ]
  refine wpAnyH_take (i := 4) (oi := { dst := some 9, op := .load 34 (.tmp 8), type := 34, pos := "ref.go:247", after := #[{ on := 3, ground := .data }], guard := none }) (v := ?_) rfl (by kernel_rfl) (by kernel_rfl) (by kernel_rfl) (fun _ _ _ h => h) (Or.inl ⟨by rfl, ?_⟩) hHeld ?_
  rotate_left
  ·
   intro w hSw
   have hfc0 := hSw.2.1
   clear hSw
   go_simp
   try with_reducible rfl
  try simp only [Act.put, List.setIfInBounds_toArray, List.set_cons_zero, List.set_cons_succ]
  refine wpAnyH_ready (rs := [2, 7]) (by kernel_rfl) (by simp) (AllReadyH.cons (o := { dst := some 7, op := .buildSlice 34 0 #[], type := 34, pos := "ref.go:247", after := #[], guard := none }) rfl (fun K hK => ?_) (AllReadyH.cons (o := { dst := some 3, op := .alloc 68, type := 0, pos := "ref.go:247", after := #[], guard := none }) rfl (fun K hK => ?_) AllReadyH.nil))
  ·
   go_simp
   generalize hq : World.alloc U _ = yE
   have rE : yE.heap[U.heap.size]? = some (.cells #[] 5 (0, 0)) := by rw [← hq]; exact heap_alloc_new _ _
   have nE : Below U.heap.size U yE := by rw [← hq]; exact below_new _ _
   have sE : U.heap.size < yE.heap.size := by rw [← hq]; simp
   have bE : Below U.heap.size U yE := chain (Below.refl _ _) nE
   clear hq
   refine hK.out _ _ (mkS _ (bE)) (fun hHeld2 => ?_)
   clear hK K hHeld
   have hHeld := hHeld2
   clear hHeld2
   try simp only [Act.put, List.setIfInBounds_toArray, List.set_cons_zero, List.set_cons_succ]
   refine wpAnyH_ready (rs := [5, 7]) (by kernel_rfl) (by simp) (AllReadyH.cons (o := { dst := some 10, op := .call { callee := .builtin .append, args := #[.tmp 7, .tmp 9], argTypes := #[34, 34] }, type := 34, pos := "ref.go:247", after := #[{ on := 2, ground := .data }, { on := 4, ground := .data }], guard := none }) rfl (fun K hK => ?_) (AllReadyH.cons (o := { dst := some 3, op := .alloc 68, type := 0, pos := "ref.go:247", after := #[], guard := none }) rfl (fun K hK => ?_) AllReadyH.nil))
   ·
    try rw [if_pos (by rfl)]
    refine wp_append_src (.tmp 7) (.tmp 9) rfl U.heap.size (.slice (some ⟨U.heap.size, 0, none⟩) 0 0) 0 [] rfl (own_empty8 rE (by have := bE.size; have h1 := (bE).size; omega)) A b c _ rfl rfl HCN.out (HSRC.out.on (chain HWU.out bE)) (by have := HBL.out; omega) (bE).size ?_
    intro v5 y5 o5 g5 l5
    have b5 : Below U.heap.size U y5 := (bE).grown g5 (bE).size (fun j hj => by have hj2 := Option.some.inj (show some (U.heap.size) = some j from hj); omega)
    have lo5 := o5.lt
    obtain ⟨A1, c1, rfl, hc1, hn1, hs1, hw1⟩ := own_rd3 (by rw [Nat.zero_add, List.nil_append] at o5; exact o5)
    clear g5 o5
    refine hK.out _ _ (mkS _ (b5)) (fun hHeld2 => ?_)
    clear hK K hHeld
    have hHeld := hHeld2
    clear hHeld2
    try simp only [Act.put, List.setIfInBounds_toArray, List.set_cons_zero, List.set_cons_succ]
    refine wpAnyH_take (i := 6) (oi := { dst := some 11, op := .build 68 #[(0, .tmp 6), (1, .tmp 10)], type := 68, pos := "ref.go:247", after := #[{ on := 1, ground := .data }, { on := 5, ground := .data }], guard := none }) (v := ?_) rfl (by kernel_rfl) (by kernel_rfl) (by kernel_rfl) (fun _ _ _ h => h) (Or.inl ⟨by rfl, ?_⟩) hHeld ?_
    rotate_left
    ·
     intro w hSw
     clear hSw
     go_simp
     try with_reducible rfl
    try simp only [Act.put, List.setIfInBounds_toArray, List.set_cons_zero, List.set_cons_succ]
    refine wpAnyH_ready (rs := [7]) (by kernel_rfl) (by simp) (AllReadyH.cons (o := { dst := some 3, op := .alloc 68, type := 0, pos := "ref.go:247", after := #[], guard := none }) rfl (fun K hK => ?_) AllReadyH.nil)
    go_simp
    generalize hq : World.alloc y5 _ = y7
    have r7 : y7.heap[y5.heap.size]? = some (.cells #[.int .u8 0, .slice none 0 0, .slice none 0 0] 68 (0, 0)) := by rw [← hq]; exact (heap_alloc_new _ _).trans rfl
    have n7 : Below y5.heap.size y5 y7 := by rw [← hq]; exact below_new _ _
    have s7 : y5.heap.size < y7.heap.size := by rw [← hq]; simp
    have b7 : Below U.heap.size U y7 := chain b5 n7
    have hs17 := hs1.on n7
    have hw17 : ∀ ga oa, A1 = some ⟨ga, oa, none⟩ → Rw U.heap.size y7 ga ∧ ga ≠ y5.heap.size := fun ga oa e => ⟨(hw1 ga oa e).on8 n7, by have h := hw1 ga oa e; obtain ⟨_, cs, t, h2⟩ := h; have := (Array.getElem?_eq_some_iff.1 h2).1; omega⟩
    clear hq
    refine hK.out _ _ (mkS _ (b7)) (fun hHeld2 => ?_)
    clear hK K hHeld
    have hHeld := hHeld2
    clear hHeld2
    try simp only [Act.put, List.setIfInBounds_toArray, List.set_cons_zero, List.set_cons_succ]
    refine wpAnyH_ready (rs := [8]) (by kernel_rfl) (by simp) (AllReadyH.cons (o := { dst := none, op := .store 68 (.tmp 3) (.tmp 11), type := 0, pos := "ref.go:247", after := #[{ on := 7, ground := .data }, { on := 6, ground := .data }, { on := 5, ground := .chain }, { on := 0, ground := .phase }, { on := 1, ground := .phase }, { on := 2, ground := .phase }, { on := 3, ground := .phase }, { on := 4, ground := .phase }, { on := 5, ground := .phase }, { on := 6, ground := .phase }, { on := 7, ground := .phase }], guard := none }) rfl (fun K hK => ?_) AllReadyH.nil)
    try rw [if_pos (by rfl)]
    refine wp_store_mid 68 (.tmp 3) (.tmp 11) rfl (y5.heap.size) 0 #[.int .u8 (t.toNat : Int), .slice A1 b.length c1, .slice none 0 0] rfl rfl (there_row8 r7 3 (by decide)) (sz3o _ _ _) (by simp [Value.oneCell']) ?_
    have hr9 := row_setCells8 r7 (cs := #[.int .u8 (t.toNat : Int), .slice A1 b.length c1, .slice none 0 0]) rfl
    have hle9 : U.heap.size ≤ y5.heap.size := by first | exact Nat.le_refl _ | exact (bE).size | exact (b5).size
    have hb9 := below_setCells8 [.int .u8 (t.toNat : Int), .slice A1 b.length c1, .slice none 0 0] 0 _ b7 hle9
    have hs9 : SrcAt A1 b (World.setCells y7 (y5.heap.size) 0 [.int .u8 (t.toNat : Int), .slice A1 b.length c1, .slice none 0 0]) := srcAt_set hs17 (fun ga oa e => (hw17 ga oa e).2) 0 _
    have hw9 : ∀ ga oa, A1 = some ⟨ga, oa, none⟩ → Rw U.heap.size (World.setCells y7 (y5.heap.size) 0 [.int .u8 (t.toNat : Int), .slice A1 b.length c1, .slice none 0 0]) ga ∧ ga ≠ y5.heap.size := fun ga oa e => ⟨rw_set (hw17 ga oa e).1 (hw17 ga oa e).2 0 _, (hw17 ga oa e).2⟩
    refine hK.out _ _ (mkS _ hb9) (fun hHeld2 => ?_)
    clear hK K hHeld hHeld2
    try simp only [Act.put, List.setIfInBounds_toArray, List.set_cons_zero, List.set_cons_succ]
    refine wpAnyH_done (by kernel_rfl) ?_ _
    go_wp2_with fail
    go_meet
    exact ⟨_, A1, c1, rfl, hle9, hr9, hc1, hn1, hs9, hw9, hb9⟩
   ·
    go_simp
    generalize hq : World.alloc yE _ = y7
    have r7 : y7.heap[yE.heap.size]? = some (.cells #[.int .u8 0, .slice none 0 0, .slice none 0 0] 68 (0, 0)) := by rw [← hq]; exact (heap_alloc_new _ _).trans rfl
    have n7 : Below yE.heap.size yE y7 := by rw [← hq]; exact below_new _ _
    have s7 : yE.heap.size < y7.heap.size := by rw [← hq]; simp
    have b7 : Below U.heap.size U y7 := chain bE n7
    have rE7 := row_on rE n7
    clear hq
    refine hK.out _ _ (mkS _ (b7)) (fun hHeld2 => ?_)
    clear hK K hHeld
    have hHeld := hHeld2
    clear hHeld2
    try simp only [Act.put, List.setIfInBounds_toArray, List.set_cons_zero, List.set_cons_succ]
    refine wpAnyH_ready (rs := [5]) (by kernel_rfl) (by simp) (AllReadyH.cons (o := { dst := some 10, op := .call { callee := .builtin .append, args := #[.tmp 7, .tmp 9], argTypes := #[34, 34] }, type := 34, pos := "ref.go:247", after := #[{ on := 2, ground := .data }, { on := 4, ground := .data }], guard := none }) rfl (fun K hK => ?_) AllReadyH.nil)
    try rw [if_pos (by rfl)]
    refine wp_append_src (.tmp 7) (.tmp 9) rfl U.heap.size (.slice (some ⟨U.heap.size, 0, none⟩) 0 0) 0 [] rfl (own_empty8 rE7 (by have := bE.size; have h1 := (b7).size; omega)) A b c _ rfl rfl HCN.out (HSRC.out.on (chain HWU.out b7)) (by have := HBL.out; omega) (b7).size ?_
    intro v5 y5 o5 g5 l5
    have b5 : Below U.heap.size U y5 := (b7).grown g5 (b7).size (fun j hj => by have hj2 := Option.some.inj (show some (U.heap.size) = some j from hj); omega)
    have lo5 := o5.lt
    obtain ⟨A1, c1, rfl, hc1, hn1, hs1, hw1⟩ := own_rd3 (by rw [Nat.zero_add, List.nil_append] at o5; exact o5)
    have hl7 : yE.heap.size < y7.heap.size := (Array.getElem?_eq_some_iff.1 r7).1
    have hne7 : yE.heap.size ≠ U.heap.size := by omega
    have r75 := (g5.block (yE.heap.size) hl7 (fun e => hne7 (Option.some.inj e))).trans r7
    have hw15 : ∀ ga oa, A1 = some ⟨ga, oa, none⟩ → Rw U.heap.size y5 ga ∧ ga ≠ yE.heap.size := fun ga oa e => ⟨hw1 ga oa e, fun e2 => by
     subst e
     rcases l5 with h | h
     ·
      exact hne7 (e2.symm.trans (show ga = U.heap.size from Option.some.inj h))
     ·
      have h3 : ga = y7.heap.size := Option.some.inj h
      omega⟩
    clear g5 o5
    refine hK.out _ _ (mkS _ (b5)) (fun hHeld2 => ?_)
    clear hK K hHeld
    have hHeld := hHeld2
    clear hHeld2
    try simp only [Act.put, List.setIfInBounds_toArray, List.set_cons_zero, List.set_cons_succ]
    refine wpAnyH_take (i := 6) (oi := { dst := some 11, op := .build 68 #[(0, .tmp 6), (1, .tmp 10)], type := 68, pos := "ref.go:247", after := #[{ on := 1, ground := .data }, { on := 5, ground := .data }], guard := none }) (v := ?_) rfl (by kernel_rfl) (by kernel_rfl) (by kernel_rfl) (fun _ _ _ h => h) (Or.inl ⟨by rfl, ?_⟩) hHeld ?_
    rotate_left
    ·
     intro w hSw
     clear hSw
     go_simp
     try with_reducible rfl
    try simp only [Act.put, List.setIfInBounds_toArray, List.set_cons_zero, List.set_cons_succ]
    refine wpAnyH_ready (rs := [8]) (by kernel_rfl) (by simp) (AllReadyH.cons (o := { dst := none, op := .store 68 (.tmp 3) (.tmp 11), type := 0, pos := "ref.go:247", after := #[{ on := 7, ground := .data }, { on := 6, ground := .data }, { on := 5, ground := .chain }, { on := 0, ground := .phase }, { on := 1, ground := .phase }, { on := 2, ground := .phase }, { on := 3, ground := .phase }, { on := 4, ground := .phase }, { on := 5, ground := .phase }, { on := 6, ground := .phase }, { on := 7, ground := .phase }], guard := none }) rfl (fun K hK => ?_) AllReadyH.nil)
    try rw [if_pos (by rfl)]
    refine wp_store_mid 68 (.tmp 3) (.tmp 11) rfl (yE.heap.size) 0 #[.int .u8 (t.toNat : Int), .slice A1 b.length c1, .slice none 0 0] rfl rfl (there_row8 r75 3 (by decide)) (sz3o _ _ _) (by simp [Value.oneCell']) ?_
    have hr9 := row_setCells8 r75 (cs := #[.int .u8 (t.toNat : Int), .slice A1 b.length c1, .slice none 0 0]) rfl
    have hle9 : U.heap.size ≤ yE.heap.size := by first | exact Nat.le_refl _ | exact (bE).size | exact (b5).size
    have hb9 := below_setCells8 [.int .u8 (t.toNat : Int), .slice A1 b.length c1, .slice none 0 0] 0 _ b5 hle9
    have hs9 : SrcAt A1 b (World.setCells y5 (yE.heap.size) 0 [.int .u8 (t.toNat : Int), .slice A1 b.length c1, .slice none 0 0]) := srcAt_set hs1 (fun ga oa e => (hw15 ga oa e).2) 0 _
    have hw9 : ∀ ga oa, A1 = some ⟨ga, oa, none⟩ → Rw U.heap.size (World.setCells y5 (yE.heap.size) 0 [.int .u8 (t.toNat : Int), .slice A1 b.length c1, .slice none 0 0]) ga ∧ ga ≠ yE.heap.size := fun ga oa e => ⟨rw_set (hw15 ga oa e).1 (hw15 ga oa e).2 0 _, (hw15 ga oa e).2⟩
    refine hK.out _ _ (mkS _ hb9) (fun hHeld2 => ?_)
    clear hK K hHeld hHeld2
    try simp only [Act.put, List.setIfInBounds_toArray, List.set_cons_zero, List.set_cons_succ]
    refine wpAnyH_done (by kernel_rfl) ?_ _
    go_wp2_with fail
    go_meet
    exact ⟨_, A1, c1, rfl, hle9, hr9, hc1, hn1, hs9, hw9, hb9⟩
  ·
   go_simp
   generalize hq : World.alloc U _ = y7
   have r7 : y7.heap[U.heap.size]? = some (.cells #[.int .u8 0, .slice none 0 0, .slice none 0 0] 68 (0, 0)) := by rw [← hq]; exact (heap_alloc_new _ _).trans rfl
   have n7 : Below U.heap.size U y7 := by rw [← hq]; exact below_new _ _
   have s7 : U.heap.size < y7.heap.size := by rw [← hq]; simp
   have b7 : Below U.heap.size U y7 := chain (Below.refl _ _) n7
   clear hq
   refine hK.out _ _ (mkS _ (b7)) (fun hHeld2 => ?_)
   clear hK K hHeld
   have hHeld := hHeld2
   clear hHeld2
   try simp only [Act.put, List.setIfInBounds_toArray, List.set_cons_zero, List.set_cons_succ]
   refine wpAnyH_ready (rs := [2]) (by kernel_rfl) (by simp) (AllReadyH.cons (o := { dst := some 7, op := .buildSlice 34 0 #[], type := 34, pos := "ref.go:247", after := #[], guard := none }) rfl (fun K hK => ?_) AllReadyH.nil)
   go_simp
   generalize hq : World.alloc y7 _ = yE
   have rE : yE.heap[y7.heap.size]? = some (.cells #[] 5 (0, 0)) := by rw [← hq]; exact heap_alloc_new _ _
   have nE : Below y7.heap.size y7 yE := by rw [← hq]; exact below_new _ _
   have sE : y7.heap.size < yE.heap.size := by rw [← hq]; simp
   have bE : Below U.heap.size U yE := chain b7 nE
   have r7 := row_on r7 nE
   clear hq
   refine hK.out _ _ (mkS _ (bE)) (fun hHeld2 => ?_)
   clear hK K hHeld
   have hHeld := hHeld2
   clear hHeld2
   try simp only [Act.put, List.setIfInBounds_toArray, List.set_cons_zero, List.set_cons_succ]
   refine wpAnyH_ready (rs := [5]) (by kernel_rfl) (by simp) (AllReadyH.cons (o := { dst := some 10, op := .call { callee := .builtin .append, args := #[.tmp 7, .tmp 9], argTypes := #[34, 34] }, type := 34, pos := "ref.go:247", after := #[{ on := 2, ground := .data }, { on := 4, ground := .data }], guard := none }) rfl (fun K hK => ?_) AllReadyH.nil)
   try rw [if_pos (by rfl)]
   refine wp_append_src (.tmp 7) (.tmp 9) rfl U.heap.size (.slice (some ⟨y7.heap.size, 0, none⟩) 0 0) 0 [] rfl (own_empty8 rE (by have := bE.size; have h1 := (bE).size; omega)) A b c _ rfl rfl HCN.out (HSRC.out.on (chain HWU.out bE)) (by have := HBL.out; omega) (bE).size ?_
   intro v5 y5 o5 g5 l5
   have b5 : Below U.heap.size U y5 := (bE).grown g5 (bE).size (fun j hj => by have hj2 := Option.some.inj (show some (y7.heap.size) = some j from hj); omega)
   have lo5 := o5.lt
   obtain ⟨A1, c1, rfl, hc1, hn1, hs1, hw1⟩ := own_rd3 (by rw [Nat.zero_add, List.nil_append] at o5; exact o5)
   have hl7 : U.heap.size < yE.heap.size := (Array.getElem?_eq_some_iff.1 r7).1
   have hne7 : U.heap.size ≠ y7.heap.size := by omega
   have r75 := (g5.block (U.heap.size) hl7 (fun e => hne7 (Option.some.inj e))).trans r7
   have hw15 : ∀ ga oa, A1 = some ⟨ga, oa, none⟩ → Rw U.heap.size y5 ga ∧ ga ≠ U.heap.size := fun ga oa e => ⟨hw1 ga oa e, fun e2 => by
    subst e
    rcases l5 with h | h
    ·
     exact hne7 (e2.symm.trans (show ga = y7.heap.size from Option.some.inj h))
    ·
     have h3 : ga = yE.heap.size := Option.some.inj h
     omega⟩
   clear g5 o5
   refine hK.out _ _ (mkS _ (b5)) (fun hHeld2 => ?_)
   clear hK K hHeld
   have hHeld := hHeld2
   clear hHeld2
   try simp only [Act.put, List.setIfInBounds_toArray, List.set_cons_zero, List.set_cons_succ]
   refine wpAnyH_take (i := 6) (oi := { dst := some 11, op := .build 68 #[(0, .tmp 6), (1, .tmp 10)], type := 68, pos := "ref.go:247", after := #[{ on := 1, ground := .data }, { on := 5, ground := .data }], guard := none }) (v := ?_) rfl (by kernel_rfl) (by kernel_rfl) (by kernel_rfl) (fun _ _ _ h => h) (Or.inl ⟨by rfl, ?_⟩) hHeld ?_
   rotate_left
   ·
    intro w hSw
    clear hSw
    go_simp
    try with_reducible rfl
   try simp only [Act.put, List.setIfInBounds_toArray, List.set_cons_zero, List.set_cons_succ]
   refine wpAnyH_ready (rs := [8]) (by kernel_rfl) (by simp) (AllReadyH.cons (o := { dst := none, op := .store 68 (.tmp 3) (.tmp 11), type := 0, pos := "ref.go:247", after := #[{ on := 7, ground := .data }, { on := 6, ground := .data }, { on := 5, ground := .chain }, { on := 0, ground := .phase }, { on := 1, ground := .phase }, { on := 2, ground := .phase }, { on := 3, ground := .phase }, { on := 4, ground := .phase }, { on := 5, ground := .phase }, { on := 6, ground := .phase }, { on := 7, ground := .phase }], guard := none }) rfl (fun K hK => ?_) AllReadyH.nil)
   try rw [if_pos (by rfl)]
   refine wp_store_mid 68 (.tmp 3) (.tmp 11) rfl (U.heap.size) 0 #[.int .u8 (t.toNat : Int), .slice A1 b.length c1, .slice none 0 0] rfl rfl (there_row8 r75 3 (by decide)) (sz3o _ _ _) (by simp [Value.oneCell']) ?_
   have hr9 := row_setCells8 r75 (cs := #[.int .u8 (t.toNat : Int), .slice A1 b.length c1, .slice none 0 0]) rfl
   have hle9 : U.heap.size ≤ U.heap.size := by first | exact Nat.le_refl _ | exact (bE).size | exact (b5).size
   have hb9 := below_setCells8 [.int .u8 (t.toNat : Int), .slice A1 b.length c1, .slice none 0 0] 0 _ b5 hle9
   have hs9 : SrcAt A1 b (World.setCells y5 (U.heap.size) 0 [.int .u8 (t.toNat : Int), .slice A1 b.length c1, .slice none 0 0]) := srcAt_set hs1 (fun ga oa e => (hw15 ga oa e).2) 0 _
   have hw9 : ∀ ga oa, A1 = some ⟨ga, oa, none⟩ → Rw U.heap.size (World.setCells y5 (U.heap.size) 0 [.int .u8 (t.toNat : Int), .slice A1 b.length c1, .slice none 0 0]) ga ∧ ga ≠ U.heap.size := fun ga oa e => ⟨rw_set (hw15 ga oa e).1 (hw15 ga oa e).2 0 _, (hw15 ga oa e).2⟩
   refine hK.out _ _ (mkS _ hb9) (fun hHeld2 => ?_)
   clear hK K hHeld hHeld2
   try simp only [Act.put, List.setIfInBounds_toArray, List.set_cons_zero, List.set_cons_succ]
   refine wpAnyH_done (by kernel_rfl) ?_ _
   go_wp2_with fail
   go_meet
   exact ⟨_, A1, c1, rfl, hle9, hr9, hc1, hn1, hs9, hw9, hb9⟩
 case rest =>
  obtain ⟨SB, A9, c9, rfl, hle9, hr9, hc9, hn9, hs9, hw9, hb9⟩ := hcut
  obtain ⟨W0, hW0⟩ : ∃ W0, U = W0 := ⟨_, rfl⟩
  subst hW0
  obtain ⟨W1, hW1⟩ : ∃ W1, wc = W1 := ⟨_, rfl⟩
  subst hW1
  clear mkS hS0 hU
  have HB9 := Lib.hid hb9
  have HC9 := Lib.hid hc9
  have HN9 := Lib.hid hn9
  have HS9 := Lib.hid hs9
  have HW9 := Lib.hid hw9
  have HSB0 : RowKit.Hid (U.heap.size ≤ SB) := Lib.hid hle9
  have HW01 : RowKit.Hid (U.heap.size ≤ wc.heap.size) := Lib.hid hb9.size
  have HTX : RowKit.Hid (TX wc SB (.int .u8 (t.toNat : Int)) (.slice A9 b.length c9) [] none 0 0 wc) := Lib.hid ⟨rfl, rfl, rfl, Nat.le_refl _, fun _ _ _ => rfl, (Array.getElem?_eq_some_iff.1 hr9).1, hr9, mk_none _ _⟩
  obtain ⟨n, hn⟩ : ∃ n, l.length = n := ⟨_, rfl⟩
  have HN := Lib.hid hn
  rw [hn] at HL HSG
  have e3 := (facts3 (row_on HSG.out HB9.out)).2.2.2
  try simp only [hn]
  clear hle9 hr9 hc9 hn9 hs9 hw9 hb9 hn
  go_wp2_with fail
  clear e3
  go_loopw [4] (fun i wr => ∃ (k : Nat) (ts : List (Oct × Value × Value)) (PB : Option Addr) (pd : Nat), k ≤ n ∧ i = .int .i64 (k : Int) ∧ RowKit.Hid (ts.map (·.1) = l.take k) ∧ RowKit.Hid (TX wc SB (.int .u8 (t.toNat : Int)) (.slice A9 b.length c9) ts PB pd k wr)) (fun i _ => n - (intOf i).toNat)
  case atStart => exact ⟨0, [], none, 0, by omega, rfl, Lib.hid (by simp), HTX⟩
  case round =>
   clear HTX
   obtain ⟨k, ts, PB, pd, hk, rfl, HM, HTX⟩ := hrel
   have HBR : RowKit.Hid (Below U.heap.size U wr) := Lib.hid (HTX.out.below HB9.out HW01.out HSB0.out)
   have hq2 := (facts3 (row_on HSG.out HBR.out)).2.2.2
   by_cases hlt : k < n
   ·
    have hki : (k : Int) < (n : Int) := by omega
    have hh5 := HL.out
    obtain ⟨o, ho⟩ : ∃ o, l[k]? = some o := ⟨_, List.getElem?_eq_getElem (by rw [HN.out]; exact hlt)⟩
    have hne : l ≠ [] := fun e => by rw [e] at ho; simp at ho
    have hBB := HE.out.hB hne
    subst hBB
    have hbw : Below w.heap.size w wr := chain HWU.out HBR.out
    have hew := HE.out.on hbw
    have hc0 := hew.h0 k o ho
    have hc1 := hew.h1 k o ho
    have hc2 := hew.h2 k o ho
    have hat := hew.hr k o ho
    obtain ⟨A1, m1, c1, B1, n1, d1, e1, e2⟩ := hat.slices
    rw [e1] at hc1 hat
    rw [e2] at hc2 hat
    have hcg : g < wr.heap.size := World.block_lt_of_cell? _ _ hc0
    have hrg : wr.rangeAt g (off + k * 3) [Value.int .u8 ((tagO o).toNat : Int), .slice A1 m1 c1, .slice B1 n1 d1] := fun j v hj => by
     match j, hj with
     | 0, hj => obtain rfl := Option.some.inj hj; exact hc0
     | 1, hj => obtain rfl := Option.some.inj hj; exact hc1
     | 2, hj => obtain rfl := Option.some.inj hj; exact hc2
    have hgw : g < w.heap.size := by
     have := HE.out.h0 k o ho
     exact World.block_lt_of_cell? _ _ this
    have HRG0 : RowKit.Hid (w.rangeAt g (off + k * 3) [Value.int .u8 ((tagO o).toNat : Int), .slice A1 m1 c1, .slice B1 n1 d1]) := Lib.hid (fun j v hj => by
     have h1 := hrg j v hj
     rw [hbw.cell (p := ⟨g, off + k * 3 + j, none⟩) hgw] at h1
     exact h1)
    have HGW := Lib.hid hgw
    have hcall := fun (V : World) (hb : Below wr.heap.size wr V) => HTT.out k o ho V _ _ (hat.on hb)
    unfold TwPost at hcall
    have HTK : RowKit.Hid (l.take (k + 1) = l.take k ++ [o]) := Lib.hid (by rw [List.take_add_one, ho]; rfl)
    have HLT := Lib.hid hlt
    obtain ⟨U0, hU0⟩ : ∃ U0, U = U0 := ⟨_, rfl⟩
    subst hU0
    obtain ⟨W0, hW0⟩ : ∃ W0, U = W0 := ⟨_, rfl⟩
    rw [hW0] at HWU HSG HRR HLE HBR HSB0 HW01 HB9
    have hltw : w.heap.size < wr.heap.size := by have h1 := HBR.out.size; have h2 := HLE.out; omega
    clear hne hew hat ho e1 e2 hc0 hc1 hc2 hcg hrg hgw hbw
    go_wp2_with fail
    clear hq2 hltw
    obtain ⟨U, hU⟩ : ∃ U, wr.drew = U := ⟨_, rfl⟩
    have hbU : Below wr.heap.size wr U := by rw [← hU]; exact (Below.refl _ _).drew
    have HSU := Lib.hid (HTX.out.on hbU)
    have HBU := Lib.hid (chain HBR.out hbU)
    have hcall2 := fun (V : World) (hb : Below U.heap.size U V) => hcall V (chain hbU hb)
    have HCALL := Lib.hid hcall2
    have mkS : ∀ z, Below W0.heap.size W0 z → z.cell? ⟨w.heap.size, 2, none⟩ = some (.slice (some ⟨g, off, none⟩) n d) ∧ z.rangeAt g (off + k * 3) [Value.int .u8 ((tagO o).toNat : Int), .slice A1 m1 c1, .slice B1 n1 d1] := fun z hz => ⟨(facts3 (row_on HSG.out hz)).2.2.2, fun j v hj => by
     rw [(chain HWU.out hz).cell (p := ⟨g, off + k * 3 + j, none⟩) HGW.out]
     exact HRG0.out j v hj⟩
    have hS0 : wr.drew.cell? ⟨w.heap.size, 2, none⟩ = some (.slice (some ⟨g, off, none⟩) n d) ∧ wr.drew.rangeAt g (off + k * 3) [Value.int .u8 ((tagO o).toNat : Int), .slice A1 m1 c1, .slice B1 n1 d1] := by rw [hU]; exact mkS _ HBU.out
    clear hbU hcall hcall2 HTX
    refine wp_region_held_drew (S := fun z => z.cell? ⟨w.heap.size, 2, none⟩ = some (.slice (some ⟨g, off, none⟩) n d) ∧ z.rangeAt g (off + k * 3) [Value.int .u8 ((tagO o).toNat : Int), .slice A1 m1 c1, .slice B1 n1 d1]) (by kernel_rfl) hS0 (fun hHeld => ?_)
    rw [hU] at hHeld ⊢
    clear hS0 hU
    refine wpAnyH_take (i := 0) (oi := { dst := some 19, op := .fieldAddr 68 (.tmp 3) 2, type := 0, pos := "ref.go:249", after := #[], guard := none }) (v := ?_) rfl (by kernel_rfl) (by kernel_rfl) (by kernel_rfl) (fun _ _ _ h => h) (Or.inl ⟨by rfl, ?_⟩) hHeld ?_
    rotate_left
    ·
     intro w hSw
     clear hSw
     go_simp
     try with_reducible rfl
    try simp only [Act.put, List.setIfInBounds_toArray, List.set_cons_zero, List.set_cons_succ]
    refine wpAnyH_take (i := 2) (oi := { dst := some 21, op := .fieldAddr 68 (.tmp 1) 2, type := 0, pos := "ref.go:249", after := #[], guard := none }) (v := ?_) rfl (by kernel_rfl) (by kernel_rfl) (by kernel_rfl) (fun _ _ _ h => h) (Or.inl ⟨by rfl, ?_⟩) hHeld ?_
    rotate_left
    ·
     intro w hSw
     clear hSw
     go_simp
     try with_reducible rfl
    try simp only [Act.put, List.setIfInBounds_toArray, List.set_cons_zero, List.set_cons_succ]
    refine wpAnyH_take (i := 3) (oi := { dst := some 22, op := .load 66 (.tmp 21), type := 66, pos := "ref.go:249", after := #[{ on := 2, ground := .data }], guard := none }) (v := ?_) rfl (by kernel_rfl) (by kernel_rfl) (by kernel_rfl) (fun _ _ _ h => h) (Or.inl ⟨by rfl, ?_⟩) hHeld ?_
    rotate_left
    ·
     intro w hSw
     have hfc0 := hSw.1
     clear hSw
     go_simp
     try with_reducible rfl
    try simp only [Act.put, List.setIfInBounds_toArray, List.set_cons_zero, List.set_cons_succ]
    refine wpAnyH_take (i := 4) (oi := { dst := some 23, op := .move (.tmp 4), type := 3, pos := "ref.go:249", after := #[], guard := none }) (v := ?_) rfl (by kernel_rfl) (by kernel_rfl) (by kernel_rfl) (fun _ _ _ h => h) (Or.inl ⟨by rfl, ?_⟩) hHeld ?_
    rotate_left
    ·
     intro w hSw
     clear hSw
     go_simp
     try with_reducible rfl
    try simp only [Act.put, List.setIfInBounds_toArray, List.set_cons_zero, List.set_cons_succ]
    refine wpAnyH_take (i := 5) (oi := { dst := some 24, op := .indexAddr 66 (.tmp 22) (.tmp 23), type := 0, pos := "ref.go:249", after := #[{ on := 3, ground := .data }, { on := 4, ground := .data }], guard := none }) (v := ?_) rfl (by kernel_rfl) (by kernel_rfl) (by kernel_rfl) (fun _ _ _ h => h) (Or.inl ⟨by rfl, ?_⟩) hHeld ?_
    rotate_left
    ·
     intro w hSw
     clear hSw
     go_simp
     try with_reducible rfl
    try simp only [Act.put, List.setIfInBounds_toArray, List.set_cons_zero, List.set_cons_succ]
    refine wpAnyH_take (i := 6) (oi := { dst := some 25, op := .load 68 (.tmp 24), type := 68, pos := "ref.go:249", after := #[{ on := 5, ground := .data }], guard := none }) (v := .agg [.int .u8 ((tagO o).toNat : Int), .slice A1 m1 c1, .slice B1 n1 d1].toArray) rfl (by kernel_rfl) (by kernel_rfl) (by kernel_rfl) (fun _ _ _ h => h) (yieldsIf_load_mid (by rfl) _ _ rfl _ _ rfl [Value.int .u8 ((tagO o).toNat : Int), .slice A1 m1 c1, .slice B1 n1 d1] _ (fun w hSw => hSw.2) Tryz.underlying68 rfl (sz3o _ _ _)) hHeld ?_
    try simp only [Act.put, List.setIfInBounds_toArray, List.set_cons_zero, List.set_cons_succ]
    refine wpAnyH_ready (rs := [1, 7]) (by kernel_rfl) (by simp) (AllReadyH.cons (o := { dst := some 20, op := .load 66 (.tmp 19), type := 66, pos := "ref.go:249", after := #[{ on := 0, ground := .data }], guard := none }) rfl (fun K hK => ?_) (AllReadyH.cons (o := { dst := some 26, op := .call { callee := .value (.func 126), args := #[.tmp 25], argTypes := #[68] }, type := 68, pos := "ref.go:249", after := #[{ on := 6, ground := .data }], guard := none }) rfl (fun K hK => ?_) AllReadyH.nil))
    ·
     have hq2 := (facts3 (row_on HSU.out.rg (Below.refl _ _))).2.2.2
     go_simp
     clear hq2
     refine hK.out _ _ (mkS _ (chain HBU.out (Below.refl _ _))) (fun hHeld2 => ?_)
     clear hK K hHeld
     have hHeld := hHeld2
     clear hHeld2
     try simp only [Act.put, List.setIfInBounds_toArray, List.set_cons_zero, List.set_cons_succ]
     refine wpAnyH_ready (rs := [7]) (by kernel_rfl) (by simp) (AllReadyH.cons (o := { dst := some 26, op := .call { callee := .value (.func 126), args := #[.tmp 25], argTypes := #[68] }, type := 68, pos := "ref.go:249", after := #[{ on := 6, ground := .data }], guard := none }) rfl (fun K hK => ?_) AllReadyH.nil)
     go_simp
     refine (HCALL.out _ (Below.refl _ _)).mono ?_
     rintro e z5 ⟨x, y, rfl, hat2, b5⟩
     have HAT := Lib.hid hat2
     have HONE := Lib.hid (oct_one hat2)
     obtain ⟨A2, m2, c2, B2, n2, d2, rfl, rfl⟩ := hat2.slices
     clear hat2
     go_simp
     refine hK.out _ _ (mkS _ (chain HBU.out b5)) (fun hHeld2 => ?_)
     clear hK K hHeld
     have hHeld := hHeld2
     clear hHeld2
     try simp only [Act.put, List.setIfInBounds_toArray, List.set_cons_zero, List.set_cons_succ]
     refine wpAnyH_ready (rs := [8]) (by kernel_rfl) (by simp) (AllReadyH.cons (o := { dst := some 27, op := .buildSlice 66 1 #[(0, .tmp 26)], type := 66, pos := "ref.go:249", after := #[{ on := 7, ground := .data }], guard := none }) rfl (fun K hK => ?_) AllReadyH.nil)
     go_simp
     generalize hq : World.alloc z5 _ = z6
     have r6 : z6 = z5.alloc (.cells #[.int .u8 ((tagO o).toNat : Int), .slice A2 m2 c2, .slice B2 n2 d2] 68) := hq.symm
     have n6 : Below z5.heap.size z5 z6 := by rw [r6]; exact below_new _ _
     have b6 : Below U.heap.size U z6 := chain b5 n6
     have q6 : ∀ j u, ([.int .u8 ((tagO o).toNat : Int), .slice A2 m2 c2, .slice B2 n2 d2] : List Value)[j]? = some u → z6.cell? ((⟨z5.heap.size, 0, none⟩ : Addr).add j) = some u := by rw [r6]; exact cell_three_new _ _ _ _ _
     clear hq r6
     refine hK.out _ _ (mkS _ (chain HBU.out b6)) (fun hHeld2 => ?_)
     clear hK K hHeld
     have hHeld := hHeld2
     clear hHeld2
     try simp only [Act.put, List.setIfInBounds_toArray, List.set_cons_zero, List.set_cons_succ]
     refine wpAnyH_ready (rs := [9]) (by kernel_rfl) (by simp) (AllReadyH.cons (o := { dst := some 28, op := .call { callee := .builtin .append, args := #[.tmp 20, .tmp 27], argTypes := #[66, 66] }, type := 66, pos := "ref.go:249", after := #[{ on := 1, ground := .data }, { on := 8, ground := .data }, { on := 7, ground := .chain }], guard := none }) rfl (fun K hK => ?_) AllReadyH.nil)
     try rw [if_pos (by rfl)]
     have hmk := HSU.out.lm.on b6
     refine wp_append_own_at8 (.tmp 20) (.tmp 27) rfl wc.heap.size _ _ _ rfl hmk.own ⟨z5.heap.size, 0, none⟩ 1 1 [.int .u8 ((tagO o).toNat : Int), .slice A2 m2 c2, .slice B2 n2 d2] rfl rfl q6 HONE.out (by have := HLT.out; omega) (by have h1 := HSU.out.sz; have h2 := b6.size; omega) ?_
     intro v7 z7 o7 g7 l7
     have hput := HSU.out.lm.put b6 HSU.out.sz (HAT.out.own n6 (Nat.le_refl _)) o7 g7 l7
     obtain ⟨A7, c7, rfl⟩ := own_sliceO o7
     have hlo := HSU.out.lm.own.lt
     have HS7 := Lib.hid (HSU.out.step b6 g7 (fun j hj => (hlo j hj).1) hput)
     have b7 : Below W0.heap.size W0 z7 := (chain HBU.out b6).grown g7 (chain HBU.out b6).size (fun j hj => by have h1 := (hlo j hj).1; have h2 := HW01.out; omega)
     clear g7 o7 l7 hput hlo hmk
     refine hK.out _ _ (mkS _ (b7)) (fun hHeld2 => ?_)
     clear hK K hHeld
     have hHeld := hHeld2
     clear hHeld2
     try simp only [Act.put, List.setIfInBounds_toArray, List.set_cons_zero, List.set_cons_succ]
     refine wpAnyH_take (i := 10) (oi := { dst := some 29, op := .fieldAddr 68 (.tmp 3) 2, type := 0, pos := "ref.go:249", after := #[{ on := 0, ground := .phase }, { on := 1, ground := .phase }, { on := 2, ground := .phase }, { on := 3, ground := .phase }, { on := 4, ground := .phase }, { on := 5, ground := .phase }, { on := 6, ground := .phase }, { on := 7, ground := .phase }, { on := 8, ground := .phase }, { on := 9, ground := .phase }], guard := none }) (v := ?_) rfl (by kernel_rfl) (by kernel_rfl) (by kernel_rfl) (fun _ _ _ h => h) (Or.inl ⟨by rfl, ?_⟩) hHeld ?_
     rotate_left
     ·
      intro w hSw
      clear hSw
      go_simp
      try with_reducible rfl
     try simp only [Act.put, List.setIfInBounds_toArray, List.set_cons_zero, List.set_cons_succ]
     refine wpAnyH_ready (rs := [11]) (by kernel_rfl) (by simp) (AllReadyH.cons (o := { dst := none, op := .store 66 (.tmp 29) (.tmp 28), type := 0, pos := "ref.go:249", after := #[{ on := 10, ground := .data }, { on := 9, ground := .data }, { on := 9, ground := .chain }, { on := 0, ground := .phase }, { on := 1, ground := .phase }, { on := 2, ground := .phase }, { on := 3, ground := .phase }, { on := 4, ground := .phase }, { on := 5, ground := .phase }, { on := 6, ground := .phase }, { on := 7, ground := .phase }, { on := 8, ground := .phase }, { on := 9, ground := .phase }], guard := none }) rfl (fun K hK => ?_) AllReadyH.nil)
     obtain ⟨⟨_, _, hf7⟩, _, _, hc7⟩ := facts3 HS7.out.1
     have hl7 := (Array.getElem?_eq_some_iff.1 HS7.out.1).1
     go_simp
     clear hf7 hc7 hl7
     have HS9 := Lib.hid HS7.out.2
     refine hK.out _ _ (mkS _ (b7.setCell HSB0.out _)) (fun hHeld2 => ?_)
     clear hK K hHeld hHeld2
     try simp only [Act.put, List.setIfInBounds_toArray, List.set_cons_zero, List.set_cons_succ]
     refine wpAnyH_done (by kernel_rfl) ?_ _
     generalize World.setCell _ _ _ = z9 at HS9 ⊢
     clear mkS
     go_wp2_with fail
     exact ⟨⟨k + 1, _, _, _, by have := HLT.out; omega, by go_num, Lib.hid (by rw [List.map_append, HM.out, HTK.out]; rfl), HS9⟩, by have := HLT.out; simp [intOf]; omega⟩
    ·
     go_simp
     refine (HCALL.out _ (Below.refl _ _)).mono ?_
     rintro e z5 ⟨x, y, rfl, hat2, b5⟩
     have HAT := Lib.hid hat2
     have HONE := Lib.hid (oct_one hat2)
     obtain ⟨A2, m2, c2, B2, n2, d2, rfl, rfl⟩ := hat2.slices
     clear hat2
     go_simp
     refine hK.out _ _ (mkS _ (chain HBU.out b5)) (fun hHeld2 => ?_)
     clear hK K hHeld
     have hHeld := hHeld2
     clear hHeld2
     try simp only [Act.put, List.setIfInBounds_toArray, List.set_cons_zero, List.set_cons_succ]
     refine wpAnyH_ready (rs := [1, 8]) (by kernel_rfl) (by simp) (AllReadyH.cons (o := { dst := some 20, op := .load 66 (.tmp 19), type := 66, pos := "ref.go:249", after := #[{ on := 0, ground := .data }], guard := none }) rfl (fun K hK => ?_) (AllReadyH.cons (o := { dst := some 27, op := .buildSlice 66 1 #[(0, .tmp 26)], type := 66, pos := "ref.go:249", after := #[{ on := 7, ground := .data }], guard := none }) rfl (fun K hK => ?_) AllReadyH.nil))
     ·
      have hq2 := (facts3 (row_on HSU.out.rg b5)).2.2.2
      go_simp
      clear hq2
      refine hK.out _ _ (mkS _ (chain HBU.out b5)) (fun hHeld2 => ?_)
      clear hK K hHeld
      have hHeld := hHeld2
      clear hHeld2
      try simp only [Act.put, List.setIfInBounds_toArray, List.set_cons_zero, List.set_cons_succ]
      refine wpAnyH_ready (rs := [8]) (by kernel_rfl) (by simp) (AllReadyH.cons (o := { dst := some 27, op := .buildSlice 66 1 #[(0, .tmp 26)], type := 66, pos := "ref.go:249", after := #[{ on := 7, ground := .data }], guard := none }) rfl (fun K hK => ?_) AllReadyH.nil)
      go_simp
      generalize hq : World.alloc z5 _ = z6
      have r6 : z6 = z5.alloc (.cells #[.int .u8 ((tagO o).toNat : Int), .slice A2 m2 c2, .slice B2 n2 d2] 68) := hq.symm
      have n6 : Below z5.heap.size z5 z6 := by rw [r6]; exact below_new _ _
      have b6 : Below U.heap.size U z6 := chain b5 n6
      have q6 : ∀ j u, ([.int .u8 ((tagO o).toNat : Int), .slice A2 m2 c2, .slice B2 n2 d2] : List Value)[j]? = some u → z6.cell? ((⟨z5.heap.size, 0, none⟩ : Addr).add j) = some u := by rw [r6]; exact cell_three_new _ _ _ _ _
      clear hq r6
      refine hK.out _ _ (mkS _ (chain HBU.out b6)) (fun hHeld2 => ?_)
      clear hK K hHeld
      have hHeld := hHeld2
      clear hHeld2
      try simp only [Act.put, List.setIfInBounds_toArray, List.set_cons_zero, List.set_cons_succ]
      refine wpAnyH_ready (rs := [9]) (by kernel_rfl) (by simp) (AllReadyH.cons (o := { dst := some 28, op := .call { callee := .builtin .append, args := #[.tmp 20, .tmp 27], argTypes := #[66, 66] }, type := 66, pos := "ref.go:249", after := #[{ on := 1, ground := .data }, { on := 8, ground := .data }, { on := 7, ground := .chain }], guard := none }) rfl (fun K hK => ?_) AllReadyH.nil)
      try rw [if_pos (by rfl)]
      have hmk := HSU.out.lm.on b6
      refine wp_append_own_at8 (.tmp 20) (.tmp 27) rfl wc.heap.size _ _ _ rfl hmk.own ⟨z5.heap.size, 0, none⟩ 1 1 [.int .u8 ((tagO o).toNat : Int), .slice A2 m2 c2, .slice B2 n2 d2] rfl rfl q6 HONE.out (by have := HLT.out; omega) (by have h1 := HSU.out.sz; have h2 := b6.size; omega) ?_
      intro v7 z7 o7 g7 l7
      have hput := HSU.out.lm.put b6 HSU.out.sz (HAT.out.own n6 (Nat.le_refl _)) o7 g7 l7
      obtain ⟨A7, c7, rfl⟩ := own_sliceO o7
      have hlo := HSU.out.lm.own.lt
      have HS7 := Lib.hid (HSU.out.step b6 g7 (fun j hj => (hlo j hj).1) hput)
      have b7 : Below W0.heap.size W0 z7 := (chain HBU.out b6).grown g7 (chain HBU.out b6).size (fun j hj => by have h1 := (hlo j hj).1; have h2 := HW01.out; omega)
      clear g7 o7 l7 hput hlo hmk
      refine hK.out _ _ (mkS _ (b7)) (fun hHeld2 => ?_)
      clear hK K hHeld
      have hHeld := hHeld2
      clear hHeld2
      try simp only [Act.put, List.setIfInBounds_toArray, List.set_cons_zero, List.set_cons_succ]
      refine wpAnyH_take (i := 10) (oi := { dst := some 29, op := .fieldAddr 68 (.tmp 3) 2, type := 0, pos := "ref.go:249", after := #[{ on := 0, ground := .phase }, { on := 1, ground := .phase }, { on := 2, ground := .phase }, { on := 3, ground := .phase }, { on := 4, ground := .phase }, { on := 5, ground := .phase }, { on := 6, ground := .phase }, { on := 7, ground := .phase }, { on := 8, ground := .phase }, { on := 9, ground := .phase }], guard := none }) (v := ?_) rfl (by kernel_rfl) (by kernel_rfl) (by kernel_rfl) (fun _ _ _ h => h) (Or.inl ⟨by rfl, ?_⟩) hHeld ?_
      rotate_left
      ·
       intro w hSw
       clear hSw
       go_simp
       try with_reducible rfl
      try simp only [Act.put, List.setIfInBounds_toArray, List.set_cons_zero, List.set_cons_succ]
      refine wpAnyH_ready (rs := [11]) (by kernel_rfl) (by simp) (AllReadyH.cons (o := { dst := none, op := .store 66 (.tmp 29) (.tmp 28), type := 0, pos := "ref.go:249", after := #[{ on := 10, ground := .data }, { on := 9, ground := .data }, { on := 9, ground := .chain }, { on := 0, ground := .phase }, { on := 1, ground := .phase }, { on := 2, ground := .phase }, { on := 3, ground := .phase }, { on := 4, ground := .phase }, { on := 5, ground := .phase }, { on := 6, ground := .phase }, { on := 7, ground := .phase }, { on := 8, ground := .phase }, { on := 9, ground := .phase }], guard := none }) rfl (fun K hK => ?_) AllReadyH.nil)
      obtain ⟨⟨_, _, hf7⟩, _, _, hc7⟩ := facts3 HS7.out.1
      have hl7 := (Array.getElem?_eq_some_iff.1 HS7.out.1).1
      go_simp
      clear hf7 hc7 hl7
      have HS9 := Lib.hid HS7.out.2
      refine hK.out _ _ (mkS _ (b7.setCell HSB0.out _)) (fun hHeld2 => ?_)
      clear hK K hHeld hHeld2
      try simp only [Act.put, List.setIfInBounds_toArray, List.set_cons_zero, List.set_cons_succ]
      refine wpAnyH_done (by kernel_rfl) ?_ _
      generalize World.setCell _ _ _ = z9 at HS9 ⊢
      clear mkS
      go_wp2_with fail
      exact ⟨⟨k + 1, _, _, _, by have := HLT.out; omega, by go_num, Lib.hid (by rw [List.map_append, HM.out, HTK.out]; rfl), HS9⟩, by have := HLT.out; simp [intOf]; omega⟩
     ·
      go_simp
      generalize hq : World.alloc z5 _ = z6
      have r6 : z6 = z5.alloc (.cells #[.int .u8 ((tagO o).toNat : Int), .slice A2 m2 c2, .slice B2 n2 d2] 68) := hq.symm
      have n6 : Below z5.heap.size z5 z6 := by rw [r6]; exact below_new _ _
      have b6 : Below U.heap.size U z6 := chain b5 n6
      have q6 : ∀ j u, ([.int .u8 ((tagO o).toNat : Int), .slice A2 m2 c2, .slice B2 n2 d2] : List Value)[j]? = some u → z6.cell? ((⟨z5.heap.size, 0, none⟩ : Addr).add j) = some u := by rw [r6]; exact cell_three_new _ _ _ _ _
      clear hq r6
      refine hK.out _ _ (mkS _ (chain HBU.out b6)) (fun hHeld2 => ?_)
      clear hK K hHeld
      have hHeld := hHeld2
      clear hHeld2
      try simp only [Act.put, List.setIfInBounds_toArray, List.set_cons_zero, List.set_cons_succ]
      refine wpAnyH_ready (rs := [1]) (by kernel_rfl) (by simp) (AllReadyH.cons (o := { dst := some 20, op := .load 66 (.tmp 19), type := 66, pos := "ref.go:249", after := #[{ on := 0, ground := .data }], guard := none }) rfl (fun K hK => ?_) AllReadyH.nil)
      have hq2 := (facts3 (row_on HSU.out.rg b6)).2.2.2
      go_simp
      clear hq2
      refine hK.out _ _ (mkS _ (chain HBU.out b6)) (fun hHeld2 => ?_)
      clear hK K hHeld
      have hHeld := hHeld2
      clear hHeld2
      try simp only [Act.put, List.setIfInBounds_toArray, List.set_cons_zero, List.set_cons_succ]
      refine wpAnyH_ready (rs := [9]) (by kernel_rfl) (by simp) (AllReadyH.cons (o := { dst := some 28, op := .call { callee := .builtin .append, args := #[.tmp 20, .tmp 27], argTypes := #[66, 66] }, type := 66, pos := "ref.go:249", after := #[{ on := 1, ground := .data }, { on := 8, ground := .data }, { on := 7, ground := .chain }], guard := none }) rfl (fun K hK => ?_) AllReadyH.nil)
      try rw [if_pos (by rfl)]
      have hmk := HSU.out.lm.on b6
      refine wp_append_own_at8 (.tmp 20) (.tmp 27) rfl wc.heap.size _ _ _ rfl hmk.own ⟨z5.heap.size, 0, none⟩ 1 1 [.int .u8 ((tagO o).toNat : Int), .slice A2 m2 c2, .slice B2 n2 d2] rfl rfl q6 HONE.out (by have := HLT.out; omega) (by have h1 := HSU.out.sz; have h2 := b6.size; omega) ?_
      intro v7 z7 o7 g7 l7
      have hput := HSU.out.lm.put b6 HSU.out.sz (HAT.out.own n6 (Nat.le_refl _)) o7 g7 l7
      obtain ⟨A7, c7, rfl⟩ := own_sliceO o7
      have hlo := HSU.out.lm.own.lt
      have HS7 := Lib.hid (HSU.out.step b6 g7 (fun j hj => (hlo j hj).1) hput)
      have b7 : Below W0.heap.size W0 z7 := (chain HBU.out b6).grown g7 (chain HBU.out b6).size (fun j hj => by have h1 := (hlo j hj).1; have h2 := HW01.out; omega)
      clear g7 o7 l7 hput hlo hmk
      refine hK.out _ _ (mkS _ (b7)) (fun hHeld2 => ?_)
      clear hK K hHeld
      have hHeld := hHeld2
      clear hHeld2
      try simp only [Act.put, List.setIfInBounds_toArray, List.set_cons_zero, List.set_cons_succ]
      refine wpAnyH_take (i := 10) (oi := { dst := some 29, op := .fieldAddr 68 (.tmp 3) 2, type := 0, pos := "ref.go:249", after := #[{ on := 0, ground := .phase }, { on := 1, ground := .phase }, { on := 2, ground := .phase }, { on := 3, ground := .phase }, { on := 4, ground := .phase }, { on := 5, ground := .phase }, { on := 6, ground := .phase }, { on := 7, ground := .phase }, { on := 8, ground := .phase }, { on := 9, ground := .phase }], guard := none }) (v := ?_) rfl (by kernel_rfl) (by kernel_rfl) (by kernel_rfl) (fun _ _ _ h => h) (Or.inl ⟨by rfl, ?_⟩) hHeld ?_
      rotate_left
      ·
       intro w hSw
       clear hSw
       go_simp
       try with_reducible rfl
      try simp only [Act.put, List.setIfInBounds_toArray, List.set_cons_zero, List.set_cons_succ]
      refine wpAnyH_ready (rs := [11]) (by kernel_rfl) (by simp) (AllReadyH.cons (o := { dst := none, op := .store 66 (.tmp 29) (.tmp 28), type := 0, pos := "ref.go:249", after := #[{ on := 10, ground := .data }, { on := 9, ground := .data }, { on := 9, ground := .chain }, { on := 0, ground := .phase }, { on := 1, ground := .phase }, { on := 2, ground := .phase }, { on := 3, ground := .phase }, { on := 4, ground := .phase }, { on := 5, ground := .phase }, { on := 6, ground := .phase }, { on := 7, ground := .phase }, { on := 8, ground := .phase }, { on := 9, ground := .phase }], guard := none }) rfl (fun K hK => ?_) AllReadyH.nil)
      obtain ⟨⟨_, _, hf7⟩, _, _, hc7⟩ := facts3 HS7.out.1
      have hl7 := (Array.getElem?_eq_some_iff.1 HS7.out.1).1
      go_simp
      clear hf7 hc7 hl7
      have HS9 := Lib.hid HS7.out.2
      refine hK.out _ _ (mkS _ (b7.setCell HSB0.out _)) (fun hHeld2 => ?_)
      clear hK K hHeld hHeld2
      try simp only [Act.put, List.setIfInBounds_toArray, List.set_cons_zero, List.set_cons_succ]
      refine wpAnyH_done (by kernel_rfl) ?_ _
      generalize World.setCell _ _ _ = z9 at HS9 ⊢
      clear mkS
      go_wp2_with fail
      exact ⟨⟨k + 1, _, _, _, by have := HLT.out; omega, by go_num, Lib.hid (by rw [List.map_append, HM.out, HTK.out]; rfl), HS9⟩, by have := HLT.out; simp [intOf]; omega⟩
   ·
    have hkk : k = n := by omega
    have HKK := Lib.hid hkk
    have hge : ¬ (k : Int) < (n : Int) := by omega
    have hlt0 : w.heap.size < wr.heap.size := by have h1 := HBR.out.size; have h2 := HLE.out; omega
    have HR2 := Lib.hid (row_on HRR.out HBR.out)
    have HBW := Lib.hid (chain HWU.out HBR.out)
    have hltR := (Array.getElem?_eq_some_iff.1 HR2.out).1
    obtain ⟨⟨hf0, hf1, hf2⟩, hd0, hd1, hd2⟩ := facts3 HR2.out
    have hlS := (Array.getElem?_eq_some_iff.1 HTX.out.rg).1
    obtain ⟨_, hs0, hs1, hs2⟩ := facts3 HTX.out.rg
    -- the bytes, and the whole, in the last world
    have hsb := HSB0.out
    have hwc : ∀ b, b < wc.heap.size → b ≠ SB → wr.heap[b]? = wc.heap[b]? := HTX.out.oth
    have hbytes : SrcAt A9 b wr := fun hne => by
     obtain ⟨g1, o1, e1, h1⟩ := HS9.out hne
     refine ⟨g1, o1, e1, fun j x hj => ?_⟩
     obtain ⟨⟨h2, cs, tt, h3⟩, h4⟩ := HW9.out g1 o1 e1
     have h5 := h1 j x hj
     have h6 := hwc g1 (Array.getElem?_eq_some_iff.1 h3).1 h4
     simp only [World.cell?, h6] at h5 ⊢
     exact h5
    have hrw : ∀ ga oa, A9 = some ⟨ga, oa, none⟩ → b ≠ [] → Rw U.heap.size wr ga := fun ga oa e _ => by
     obtain ⟨⟨h2, cs, tt, h3⟩, h4⟩ := HW9.out ga oa e
     exact ⟨h2, cs, tt, (hwc ga (Array.getElem?_eq_some_iff.1 h3).1 h4).trans h3⟩
    have hw01 := HW01.out
    have hlm := HTX.out.lm
    have htl : ts.length = l.length := by rw [hlm.len, hkk, HN.out]
    have hln : k = ts.length := hlm.len.symm
    have how := hlm.own
    rw [hln] at how
    obtain ⟨B2, d2, hv2, hfin⟩ := at_of_rows (base := U.heap.size) t (own_base8 how hw01) (fun u hu => (hlm.done u hu).to fun g p x hx hR => ⟨hx, by have := hR.1; omega, hR.2⟩) (by rw [htl, HN.out]; have := HL.out; omega) HC9.out (by have := HBL.out; omega) HN9.out hbytes hrw
    rw [HM.out, hkk, List.take_of_length_le (by rw [HN.out]; exact Nat.le_refl _)] at hfin
    rw [← hln] at hfin
    have HFIN := Lib.hid hfin
    clear hkk hlt hsb hwc hbytes hrw hw01 hlm htl hln how hv2 hfin
    go_wp2_with fail
    have e9 : ∀ a b c : Value, ((wr.setCell ⟨w.heap.size + 1, 0, none⟩ a).setCell ⟨w.heap.size + 1, 1, none⟩ b).setCell ⟨w.heap.size + 1, 2, none⟩ c = wr.setCells (w.heap.size + 1) 0 [a, b, c] := fun _ _ _ => rfl
    rw [e9]
    refine bodyPost_ret (v := .agg #[.int .u8 (t.toNat : Int), .slice A9 b.length c9, .slice PB k pd]) (results_cell_row rfl _ _ (w.heap.size + 1) 68 _ (0, 0) _ rfl (row_setCells8 HR2.out rfl) Tryz.underlying68 rfl (sz3o _ _ _)) rfl ⟨_, _, rfl, ?_, ?_⟩
    ·
     exact at_setCells HFIN.out HLE.out (by have := HLE.out; omega) _ _
    ·
     exact below_setCells8 _ _ _ HBW.out (by omega)
theorem twin_ref8 : ∀ (n : Nat) (o : Oct), cnt o ≤ n → n ≤ 5000 → tot o ≤ 100000 → ∀ (V : World) (x y : Value), At (fun _ => True) V o x y → Calls Tryz.prog 126 #[.agg (cell3 o x y)] V (TwPost o V) := fun n => by
 induction n with
 | zero => intro o h; cases o; rw [cnt] at h; omega
 | succ n ih =>
  intro o h hn ht
  cases o with
  | mk t b l =>
   rw [cnt] at h
   rw [tot] at ht
   have hl := len_cnts l
   exact twin_ref_of t b l (by omega) (by omega) (fun k o ho V x y hat => ih o (by have := cnt_le l o (List.mem_of_getElem? ho); omega) (by omega) (by have := tot_le l o (List.mem_of_getElem? ho); omega) V x y hat)
end Go.Proofs.YtcgffkkfeimifaaGreatDoor
namespace Go.Proofs.YtcgffkkfeimifaaGreatDoor
open Go.RowKit Sha Oc
set_option linter.unusedVariables false
set_option linter.unusedSimpArgs false
theorem range3o {w : World} {g o : Nat} {a b c : Value} (h0 : w.cell? ⟨g, o, none⟩ = some a) (h1 : w.cell? ⟨g, o + 1, none⟩ = some b) (h2 : w.cell? ⟨g, o + 2, none⟩ = some c) : w.rangeAt g o [a, b, c] := fun j v hj => by
 match j, hj with
 | 0, hj => obtain rfl := Option.some.inj hj; exact h0
 | 1, hj => obtain rfl := Option.some.inj hj; exact h1
 | 2, hj => obtain rfl := Option.some.inj hj; exact h2
theorem range_on8 {g o : Nat} {w V : World} {cs : List Value} (h : w.rangeAt g o cs) (hb : Below w.heap.size w V) : V.rangeAt g o cs := fun j v hv => by
 have h1 := h j v hv
 rw [hb.cell (p := ⟨g, o + j, none⟩) (World.block_lt_of_cell? _ _ h1)]
 exact h1
theorem heap_alloc2_old8 (w : World) (o1 o2 : Obj) : ((w.alloc o1).alloc o2).heap[w.heap.size]? = some o1 := by
 rw [Below.heap_alloc _ _ _ (by simp)]
 exact heap_alloc_new w o1
theorem heap_alloc2_new8 (w : World) (o1 o2 : Obj) : ((w.alloc o1).alloc o2).heap[w.heap.size + 1]? = some o2 := by
 have := heap_alloc_new (w.alloc o1) o2
 simpa using this
end Go.Proofs.YtcgffkkfeimifaaGreatDoor
namespace Go.Proofs.YtcgffkkfeimifaaGreatDoor
open Go.RowKit Sha Oc
set_option linter.unusedVariables false
set_option linter.unusedSimpArgs false
theorem cnt_pos (o : Oct) : 1 ≤ cnt o := by
 cases o
 rw [cnt]
 omega
theorem cnts_snoc : ∀ (l : List Oct) (o : Oct), cnts (l ++ [o]) = cnts l + cnt o
 | [], o => by rw [List.nil_append, cnts, cnts, cnts]; omega
 | x :: r, o => by rw [List.cons_append, cnts, cnts_snoc r o, cnts]; omega
end Go.Proofs.YtcgffkkfeimifaaGreatDoor
namespace Go.Proofs.YtcgffkkfeimifaaGreatDoor
open Go.RowKit Sha Oc
set_option linter.unusedVariables false
set_option linter.unusedSimpArgs false
end Go.Proofs.YtcgffkkfeimifaaGreatDoor
namespace Go.Proofs.YtcgffkkfeimifaaGreatDoor
open Go.RowKit Sha Oc
set_option linter.unusedVariables false
set_option linter.unusedSimpArgs false
end Go.Proofs.YtcgffkkfeimifaaGreatDoor
namespace Go.Proofs.YtcgffkkfeimifaaGreatDoor
open Go.RowKit Sha Oc
set_option linter.unusedVariables false
set_option linter.unusedSimpArgs false
end Go.Proofs.YtcgffkkfeimifaaGreatDoor
namespace Go.Proofs.YtcgffkkfeimifaaGreatDoor
open Go.RowKit Sha Oc
set_option linter.unusedVariables false
set_option linter.unusedSimpArgs false
end Go.Proofs.YtcgffkkfeimifaaGreatDoor
namespace Go.Proofs.YtcgffkkfeimifaaGreatDoor
open Go.RowKit Sha Oc
set_option linter.unusedVariables false
set_option linter.unusedSimpArgs false
end Go.Proofs.YtcgffkkfeimifaaGreatDoor
