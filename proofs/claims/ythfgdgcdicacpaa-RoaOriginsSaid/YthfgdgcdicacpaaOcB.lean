import Derived.Test.YthfgdgcdicacpaaOcA
import Derived.Deep.MidRow
namespace Go.Proofs.Ythfgdgcdicacpaa
open Go.RowKit Sha Oc
set_option linter.unusedVariables false
set_option linter.unusedSimpArgs false
theorem run_src (w : World) (ty : TypeId) (base : Nat) (v : Value) (n : Nat) (xs : List Value) (hown : w.ownsRow base 5 1 v n xs) (A : Option Addr) (L : List UInt8) (c m : Nat) (hm : L.length = m) (hA : A = none → c = 0) (hsrc : SrcAt A L w) (h63 : n + m ≤ 1000000000) (hbase : base ≤ w.heap.size) :
  ∃ v' w', (Builtin.append_ #[26, 26] ty #[v, .slice A m c]).run Try.prog w = .ok v' w' ∧ w'.ownsRow base 5 1 v' (n + m) (xs ++ bvals L) ∧ w.grownBy w' v.ownBlock ∧ (v'.ownBlock = v.ownBlock ∨ v'.ownBlock = some w.heap.size) := by
 obtain ⟨i0, hi, hz0, hz1, hz2⟩ := info_parts Try.info_byte
 subst hm
 cases A with
 | none =>
  have hL : L = [] := by
   cases L with
   | nil => rfl
   | cons x r =>
    obtain ⟨g, o, e, _⟩ := hsrc (by simp)
    cases e
  subst hL
  obtain rfl := hA rfl
  exact ⟨v, w, run_append_owned_none (P := Try.prog) (w := w) base 26 ty 5 i0 1 Try.underlying26 hi v n xs hown, by simpa [bvals] using hown, World.grownBy.refl _ _, .inl rfl⟩
 | some ad =>
  have hcells : ∀ j u, (bvals L)[j]? = some u → w.cell? (ad.add j) = some u := fun j u hj => by
   unfold bvals at hj
   rw [List.getElem?_map] at hj
   obtain ⟨y, hy, rfl⟩ := Option.map_eq_some_iff.1 hj
   obtain ⟨g, o, e, hc⟩ := hsrc (fun e => by rw [e] at hy; simp at hy)
   obtain rfl := Option.some.inj e
   rw [add_eq]
   exact hc j y hy
  obtain ⟨v', w', h0, h1, h2, _, h3⟩ := run_append_own_at (P := Try.prog) w base 26 ty 5 i0 (.int .u8 0) 1 1 Try.underlying26 hi hz0 hz1 hz2 rfl (by decide) v n xs hown ad L.length c (bvals L) (by rw [bvals_len, Nat.mul_one]) hcells (fun u hu => by
   unfold bvals at hu
   obtain ⟨x, _, rfl⟩ := List.mem_map.1 hu
   rfl) (by unfold maxLen; omega) (by omega) hbase
  exact ⟨v', w', h0, h1, h2, h3⟩
theorem wp_append_src {w : World} {o : Oper} {a : Act} {K : Act → World → Prop} {Q : Exit → Act → World → Prop} (s x : Operand)
  (ho : o.op = .call { callee := .builtin .append, args := #[s, x], argTypes := #[26, 26] }) (base : Nat) (v : Value) (n : Nat) (xs : List Value) (hs : a.eval s = v) (hown : w.ownsRow base 5 1 v n xs)
  (A : Option Addr) (L : List UInt8) (c m : Nat) (hm : L.length = m) (hx : a.eval x = .slice A m c) (hA : A = none → c = 0) (hsrc : SrcAt A L w) (h63 : n + m ≤ 1000000000) (hbase : base ≤ w.heap.size)
  (h : ∀ v' w', w'.ownsRow base 5 1 v' (n + m) (xs ++ bvals L) → w.grownBy w' v.ownBlock → (v'.ownBlock = v.ownBlock ∨ v'.ownBlock = some w.heap.size) → K (a.put o.dst v') w') : o.wp Try.prog a w K Q := by
 obtain ⟨v', w', hr, h1, h2, h3⟩ := run_src w o.type base v n xs hown A L c m hm hA hsrc h63 hbase
 unfold Oper.wp execOp
 simp only [ho, resolve, invoke, builtin, Sem.run_bind, Sem.run_pure, Result.andThen_ok, List.map_toArray, List.map_cons, List.map_nil, hs, hx, hr]
 exact h v' w' h1 h2 h3
theorem own_rd3 {w : World} {base : Nat} {v : Value} {l : List UInt8} (h : w.ownsRow base 5 1 v l.length (bvals l)) :
  ∃ A c, v = .slice A l.length c ∧ l.length ≤ c ∧ (A = none → c = 0) ∧ SrcAt A l w ∧ ∀ ga oa, A = some ⟨ga, oa, none⟩ → Rw base w ga := by
 obtain ⟨A, c, rfl, h1, h2, h3, h4⟩ := own_rd2 h
 refine ⟨A, c, rfl, h1, h3, h4, fun ga oa e => ?_⟩
 obtain ⟨_, ⟨h5, _⟩ | ⟨g, cap, cur, h5, h6, h7, _⟩⟩ := h
 ·
  rw [e] at h5; cases h5
 ·
  rw [e] at h5
  have e2 := (Value.slice.inj h5).1
  have e3 := Option.some.inj e2
  obtain rfl : ga = g := congrArg Addr.block e3
  exact ⟨h6, cur, _, h7⟩
theorem own_base8 {w : World} {b b' : Nat} {T : TypeId} {k n : Nat} {v : Value} {xs : List Value} (h : w.ownsRow b T k v n xs) (hb : b' ≤ b) : w.ownsRow b' T k v n xs := by
 obtain ⟨h1, h2 | ⟨g, cap, cur, h3, h4, h5⟩⟩ := h
 ·
  exact ⟨h1, .inl h2⟩
 ·
  exact ⟨h1, .inr ⟨g, cap, cur, h3, by omega, h5⟩⟩
theorem Oc.Rw.on8 {b g : Nat} {w V : World} (h : Rw b w g) (hb : Below w.heap.size w V) : Rw b V g := by
 obtain ⟨h1, cs, t, h2⟩ := h
 exact ⟨h1, cs, t, row_on h2 hb⟩
theorem sz3o (x y z : Value) : (Try.prog.info? 63).map (·.size) = some (#[x, y, z] : Array Value).size := by
 show _ = some 3
 kernel_rfl
theorem there_row8 {w : World} {g : Nat} {cur : Array Value} {T : TypeId} (h : w.heap[g]? = some (.cells cur T (0, 0))) (n : Nat) (hn : n ≤ cur.size) : w.there g 0 n := fun j hj => by
 rw [Nat.zero_add]
 refine ⟨?_, frozen_of_row _ _ _ _ _ h⟩
 rw [cell_of_row _ _ _ _ _ _ h, Array.getElem?_eq_getElem (by omega)]
 simp
theorem below_setCells8 {n g : Nat} {u : World} : ∀ (vs : List Value) (o : Nat) (w : World), Below n u w → n ≤ g → Below n u (w.setCells g o vs)
 | [], _, _, h, _ => h
 | v :: r, o, w, h, hn => by
  rw [World.setCells]
  exact below_setCells8 r (o + 1) _ (h.setCell hn v) hn
theorem heap_setCells_other8 {g b : Nat} : ∀ (vs : List Value) (o : Nat) (w : World), b ≠ g → (w.setCells g o vs).heap[b]? = w.heap[b]?
 | [], _, _, _ => rfl
 | v :: r, o, w, h => by
  rw [World.setCells, heap_setCells_other8 r (o + 1) _ h]
  exact Below.heap_setCell _ _ _ _ h
theorem row_setCells8 {w : World} {g : Nat} {a b c x y z : Value} {cs : Array Value} {T : TypeId} (h : w.heap[g]? = some (.cells #[a, b, c] T (0, 0))) (hcs : cs = #[x, y, z]) : (w.setCells g 0 [x, y, z]).heap[g]? = some (.cells cs T (0, 0)) := by
 subst hcs
 have h1 : (w.setCell ⟨g, 0, none⟩ x).heap[g]? = some (.cells #[x, b, c] T (0, 0)) := heap_setCell_same _ _ _ _ _ _ h
 have h2 : ((w.setCell ⟨g, 0, none⟩ x).setCell ⟨g, 1, none⟩ y).heap[g]? = some (.cells #[x, y, c] T (0, 0)) := heap_setCell_same _ _ _ _ _ _ h1
 exact heap_setCell_same _ _ _ _ _ _ h2
theorem at_setCells {b b' X : Nat} {w : World} {o : Oct} {x y : Value} (h : At (Rw b w) w o x y) (hX : X < b) (hb : b' ≤ b) (k : Nat) (vs : List Value) : At (Rw b' (w.setCells X k vs)) (w.setCells X k vs) o x y :=
 h.to fun g p u hu hR => by
  have hne : g ≠ X := by have := hR.1; omega
  have hk := heap_setCells_other8 vs k w hne
  obtain ⟨h1, cs, t, h2⟩ := hR
  exact ⟨by simp only [World.cell?, hk] at hu ⊢; exact hu, by omega, cs, t, hk.trans h2⟩
theorem len_cnts : ∀ l : List Oct, l.length ≤ cnts l
 | [] => Nat.zero_le _
 | v :: r => by
  have := len_cnts r
  cases v with
  | mk t b l => rw [cnts, cnt, List.length_cons]; omega
theorem cnt_le : ∀ (l : List Oct), ∀ v ∈ l, cnt v ≤ cnts l
 | [], _, h => by cases h
 | x :: r, v, h => by
  rw [cnts]
  rcases List.mem_cons.1 h with rfl | h
  ·
   omega
  ·
   have := cnt_le r v h
   omega
theorem tot_le : ∀ (l : List Oct), ∀ v ∈ l, tot v ≤ tots l
 | [], _, h => by cases h
 | x :: r, v, h => by
  rw [tots]
  rcases List.mem_cons.1 h with rfl | h
  ·
   omega
  ·
   have := tot_le r v h
   omega
set_option maxRecDepth 100000 in
set_option maxHeartbeats 4000000 in
theorem twin_of (t : UInt8) (b : List UInt8) (l : List Oct) (hbl : b.length ≤ 100000) (hll : l.length ≤ 5000) (hTs : ∀ (B : Option Addr) (d g off : Nat) (vb vl : Nat → Value) (V : World), Els V B l g off vb vl → Calls Try.prog 77 #[.slice B l.length d] V (TwsPost l V))
  (w : World) (x y : Value) (hat : At (fun _ => True) w (.mk t b l) x y) : Calls Try.prog 95 #[.agg (cell3 (.mk t b l) x y)] w (TwPost (.mk t b l) w) := by
 obtain ⟨A, c, B, d, g, off, vb, vl, rfl, rfl, hc, _, hcn, hs, hd, hdn, he⟩ := hat.els
 have TS := Lib.hid hTs
 have HCN := Lib.hid hcn
 have HSRC := Lib.hid hs
 have HE := Lib.hid he
 have HBL := Lib.hid hbl
 have HLL := Lib.hid hll
 show Calls Try.prog 95 #[.agg #[.int .u8 (t.toNat : Int), .slice A b.length c, .slice B l.length d]] w (TwPost (.mk t b l) w)
 clear hTs hcn hs he hat hbl hll hc hd hdn
 go_enter Try.func95, Try.ntmps95
 go_upto_region 1 with (fail)
 generalize hV : World.alloc (World.alloc w _) _ = V
 have hb0 : Below w.heap.size w V := by rw [← hV]; exact (below_new _ _).alloc (by simp) _
 have hr0 : V.heap[w.heap.size]? = some (.cells #[.int .u8 (t.toNat : Int), .slice A b.length c, .slice B l.length d] 63 (0, 0)) := by rw [← hV]; rw [Below.heap_alloc _ _ _ (by simp)]; exact heap_alloc_new _ _
 have hr1 : V.heap[w.heap.size + 1]? = some (.cells #[.int .u8 0, .slice none 0 0, .slice none 0 0] 63 (0, 0)) := by rw [← hV]; have h := heap_alloc_new (w.alloc (.cells #[.int .u8 (t.toNat : Int), .slice A b.length c, .slice B l.length d] 63)) (.cells #[.int .u8 0, .slice none 0 0, .slice none 0 0] 63); simpa using h
 obtain ⟨U, hU⟩ : ∃ U, V.drew = U := ⟨_, rfl⟩
 have hbU : Below V.heap.size V U := by rw [← hU]; exact (Below.refl _ _).drew
 have HWU := Lib.hid (chain hb0 hbU)
 have HSG := Lib.hid (row_on hr0 hbU)
 have HRR := Lib.hid (row_on hr1 hbU)
 have HLE : RowKit.Hid (w.heap.size + 1 < U.heap.size) := Lib.hid (Array.getElem?_eq_some_iff.1 HRR.out).1
 have mkS : ∀ z, Below U.heap.size U z → z.cell? ⟨w.heap.size, 0, none⟩ = some (.int .u8 (t.toNat : Int)) ∧ z.cell? ⟨w.heap.size, 1, none⟩ = some (.slice A b.length c) ∧ z.cell? ⟨w.heap.size, 2, none⟩ = some (.slice B l.length d) := fun z hz => (facts3 (row_on HSG.out hz)).2
 have hS0 : V.drew.cell? ⟨w.heap.size, 0, none⟩ = some (.int .u8 (t.toNat : Int)) ∧ V.drew.cell? ⟨w.heap.size, 1, none⟩ = some (.slice A b.length c) ∧ V.drew.cell? ⟨w.heap.size, 2, none⟩ = some (.slice B l.length d) := by rw [hU]; exact mkS _ (Below.refl _ _)
 clear hV hb0 hr0 hr1 hbU
 refine wp_region_held_drew (S := fun z => z.cell? ⟨w.heap.size, 0, none⟩ = some (.int .u8 (t.toNat : Int)) ∧ z.cell? ⟨w.heap.size, 1, none⟩ = some (.slice A b.length c) ∧ z.cell? ⟨w.heap.size, 2, none⟩ = some (.slice B l.length d)) (by kernel_rfl) hS0 (fun hHeld => ?_)
 rw [hU] at hHeld ⊢
 clear hS0 hU
 refine wpAnyH_take (i := 0) (oi := { dst := some 3, op := .fieldAddr 63 (.tmp 1) 0, type := 0, pos := "octet.go:100", after := #[], guard := none }) (v := ?_) rfl (by kernel_rfl) (by kernel_rfl) (by kernel_rfl) (fun _ _ _ h => h) (Or.inl ⟨by rfl, ?_⟩) hHeld ?_
 rotate_left
 ·
  intro w hSw
  clear hSw
  go_simp
  try with_reducible rfl
 try simp only [Act.put, List.setIfInBounds_toArray, List.set_cons_zero, List.set_cons_succ]
 refine wpAnyH_take (i := 1) (oi := { dst := some 4, op := .load 5 (.tmp 3), type := 5, pos := "octet.go:100", after := #[{ on := 0, ground := .data }], guard := none }) (v := ?_) rfl (by kernel_rfl) (by kernel_rfl) (by kernel_rfl) (fun _ _ _ h => h) (Or.inl ⟨by rfl, ?_⟩) hHeld ?_
 rotate_left
 ·
  intro w hSw
  have hfc0 := hSw.1
  clear hSw
  go_simp
  try with_reducible rfl
 try simp only [Act.put, List.setIfInBounds_toArray, List.set_cons_zero, List.set_cons_succ]
 refine wpAnyH_take (i := 2) (oi := { dst := some 5, op := .fieldAddr 63 (.tmp 1) 1, type := 0, pos := "octet.go:100", after := #[], guard := none }) (v := ?_) rfl (by kernel_rfl) (by kernel_rfl) (by kernel_rfl) (fun _ _ _ h => h) (Or.inl ⟨by rfl, ?_⟩) hHeld ?_
 rotate_left
 ·
  intro w hSw
  clear hSw
  go_simp
  try with_reducible rfl
 try simp only [Act.put, List.setIfInBounds_toArray, List.set_cons_zero, List.set_cons_succ]
 refine wpAnyH_take (i := 3) (oi := { dst := some 6, op := .load 26 (.tmp 5), type := 26, pos := "octet.go:100", after := #[{ on := 2, ground := .data }], guard := none }) (v := ?_) rfl (by kernel_rfl) (by kernel_rfl) (by kernel_rfl) (fun _ _ _ h => h) (Or.inl ⟨by rfl, ?_⟩) hHeld ?_
 rotate_left
 ·
  intro w hSw
  have hfc0 := hSw.2.1
  clear hSw
  go_simp
  try with_reducible rfl
 try simp only [Act.put, List.setIfInBounds_toArray, List.set_cons_zero, List.set_cons_succ]
 refine wpAnyH_take (i := 5) (oi := { dst := some 8, op := .fieldAddr 63 (.tmp 1) 2, type := 0, pos := "octet.go:100", after := #[], guard := none }) (v := ?_) rfl (by kernel_rfl) (by kernel_rfl) (by kernel_rfl) (fun _ _ _ h => h) (Or.inl ⟨by rfl, ?_⟩) hHeld ?_
 rotate_left
 ·
  intro w hSw
  clear hSw
  go_simp
  try with_reducible rfl
 try simp only [Act.put, List.setIfInBounds_toArray, List.set_cons_zero, List.set_cons_succ]
 refine wpAnyH_take (i := 6) (oi := { dst := some 9, op := .load 61 (.tmp 8), type := 61, pos := "octet.go:100", after := #[{ on := 5, ground := .data }], guard := none }) (v := ?_) rfl (by kernel_rfl) (by kernel_rfl) (by kernel_rfl) (fun _ _ _ h => h) (Or.inl ⟨by rfl, ?_⟩) hHeld ?_
 rotate_left
 ·
  intro w hSw
  have hfc0 := hSw.2.2
  clear hSw
  go_simp
  try with_reducible rfl
 try simp only [Act.put, List.setIfInBounds_toArray, List.set_cons_zero, List.set_cons_succ]
 refine wpAnyH_ready (rs := [4]) (by kernel_rfl) (by simp) (AllReadyH.cons (o := { dst := some 7, op := .call { callee := .builtin .append, args := #[.const (.slice none 0 0), .tmp 6], argTypes := #[26, 26] }, type := 26, pos := "octet.go:100", after := #[{ on := 3, ground := .data }], guard := none }) rfl (fun K hK => ?_) AllReadyH.nil)
 try rw [if_pos (by rfl)]
 refine wp_append_src (.const (.slice none 0 0)) (.tmp 6) rfl U.heap.size _ 0 [] rfl ⟨rfl, Or.inl ⟨rfl, rfl⟩⟩ A b c _ rfl rfl HCN.out (HSRC.out.on HWU.out) (by have := HBL.out; omega) (Nat.le_refl _) ?_
 intro v1 z1 o1 g1 _
 have b1 : Below U.heap.size U z1 := (Below.refl _ _).grown g1 (Nat.le_refl _) (fun j hj => by cases hj)
 obtain ⟨A1, c1, rfl, hc1, hn1, hs1, hw1⟩ := own_rd3 (by rw [Nat.zero_add, List.nil_append] at o1; exact o1)
 clear o1 g1
 refine hK.out _ _ (mkS _ b1) (fun hHeld2 => ?_)
 clear hK K hHeld
 have hHeld := hHeld2
 clear hHeld2
 try simp only [Act.put, List.setIfInBounds_toArray, List.set_cons_zero, List.set_cons_succ]
 refine wpAnyH_ready (rs := [7]) (by kernel_rfl) (by simp) (AllReadyH.cons (o := { dst := some 10, op := .call { callee := .value (.func 77), args := #[.tmp 9], argTypes := #[61] }, type := 61, pos := "octet.go:100", after := #[{ on := 6, ground := .data }, { on := 4, ground := .chain }], guard := none }) rfl (fun K hK => ?_) AllReadyH.nil)
 go_simp
 refine (TS.out B d g off vb vl z1 (HE.out.on (chain HWU.out b1))).mono ?_
 rintro e z2 ⟨v2, ts, rfl, hts, o2, e2, hb2⟩
 have b2 : Below U.heap.size U z2 := chain b1 hb2
 have o2l := o2
 rw [← hts, List.length_map] at o2l
 have hsz1 := b1.size
 obtain ⟨B2, d2, rfl, hat⟩ := at_of_rows (base := U.heap.size) t (own_base8 o2l hsz1) (fun u hu => (e2 u hu).to fun g p u hu hR => ⟨hu, by have := hR.1; omega, hR.2⟩) (by rw [← List.length_map (f := Prod.fst), hts]; have := HLL.out; omega) hc1 (by have := HBL.out; omega) hn1 (hs1.on hb2) (fun ga oa e hne => (hw1 ga oa e).on8 hb2)
 rw [hts] at hat
 have htl : ts.length = l.length := by rw [← hts, List.length_map]
 rw [htl] at hat
 clear o2 o2l e2
 go_simp
 refine hK.out _ _ (mkS _ b2) (fun hHeld2 => ?_)
 clear hK K hHeld
 have hHeld := hHeld2
 clear hHeld2
 try simp only [Act.put, List.setIfInBounds_toArray, List.set_cons_zero, List.set_cons_succ]
 refine wpAnyH_take (i := 8) (oi := { dst := some 11, op := .build 63 #[(0, .tmp 4), (1, .tmp 7), (2, .tmp 10)], type := 63, pos := "octet.go:100", after := #[{ on := 1, ground := .data }, { on := 4, ground := .data }, { on := 7, ground := .data }], guard := none }) (v := ?_) rfl (by kernel_rfl) (by kernel_rfl) (by kernel_rfl) (fun _ _ _ h => h) (Or.inl ⟨by rfl, ?_⟩) hHeld ?_
 rotate_left
 ·
  intro w hSw
  clear hSw
  go_simp
  try with_reducible rfl
 try simp only [Act.put, List.setIfInBounds_toArray, List.set_cons_zero, List.set_cons_succ]
 refine wpAnyH_ready (rs := [9]) (by kernel_rfl) (by simp) (AllReadyH.cons (o := { dst := none, op := .store 63 (.tmp 2) (.tmp 11), type := 0, pos := "octet.go:100", after := #[{ on := 8, ground := .data }, { on := 7, ground := .chain }, { on := 0, ground := .phase }, { on := 1, ground := .phase }, { on := 2, ground := .phase }, { on := 3, ground := .phase }, { on := 4, ground := .phase }, { on := 5, ground := .phase }, { on := 6, ground := .phase }, { on := 7, ground := .phase }, { on := 8, ground := .phase }], guard := none }) rfl (fun K hK => ?_) AllReadyH.nil)
 try rw [if_pos (by rfl)]
 have HR3 := Lib.hid (row_on HRR.out b2)
 refine wp_store_mid 63 (.tmp 2) (.tmp 11) rfl (w.heap.size + 1) 0 #[.int .u8 (t.toNat : Int), .slice A1 b.length c1, .slice B2 l.length d2] rfl (by rw [← htl]; rfl) (there_row8 HR3.out 3 (by decide)) (sz3o _ _ _) (by simp [Value.oneCell']) ?_
 have HR4 := Lib.hid (row_setCells8 HR3.out (cs := #[.int .u8 (t.toNat : Int), .slice A1 b.length c1, .slice B2 l.length d2]) rfl)
 have HB4 := Lib.hid (below_setCells8 [.int .u8 (t.toNat : Int), .slice A1 b.length c1, .slice B2 l.length d2] 0 _ (chain HWU.out b2) (show w.heap.size ≤ w.heap.size + 1 by omega))
 have HAT := Lib.hid (at_setCells hat (X := w.heap.size + 1) (b' := w.heap.size) HLE.out (by have := HLE.out; omega) 0 [.int .u8 (t.toNat : Int), .slice A1 b.length c1, .slice B2 l.length d2])
 refine hK.out _ _ (facts3 ((heap_setCells_other8 _ _ _ (by omega)).trans (row_on HSG.out b2))).2 (fun hHeld2 => ?_)
 clear hK K hHeld hHeld2
 try simp only [Act.put, List.setIfInBounds_toArray, List.set_cons_zero, List.set_cons_succ]
 refine wpAnyH_done (by kernel_rfl) ?_ _
 generalize World.setCells _ _ _ _ = z9 at HR4 HB4 HAT ⊢
 clear mkS
 go_wp2_with fail
 refine bodyPost_ret (v := .agg #[.int .u8 (t.toNat : Int), .slice A1 b.length c1, .slice B2 l.length d2]) (results_cell_row rfl _ _ (w.heap.size + 1) 63 _ (0, 0) _ rfl HR4.out Try.underlying63 rfl (sz3o _ _ _)) rfl ⟨_, _, rfl, HAT.out, HB4.out⟩
theorem twin_all : ∀ (n : Nat) (o : Oct), cnt o ≤ n → n ≤ 5000 → tot o ≤ 100000 → ∀ (V : World) (x y : Value), At (fun _ => True) V o x y → Calls Try.prog 95 #[.agg (cell3 o x y)] V (TwPost o V) := fun n => by
 induction n with
 | zero => intro o h; cases o; rw [cnt] at h; omega
 | succ n ih =>
  intro o h hn ht
  cases o with
  | mk t b l =>
   rw [cnt] at h
   rw [tot] at ht
   have hl := len_cnts l
   exact twin_of t b l (by omega) (by omega) (fun B d g off vb vl V he => twins_of l (by omega) (fun k o ho V x y hat => ih o (by have := cnt_le l o (List.mem_of_getElem? ho); omega) (by omega) (by have := tot_le l o (List.mem_of_getElem? ho); omega) V x y hat) B d g off vb vl V he)
theorem twins_all (l : List Oct) (h1 : cnts l ≤ 5000) (h2 : tots l ≤ 100000) (B : Option Addr) (d g off : Nat) (vb vl : Nat → Value) (w : World) (he : Els w B l g off vb vl) : Calls Try.prog 77 #[.slice B l.length d] w (TwsPost l w) :=
 twins_of l (by have := len_cnts l; omega) (fun k o ho V x y hat => twin_all 5000 o (by have := cnt_le l o (List.mem_of_getElem? ho); omega) (Nat.le_refl _) (by have := tot_le l o (List.mem_of_getElem? ho); omega) V x y hat) B d g off vb vl w he
end Go.Proofs.Ythfgdgcdicacpaa
