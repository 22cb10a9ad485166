import Derived.Test.YthfgdgcdicacpaaOcMem
namespace Go.Proofs.Ythfgdgcdicacpaa
open Go.RowKit Sha Oc
set_option linter.unusedVariables false
set_option linter.unusedSimpArgs false
theorem Try.info_oct : (Try.prog.info? 63).map (fun i => (i.zero, i.size, i.bytes)) = some (some (.agg #[.int .u8 0, .slice none 0 0, .slice none 0 0]), 3, 56) := by kernel_rfl
theorem Oc.At.slices {R : Nat → Prop} {w : World} {o : Oct} {x y : Value} (h : At R w o x y) : ∃ A m c B n d, x = .slice A m c ∧ y = .slice B n d := by
 cases h with
 | mk t b l A c B d g off vb vl => exact ⟨A, _, c, B, _, d, rfl, rfl⟩
theorem cell_three_new (w : World) (a b c : Value) (t : TypeId) : ∀ j u, ([a, b, c] : List Value)[j]? = some u → (w.alloc (.cells #[a, b, c] t)).cell? ((⟨w.heap.size, 0, none⟩ : Addr).add j) = some u := fun j u hj => by
 rw [add_eq, Nat.zero_add, cell_of_row _ _ _ _ _ _ (heap_alloc_new w _), List.getElem?_toArray]
 exact hj
theorem oct_one {R : Nat → Prop} {w : World} {o : Oct} {x y : Value} (h : At R w o x y) : ∀ u ∈ ([.int .u8 ((tagO o).toNat : Int), x, y] : List Value), u.oneCell' = true := fun u hu => by
 obtain ⟨A, m, c, B, n, d, rfl, rfl⟩ := h.slices
 simp at hu
 rcases hu with rfl | rfl | rfl <;> rfl
structure Els (w : World) (B : Option Addr) (l : List Oct) (g off : Nat) (vb vl : Nat → Value) : Prop where
 hB : l ≠ [] → B = some ⟨g, off, none⟩
 h0 : ∀ (k : Nat) (o : Oct), l[k]? = some o → w.cell? ⟨g, off + k * 3, none⟩ = some (.int .u8 ((tagO o).toNat : Int))
 h1 : ∀ (k : Nat) (o : Oct), l[k]? = some o → w.cell? ⟨g, off + k * 3 + 1, none⟩ = some (vb k)
 h2 : ∀ (k : Nat) (o : Oct), l[k]? = some o → w.cell? ⟨g, off + k * 3 + 2, none⟩ = some (vl k)
 hr : ∀ (k : Nat) (o : Oct), l[k]? = some o → At (fun _ => True) w o (vb k) (vl k)
theorem Els.on {w V : World} {B : Option Addr} {l : List Oct} {g off : Nat} {vb vl : Nat → Value} (h : Els w B l g off vb vl) (hb : Below w.heap.size w V) : Els V B l g off vb vl := by
 have hk : ∀ (p : Nat) (u : Value), w.cell? ⟨g, p, none⟩ = some u → V.cell? ⟨g, p, none⟩ = some u := fun p u h => by
  rw [hb.cell (p := ⟨g, p, none⟩) (World.block_lt_of_cell? _ _ h)]
  exact h
 exact ⟨h.hB, fun k o hx => hk _ _ (h.h0 k o hx), fun k o hx => hk _ _ (h.h1 k o hx), fun k o hx => hk _ _ (h.h2 k o hx), fun k o hx => (h.hr k o hx).on hb⟩
theorem Oc.At.els {w : World} {t : UInt8} {b : List UInt8} {l : List Oct} {x y : Value} (h : At (fun _ => True) w (.mk t b l) x y) : ∃ A c B d g off vb vl, x = .slice A b.length c ∧ y = .slice B l.length d ∧ b.length ≤ c ∧ b.length ≤ 140737488355328 ∧ (A = none → c = 0) ∧ SrcAt A b w ∧ l.length ≤ d ∧ (B = none → d = 0) ∧ Els w B l g off vb vl := by
 cases h with
 | mk t b l A c B d g off vb vl hc hbm hcn hs hA hd hlm hdn hB h0 h1 h2 hr => exact ⟨A, c, B, d, g, off, vb, vl, rfl, rfl, hc, hbm, hcn, hs, hd, hdn, fun h => (hB h).1, h0, h1, h2, hr⟩
theorem at_of_rows {base : Nat} {w : World} {v : Value} {ts : List (Oct × Value × Value)} (t : UInt8) {b : List UInt8} {A : Option Addr} {c : Nat} (hown : w.ownsRow base 63 3 v ts.length (rowT ts)) (hel : ∀ u ∈ ts, At (Rw base w) w u.1 u.2.1 u.2.2) (hlen : ts.length ≤ 140737488355328)
  (hc : b.length ≤ c) (hbm : b.length ≤ 140737488355328) (hcn : A = none → c = 0) (hs : SrcAt A b w) (hA : ∀ ga oa, A = some ⟨ga, oa, none⟩ → b ≠ [] → Rw base w ga) :
  ∃ B d, v = .slice B ts.length d ∧ At (Rw base w) w (.mk t b (ts.map (·.1))) (.slice A b.length c) v := by
 have hll : (ts.map (·.1)).length = ts.length := List.length_map _
 obtain ⟨h1, ⟨rfl, h2⟩ | ⟨g, cap, cur, rfl, h3, h4, h5, h6, h7, h8⟩⟩ := hown
 ·
  have hts : ts = [] := List.length_eq_zero_iff.1 h2
  subst hts
  exact ⟨none, 0, rfl, .mk t b [] A c none 0 0 0 (fun _ => undef) (fun _ => undef) hc hbm hcn hs hA (Nat.le_refl _) (by decide) (fun _ => rfl) (fun h => absurd rfl h) (fun k o h => by simp at h) (fun k o h => by simp at h) (fun k o h => by simp at h) (fun k o h => by simp at h)⟩
 ·
  have hget : ∀ (k : Nat) (o : Oct), (ts.map (·.1))[k]? = some o → ∃ u, ts[k]? = some u ∧ u.1 = o := fun k o hk => by
   rw [List.getElem?_map] at hk
   exact Option.map_eq_some_iff.1 hk
  have hcell : ∀ (p : Nat) (u : Value), (rowT ts)[p]? = some u → w.cell? ⟨g, p, none⟩ = some u := fun p u hp => by
   rw [cell_of_row _ _ _ _ _ _ h4, ← Array.getElem?_toList]
   have hq : (cur.toList.take (ts.length * 3))[p]? = some u := by rw [h8]; exact hp
   rw [List.getElem?_take] at hq
   split at hq
   ·
    exact hq
   ·
    cases hq
  have hm := At.mk (R := Rw base w) (w := w) t b (ts.map (·.1)) A c (some ⟨g, 0, none⟩) cap g 0 (fun k => (ts.getD k (default, undef, undef)).2.1) (fun k => (ts.getD k (default, undef, undef)).2.2) hc hbm hcn hs hA (by rw [hll]; exact h5) (by rw [hll]; exact hlen) (fun e => by cases e) (fun _ => ⟨rfl, h3, cur, _, h4⟩)
   (fun k o hk => by obtain ⟨u, hu, rfl⟩ := hget k o hk; rw [Nat.zero_add]; exact hcell _ _ (rowT_at ts k u hu).1)
   (fun k o hk => by obtain ⟨u, hu, rfl⟩ := hget k o hk; rw [Nat.zero_add, List.getD_eq_getElem?_getD, hu]; exact hcell _ _ (rowT_at ts k u hu).2.1)
   (fun k o hk => by obtain ⟨u, hu, rfl⟩ := hget k o hk; rw [Nat.zero_add, List.getD_eq_getElem?_getD, hu]; exact hcell _ _ (rowT_at ts k u hu).2.2)
   (fun k o hk => by obtain ⟨u, hu, rfl⟩ := hget k o hk; rw [List.getD_eq_getElem?_getD, hu]; exact hel u (List.mem_of_getElem? hu))
  rw [hll] at hm
  exact ⟨_, _, rfl, hm⟩
def TwPost (o : Oct) (w : World) (e : Ending) (w' : World) : Prop := ∃ x y, e = .returned (.agg (cell3 o x y)) ∧ At (Rw w.heap.size w') w' o x y ∧ Below w.heap.size w w'
def TwsPost (l : List Oct) (w : World) (e : Ending) (w' : World) : Prop := ∃ v ts, e = .returned v ∧ ts.map (·.1) = l ∧ w'.ownsRow w.heap.size 63 3 v l.length (rowT ts) ∧ (∀ t ∈ ts, At (Rw w.heap.size w') w' t.1 t.2.1 t.2.2) ∧ Below w.heap.size w w'
structure Mk (base : Nat) (ts : List (Oct × Value × Value)) (v : Value) (n : Nat) (V : World) : Prop where
 own : V.ownsRow base 63 3 v n (rowT ts)
 len : ts.length = n
 els : ∀ t ∈ ts, At (fun g => Rw base V g ∧ v.ownBlock ≠ some g) V t.1 t.2.1 t.2.2
theorem Mk.on {base n : Nat} {ts : List (Oct × Value × Value)} {v : Value} {V U : World} (h : Mk base ts v n V) (hb : Below V.heap.size V U) : Mk base ts v n U :=
 ⟨h.own.kept (row := none) ⟨hb.os, hb.tape, hb.output, hb.size, fun k hk _ => hb.block k hk⟩ (by cases v.ownBlock <;> simp), h.len, fun t ht => (h.els t ht).to fun g p u hu hR => ⟨by rw [hb.cell (p := ⟨g, p, none⟩) (World.block_lt_of_cell? _ _ hu)]; exact hu, ⟨hR.1.1, by
  obtain ⟨_, cs, t, h3⟩ := hR.1
  exact ⟨cs, t, (hb.block _ (Array.getElem?_eq_some_iff.1 h3).1).trans h3⟩⟩, hR.2⟩⟩
theorem Mk.put {base n : Nat} {ts : List (Oct × Value × Value)} {v v' : Value} {V0 V U : World} {o : Oct} {x y : Value} (h : Mk base ts v n V0) (hb0 : Below V0.heap.size V0 V) (hbase : base ≤ V0.heap.size) (hx : At (Rw V0.heap.size V) V o x y) (hown : U.ownsRow base 63 3 v' (n + 1) (rowT ts ++ [.int .u8 ((tagO o).toNat : Int), x, y])) (hg : V.grownBy U v.ownBlock) (hloc : v'.ownBlock = v.ownBlock ∨ v'.ownBlock = some V.heap.size) :
  Mk base (ts ++ [(o, x, y)]) v' (n + 1) U := by
 have hlt := h.own.lt
 have h1 := h.on hb0
 have keep : ∀ (g : Nat), (v.ownBlock ≠ some g) → ∀ (p : Nat) (u : Value), V.cell? ⟨g, p, none⟩ = some u → U.cell? ⟨g, p, none⟩ = some u ∧ (Rw base V g → Rw base U g ∧ v'.ownBlock ≠ some g) := fun g hne p u hu => by
  have hgl : g < V.heap.size := World.block_lt_of_cell? _ _ hu
  have hbk := hg.block g hgl (fun e => hne e.symm)
  refine ⟨by simp only [World.cell?, hbk] at hu ⊢; exact hu, fun hR => ⟨⟨hR.1, ?_⟩, ?_⟩⟩
  ·
   obtain ⟨_, cs, t, h3⟩ := hR
   exact ⟨cs, t, hbk.trans h3⟩
  ·
   rcases hloc with e | e
   ·
    rw [e]; exact hne
   ·
    rw [e]
    intro e2
    have := Option.some.inj e2
    omega
 refine ⟨by rw [rowT_app]; exact hown, by rw [List.length_append, h.len]; rfl, fun t ht => ?_⟩
 rcases List.mem_append.1 ht with ht | ht
 ·
  exact (h1.els t ht).to fun g p u hu hR => ⟨(keep g hR.2 p u hu).1, (keep g hR.2 p u hu).2 hR.1⟩
 ·
  simp at ht
  subst ht
  refine hx.to fun g p u hu hR => ?_
  have hne : v.ownBlock ≠ some g := fun e => by have := (hlt g e).2; have := hR.1; omega
  exact ⟨(keep g hne p u hu).1, (keep g hne p u hu).2 ⟨by have := hR.1; omega, hR.2⟩⟩
theorem Mk.done {base n : Nat} {ts : List (Oct × Value × Value)} {v : Value} {V : World} (h : Mk base ts v n V) : ∀ t ∈ ts, At (Rw base V) V t.1 t.2.1 t.2.2 := fun t ht => (h.els t ht).to fun g p u hu hR => ⟨hu, hR.1⟩
theorem mk_none (base : Nat) (V : World) : Mk base [] (.slice none 0 0) 0 V := ⟨⟨rfl, .inl ⟨rfl, rfl⟩⟩, rfl, fun t ht => by cases ht⟩
set_option maxRecDepth 100000 in
set_option maxHeartbeats 2000000 in
theorem twins_of (l : List Oct) (hlen : l.length ≤ 5000) (hT : ∀ (k : Nat) (o : Oct), l[k]? = some o → ∀ (V : World) (x y : Value), At (fun _ => True) V o x y → Calls Try.prog 95 #[.agg (cell3 o x y)] V (TwPost o V))
  (B : Option Addr) (d g off : Nat) (vb vl : Nat → Value) (w : World) (he : Els w B l g off vb vl) : Calls Try.prog 77 #[.slice B l.length d] w (TwsPost l w) := by
 obtain ⟨i0, hi, hz0, hz1, hz2⟩ := info_parts Try.info_oct
 have HI := Lib.hid hi
 obtain ⟨n, hn⟩ : ∃ n, l.length = n := ⟨_, rfl⟩
 have HTT := Lib.hid hT
 have HE := Lib.hid he
 have HN := Lib.hid hn
 rw [hn] at hlen ⊢
 have HL := Lib.hid hlen
 clear hT he hn hi hlen
 go_enter Try.func77, Try.ntmps77
 go_wp2_with fail
 go_loopw [3, 5, 8] (fun v _ i wr => ∃ (k : Nat) (ts : List (Oct × Value × Value)), k ≤ n ∧ i = .int .i64 (k : Int) ∧ RowKit.Hid (ts.map (·.1) = l.take k) ∧ RowKit.Hid (Mk w.heap.size ts v k wr) ∧ RowKit.Hid (Below w.heap.size w wr)) (fun _ _ i _ => n - (intOf i).toNat)
 case atStart => exact ⟨0, [], by omega, rfl, Lib.hid (by simp), Lib.hid (mk_none _ _), Lib.hid (Below.refl _ _)⟩
 case round =>
  obtain ⟨k, ts, hk, rfl, HM, HK, HB⟩ := hrel
  by_cases hlt : k < n
  ·
   have hki : (k : Int) < (n : Int) := by omega
   have hh5 := HL.out
   obtain ⟨o, ho⟩ : ∃ o, l[k]? = some o := ⟨_, List.getElem?_eq_getElem (by rw [HN.out]; exact hlt)⟩
   have hne : l ≠ [] := fun e => by rw [e] at ho; simp at ho
   have hBB := HE.out.hB hne
   subst hBB
   have hew := HE.out.on HB.out
   have hc0 := hew.h0 k o ho
   have hc1 := hew.h1 k o ho
   have hc2 := hew.h2 k o ho
   have hat := hew.hr k o ho
   obtain ⟨A1, m1, c1, B1, n1, d1, e1, e2⟩ := hat.slices
   rw [e1] at hc1 hat
   rw [e2] at hc2 hat
   have hcall := fun (V : World) (hb : Below wr.heap.size wr V) => HTT.out k o ho V _ _ (hat.on hb)
   unfold TwPost at hcall
   have HCALL := Lib.hid hcall
   have HTK : RowKit.Hid (l.take (k + 1) = l.take k ++ [o]) := Lib.hid (by rw [List.take_add_one, ho]; rfl)
   have HLT := Lib.hid hlt
   clear hne hew hat hcall ho e1 e2
   go_wp2_with fail
   refine (HCALL.out _ (below_new _ _)).mono ?_
   rintro e w2 ⟨x, y, rfl, hat2, hb2⟩
   have hbw : Below wr.heap.size wr w2 := (below_new wr _).trans (hb2.mono (by simp))
   have HBW := Lib.hid hbw
   have HAT : RowKit.Hid (At (Rw wr.heap.size w2) w2 o x y) := Lib.hid (hat2.to fun g p u hu hR => ⟨hu, by have := hR.1; rw [World.size_alloc] at this; omega, hR.2⟩)
   have HONE := Lib.hid (oct_one hat2)
   obtain ⟨A2, m2, c2, B2, n2, d2, rfl, rfl⟩ := hat2.slices
   have hbs := HB.out.size
   have hbs2 := hbw.size
   have HBS : RowKit.Hid (w.heap.size ≤ w2.heap.size) := Lib.hid (by omega)
   clear hb2 hat2 hbw hc0 hc1 hc2 hbs hbs2
   go_wp2_with (at_builtin; go_loud (refine wpList_append_own_at _ rfl (.tmp 12) (.tmp 15) 61 rfl w.heap.size 63 i0 (.agg #[.int .u8 0, .slice none 0 0, .slice none 0 0]) 3 56 Try.underlying61 HI.out hz0 hz1 hz2 rfl (by decide) _ _ _ rfl (((HK.out.on HBW.out).own).alloc _) ⟨w2.heap.size, 0, none⟩ 1 1 [.int .u8 ((tagO o).toNat : Int), .slice A2 m2 c2, .slice B2 n2 d2] rfl rfl (cell_three_new _ _ _ _ _) HONE.out (by have := HLT.out; unfold maxLen; omega) (by have := HLT.out; omega) (by have := HBS.out; rw [World.size_alloc]; omega) ?_); intro v' w5 hown5 hgrow5 _ hloc5; have HO5 := Lib.hid hown5; have HG5 := Lib.hid hgrow5; have HL5 := Lib.hid hloc5; clear hown5 hgrow5 hloc5)
   have hb3 : Below wr.heap.size wr (w2.alloc (.cells #[.int .u8 ((tagO o).toNat : Int), .slice A2 m2 c2, .slice B2 n2 d2] 63)) := HBW.out.alloc HBW.out.size _
   have hat3 : At (Rw wr.heap.size (w2.alloc (.cells #[.int .u8 ((tagO o).toNat : Int), .slice A2 m2 c2, .slice B2 n2 d2] 63))) (w2.alloc (.cells #[.int .u8 ((tagO o).toNat : Int), .slice A2 m2 c2, .slice B2 n2 d2] 63)) o (.slice A2 m2 c2) (.slice B2 n2 d2) := HAT.out.own (below_new _ _) (Nat.le_refl _)
   have hput := HK.out.put hb3 HB.out.size hat3 HO5.out HG5.out HL5.out
   have hlo := HK.out.own.lt
   have hb4 : Below w.heap.size w w5 := ((chain HB.out HBW.out).alloc HBS.out _).grown HG5.out (by rw [World.size_alloc]; have := HBS.out; omega) (fun j hj => (hlo j hj).1)
   refine ⟨⟨k + 1, ts ++ [(o, .slice A2 m2 c2, .slice B2 n2 d2)], by have := HLT.out; omega, by go_num, Lib.hid ?_, Lib.hid hput, Lib.hid hb4⟩, by have := HLT.out; simp [intOf]; omega⟩
   rw [List.map_append, HM.out, HTK.out]
   rfl
  ·
   have hkk : k = n := by omega
   have HKK := Lib.hid hkk
   have hge : ¬ (k : Int) < (n : Int) := by omega
   clear hkk
   go_wp2_with fail
   go_ret
   refine ⟨_, ts, rfl, ?_, ?_, HK.out.done, HB.out⟩
   ·
    rw [HM.out, HKK.out, List.take_of_length_le (by rw [HN.out]; exact Nat.le_refl _)]
   ·
    rw [HN.out, ← HKK.out]; exact HK.out.own
end Go.Proofs.Ythfgdgcdicacpaa
