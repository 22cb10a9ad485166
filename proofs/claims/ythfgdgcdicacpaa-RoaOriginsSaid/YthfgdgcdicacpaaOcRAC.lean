import Derived.Test.YthfgdgcdicacpaaOcRX
import Derived.Maps.Range
import Derived.WalkLawsBesides
import Derived.RangeFuncNested
import Derived.RangeFuncBound
import Derived.RangeFuncCalls
import Derived.RangeFuncLeaves
import Derived.Shelf.Abstract
import Derived.OwnWalkIn
import Derived.TacticsInMore
import Derived.LoopNIn
import Derived.LoopIn
namespace Go.Proofs.Ythfgdgcdicacpaa
open Go.RowKit Sha Oc
set_option linter.unusedVariables false
set_option linter.unusedSimpArgs false
structure ElsR (R : Nat → Prop) (w : World) (B : Option Addr) (l : List Oct) (g off : Nat) (vb vl : Nat → Value) : Prop where
 hB : l ≠ [] → B = some ⟨g, off, none⟩ ∧ R g
 h0 : ∀ (k : Nat) (o : Oct), l[k]? = some o → w.cell? ⟨g, off + k * 3, none⟩ = some (.int .u8 ((tagO o).toNat : Int))
 h1 : ∀ (k : Nat) (o : Oct), l[k]? = some o → w.cell? ⟨g, off + k * 3 + 1, none⟩ = some (vb k)
 h2 : ∀ (k : Nat) (o : Oct), l[k]? = some o → w.cell? ⟨g, off + k * 3 + 2, none⟩ = some (vl k)
 hr : ∀ (k : Nat) (o : Oct), l[k]? = some o → At R w o (vb k) (vl k)
theorem Oc.At.elsR {R : Nat → Prop} {w : World} {t : UInt8} {b : List UInt8} {l : List Oct} {x y : Value} (h : At R w (.mk t b l) x y) : ∃ A c B d g off vb vl, x = .slice A b.length c ∧ y = .slice B l.length d ∧ b.length ≤ c ∧ b.length ≤ 140737488355328 ∧ (A = none → c = 0) ∧ SrcAt A b w ∧ (∀ ga oa, A = some ⟨ga, oa, none⟩ → b ≠ [] → R ga) ∧ l.length ≤ d ∧ (B = none → d = 0) ∧ ElsR R w B l g off vb vl := by
 cases h with
 | mk t b l A c B d g off vb vl hc hbm hcn hs hA hd hlm hdn hB h0 h1 h2 hr => exact ⟨A, c, B, d, g, off, vb, vl, rfl, rfl, hc, hbm, hcn, hs, hA, hd, hdn, hB, h0, h1, h2, hr⟩
theorem Oc.At.low {base : Nat} {w V : World} {o : Oct} {x y : Value} (h : At (fun g => g < base) w o x y) (hb : Below base w V) : At (fun g => g < base) V o x y :=
 h.to fun g p u hu hR => ⟨by rw [hb.cell (p := ⟨g, p, none⟩) hR]; exact hu, hR⟩
theorem ElsR.low {base : Nat} {w V : World} {B : Option Addr} {l : List Oct} {g off : Nat} {vb vl : Nat → Value} (h : ElsR (fun g => g < base) w B l g off vb vl) (hb : Below base w V) : ElsR (fun g => g < base) V B l g off vb vl := by
 have hg : ∀ (k : Nat) (o : Oct), l[k]? = some o → g < base := fun k o hk => (h.hB (fun e => by rw [e] at hk; simp at hk)).2
 exact ⟨h.hB, fun k o hx => (hb.cell (p := ⟨g, _, none⟩) (hg k o hx)).trans (h.h0 k o hx), fun k o hx => (hb.cell (p := ⟨g, _, none⟩) (hg k o hx)).trans (h.h1 k o hx), fun k o hx => (hb.cell (p := ⟨g, _, none⟩) (hg k o hx)).trans (h.h2 k o hx), fun k o hx => (h.hr k o hx).low hb⟩
theorem Oc.At.lower {w : World} {base : Nat} {o : Oct} {x y : Value} (h : At (fun _ => True) w o x y) (hb : w.heap.size ≤ base) : At (fun g => g < base) w o x y :=
 h.to fun g p u hu _ => ⟨hu, Nat.lt_of_lt_of_le (World.block_lt_of_cell? _ _ hu) hb⟩
theorem srcAt_low {base : Nat} {A : Option Addr} {b : List UInt8} {w V : World} (hs : SrcAt A b w) (hA : ∀ ga oa, A = some ⟨ga, oa, none⟩ → b ≠ [] → ga < base) (hb : Below base w V) : SrcAt A b V := fun hne => by
 obtain ⟨g, o, e, hc⟩ := hs hne
 exact ⟨g, o, e, fun j x hj => (hb.cell (p := ⟨g, _, none⟩) (hA g o e hne)).trans (hc j x hj)⟩
theorem sizs_app : ∀ (l r : List Oct), sizs (l ++ r) = sizs l + sizs r
 | [], r => by rw [List.nil_append, sizs]; omega
 | x :: q, r => by rw [List.cons_append, sizs, sizs_app q r, sizs]; omega
theorem encs_snoc : ∀ (l : List Oct) (o : Oct), encs (l ++ [o]) = encs l ++ enc o
 | [], o => by rw [List.nil_append, encs, encs, encs, List.append_nil, List.nil_append]
 | x :: r, o => by rw [List.cons_append, encs, encs_snoc r o, encs, List.append_assoc]
structure Grw (base : Nat) (V : World) (ov : Value) (w' : World) (v' : Value) (n : Nat) (xs : List Value) : Prop where
 own : w'.ownsRow base 5 1 v' n xs
 grown : V.grownBy w' ov.ownBlock
 loc : v'.ownBlock = ov.ownBlock ∨ ∃ k, v'.ownBlock = some k ∧ V.heap.size ≤ k
theorem Grw.refl {base n : Nat} {V : World} {ov : Value} {xs : List Value} (h : V.ownsRow base 5 1 ov n xs) : Grw base V ov V ov n xs := ⟨h, World.grownBy.refl _ _, .inl rfl⟩
theorem Grw.trans {base n m : Nat} {V w1 w2 : World} {ov v1 v2 : Value} {xs ys : List Value} (h : Grw base V ov w1 v1 n xs) (k : Grw base w1 v1 w2 v2 m ys) : Grw base V ov w2 v2 m ys := by
 refine ⟨k.own, h.grown.andThen k.grown fun j hj => ?_, ?_⟩
 ·
  rcases h.loc with e | ⟨i, e, hi⟩
  ·
   exact .inr (by rw [← e]; exact hj)
  ·
   rw [e] at hj
   obtain rfl := Option.some.inj hj
   exact .inl hi
 ·
  rcases k.loc with e | ⟨i, e, hi⟩
  ·
   rw [e]
   exact h.loc
  ·
   exact .inr ⟨i, e, Nat.le_trans h.grown.size hi⟩
theorem Grw.on {base n : Nat} {V w1 w2 : World} {ov v1 : Value} {xs : List Value} (h : Grw base V ov w1 v1 n xs) (hb : Below w1.heap.size w1 w2) : Grw base V ov w2 v1 n xs :=
 h.trans ⟨h.own.kept (row := none) ⟨hb.os, hb.tape, hb.output, hb.size, fun k hk _ => hb.block k hk⟩ (by cases v1.ownBlock <;> simp), ⟨hb.os, hb.tape, hb.output, hb.size, fun k hk _ => hb.block k hk⟩, .inl rfl⟩
theorem Grw.below {base n m : Nat} {ys : List Value} {V w' : World} {ov v' : Value} {xs : List Value} (h : Grw base V ov w' v' n xs) (hV : V.ownsRow base 5 1 ov m ys) (hb : base ≤ V.heap.size) : Below base V w' :=
 (Below.refl base V).grown h.grown hb fun k hk => (own_ge hV hk).1
theorem Grw.row {base n : Nat} {V w' : World} {ov v' : Value} {xs : List Value} (h : Grw base V ov w' v' n xs) {X : Nat} {o : Obj} (hX : V.heap[X]? = some o) (hne : some X ≠ ov.ownBlock) : w'.heap[X]? = some o :=
 (h.grown.block X (Array.getElem?_eq_some_iff.1 hX).1 hne).trans hX
theorem Grw.far {base n : Nat} {V w' : World} {ov v' : Value} {xs : List Value} (h : Grw base V ov w' v' n xs) {X : Nat} (hlt : X < V.heap.size) (hne : some X ≠ ov.ownBlock) : some X ≠ v'.ownBlock := by
 rcases h.loc with e | ⟨i, e, hi⟩
 ·
  rw [e]; exact hne
 ·
  rw [e]
  intro e2
  have := Option.some.inj e2
  omega
theorem append_src_at {w : World} {ops : Array Oper} {rest : List Oper} {o : Oper} {a : Act} {Q : Exit → Act → World → Prop} (hgd : o.guard = none) (s x : Operand)
  (ho : o.op = .call { callee := .builtin .append, args := #[s, x], argTypes := #[26, 26] }) (base : Nat) (v : Value) (n : Nat) (xs : List Value) (hs : a.eval s = v) (hown : w.ownsRow base 5 1 v n xs)
  (A : Option Addr) (L : List UInt8) (c m : Nat) (hm : L.length = m) (hx : a.eval x = .slice A m c) (hA : A = none → c = 0) (hsrc : SrcAt A L w) (h63 : n + m ≤ 1000000000) (hbase : base ≤ w.heap.size)
  (h : ∀ v' w', Grw base w v w' v' (n + m) (xs ++ bvals L) → wpList Try.prog ops Q rest (a.put o.dst v') w') : wpList Try.prog ops Q (o :: rest) a w := by
 obtain ⟨i0, hi, hz0, hz1, hz2⟩ := info_parts Try.info_byte
 subst hm
 cases A with
 | none =>
  have hL : L = [] := by
   by_cases e : L = []
   ·
    exact e
   ·
    obtain ⟨g, o, e2, _⟩ := hsrc e
    cases e2
  subst hL
  obtain rfl := hA rfl
  exact wpList_append_own_none hgd s x 26 ho base 5 i0 1 Try.underlying26 hi v n xs hs hown hx (h v w ⟨by simpa [bvals] using hown, World.grownBy.refl _ _, .inl rfl⟩)
 | some ad =>
  refine wpList_append_own_at _ hgd s x 26 ho base 5 i0 (.int .u8 0) 1 1 Try.underlying26 hi hz0 hz1 hz2 rfl (by decide) v n xs hs hown ad L.length c (bvals L) hx (by rw [bvals_len, Nat.mul_one]) ?_ ?_ (by unfold maxLen; omega) (by omega) hbase (fun v' w' h1 h2 _ h4 => h v' w' ⟨h1, h2, h4.imp id fun e => ⟨_, e, Nat.le_refl _⟩⟩)
  ·
   intro j u hj
   unfold bvals at hj
   rw [List.getElem?_map] at hj
   obtain ⟨y, hy, rfl⟩ := Option.map_eq_some_iff.1 hj
   obtain ⟨g, o, e, hc⟩ := hsrc (by intro e; rw [e] at hy; simp at hy)
   obtain rfl := Option.some.inj e
   rw [add_eq]
   exact hc j y hy
  ·
   intro v hv
   unfold bvals at hv
   obtain ⟨x, _, rfl⟩ := List.mem_map.1 hv
   rfl
structure Gbx (base : Nat) (w : World) (ov : Value) (X : Nat) (o : Obj) (W : World) (v : Value) (n : Nat) (xs : List Value) : Prop where
 g : Grw base w ov W v n xs
 row : W.heap[X]? = some o
 far : some X ≠ v.ownBlock
theorem Gbx.on {base n X : Nat} {w W W' : World} {ov v : Value} {o : Obj} {xs : List Value} (h : Gbx base w ov X o W v n xs) (hb : Below W.heap.size W W') : Gbx base w ov X o W' v n xs :=
 ⟨h.g.on hb, (hb.block X (Array.getElem?_eq_some_iff.1 h.row).1).trans h.row, h.far⟩
theorem Gbx.app {base n m X : Nat} {w W W' : World} {ov v v' : Value} {o : Obj} {xs ys : List Value} (h : Gbx base w ov X o W v n xs) (k : Grw base W v W' v' m ys) : Gbx base w ov X o W' v' m ys :=
 ⟨h.g.trans k, k.row h.row h.far, k.far (Array.getElem?_eq_some_iff.1 h.row).1 h.far⟩
def PtPost (o : Oct) (base : Nat) (ov : Value) (n : Nat) (xs : List Value) (V : World) (e : Ending) (w' : World) : Prop := ∃ v', e = .returned v' ∧ Grw base V ov w' v' (n + siz o) (xs ++ bvals (enc o))
set_option maxRecDepth 100000 in
set_option maxHeartbeats 8000000 in
theorem put_of (t : UInt8) (b : List UInt8) (l : List Oct) (hcn : cnt (.mk t b l) ≤ 5000) (htt : tot (.mk t b l) ≤ 100000)
  (hW : ∀ (k : Nat) (o : Oct), l[k]? = some o → ∀ (base : Nat) (V : World) (ov x y : Value) (n : Nat) (xs : List Value), base ≤ V.heap.size → n + siz o ≤ 900000 → At (fun g => g < base) V o x y → V.ownsRow base 5 1 ov n xs → Calls Try.prog 46 #[ov, .agg (cell3 o x y)] V (PtPost o base ov n xs V))
  (base : Nat) (w : World) (ov x y : Value) (n0 : Nat) (xs : List Value) (hbase : base ≤ w.heap.size) (hn0 : n0 + siz (.mk t b l) ≤ 900000) (hat : At (fun g => g < base) w (.mk t b l) x y) (hown : w.ownsRow base 5 1 ov n0 xs) :
  Calls Try.prog 46 #[ov, .agg (cell3 (.mk t b l) x y)] w (PtPost (.mk t b l) base ov n0 xs w) := by
 have hcs := fun (V : World) (hb : Below base w V) => csize_of t b l hcn (by omega) (fun k o ho V x y hat => psize_all 5000 o (by rw [cnt] at hcn; have := cnt_le l o (List.mem_of_getElem? ho); omega) (Nat.le_refl _) (by rw [tot] at htt; have := tot_le l o (List.mem_of_getElem? ho); omega) V x y hat) V x y (hat.low hb).any
 obtain ⟨i0, hi, hz0, hz1, hz2⟩ := info_parts Try.info_byte
 obtain ⟨A, c, B, d, g, off, vb, vl, rfl, rfl, hc, hbm, hcn0, hs, hsA, hd, hdn, he⟩ := hat.elsR
 have hsz : siz (.mk t b l) = 1 + (lenb (b.length + sizs l)).length + (b.length + sizs l) := by rw [siz]
 have hen : enc (.mk t b l) = [t] ++ lenb (b.length + sizs l) ++ b ++ encs l := by rw [enc, sizs_eq, List.singleton_append, List.cons_append, List.cons_append, List.append_assoc]
 obtain ⟨Z, hZ⟩ : ∃ Z, b.length + sizs l = Z := ⟨_, rfl⟩
 obtain ⟨n, hn⟩ : ∃ n, l.length = n := ⟨_, rfl⟩
 obtain ⟨m, hm⟩ : ∃ m, b.length = m := ⟨_, rfl⟩
 have hll := len_cnts l
 rw [cnt] at hcn
 have HCS := Lib.hid hcs
 unfold PtPost at hW ⊢
 show Calls Try.prog 46 #[ov, .agg #[.int .u8 (t.toNat : Int), .slice A b.length c, .slice B l.length d]] w _
 have hz5 : Z ≤ 1000000 := by rw [hsz, hZ] at hn0; omega
 have hn5 : n ≤ 5000 := by omega
 have hm5 : m ≤ 900000 := by rw [hsz, hZ] at hn0; omega
 have HLN := Lib.hid (fun V => lengthof_any Z (by omega) V)
 have HLB := Lib.hid (lenb_le Z)
 rw [hn, hm]
 rw [hsz, hZ] at hn0 ⊢
 rw [hen, hZ]
 have HW := Lib.hid hW
 have HE := Lib.hid he
 have HN := Lib.hid hn
 have HM := Lib.hid hm
 have HZ := Lib.hid hZ
 have HI := Lib.hid hi
 have HS := Lib.hid hs
 have HSA := Lib.hid hsA
 have HC0 := Lib.hid hcn0
 have HN0 := Lib.hid hn0
 have HN5 := Lib.hid hn5
 have HM5 := Lib.hid hm5
 have HBA := Lib.hid hbase
 have HOW := Lib.hid hown
 have HROW := Lib.hid (heap_alloc_new w (.cells #[.int .u8 (t.toNat : Int), .slice A m c, .slice B n d] 63))
 have HB0 := Lib.hid (below_new w (.cells #[.int .u8 (t.toNat : Int), .slice A m c, .slice B n d] 63))
 have HX0 : RowKit.Hid (some w.heap.size ≠ ov.ownBlock) := Lib.hid (fun e => by have := (own_ge hown e.symm).2; omega)
 rw [hZ, hm, hn] at HCS
 clear hcs hW he hn hm hZ hi hs hsA hcn0 hn0 hn5 hm5 hz5 hbase hat hc hbm hd hdn hll hcn htt hsz hen
 go_enter Try.func46, Try.ntmps46
 go_upto_region 1 with (fail)
 have HG0 : RowKit.Hid (Gbx base w ov w.heap.size (.cells #[.int .u8 (t.toNat : Int), .slice A m c, .slice B n d] 63 (0, 0)) (w.alloc (.cells #[.int .u8 (t.toNat : Int), .slice A m c, .slice B n d] 63)) ov n0 xs) := Lib.hid ⟨(Grw.refl hown).on HB0.out, HROW.out, HX0.out⟩
 have hle0 : base ≤ (w.alloc (.cells #[.int .u8 (t.toNat : Int), .slice A m c, .slice B n d] 63)).heap.size := Nat.le_trans HBA.out HB0.out.size
 clear hown
 generalize hV : World.alloc w _ = V at HROW HB0 HG0 hle0 ⊢
 clear hV HROW HX0
 have HLE := Lib.hid hle0
 clear hle0
 have hlt := (Array.getElem?_eq_some_iff.1 HG0.out.row).1
 obtain ⟨_, hc0, hc1, hc2⟩ := facts3 HG0.out.row
 have HSRC1 : RowKit.Hid (SrcAt (some ⟨V.heap.size, 0, none⟩) [t] (V.alloc (.cells #[.int .u8 (t.toNat : Int)] 5))) := Lib.hid (srcAt_row (heap_alloc_new V _))
 have HG1 := Lib.hid (HG0.out.on (below_new V (.cells #[.int .u8 (t.toNat : Int)] 5)))
 go_upto_region 2 with (at_builtin; go_loud (refine append_src_at rfl (.tmp 7) (.tmp 10) rfl base _ _ _ rfl HG1.out.g.own (some ⟨V.heap.size, 0, none⟩) [t] 1 1 rfl rfl (fun e => by cases e) HSRC1.out (by have := HN0.out; omega) (by have := HLE.out; rw [World.size_alloc]; omega) ?_); intro v1 w1 hg1; have HG2 := Lib.hid (HG1.out.app hg1); clear hg1)
 clear HG0 HG1 HSRC1 hlt hc0 hc1 hc2 HLE
 have hlt := (Array.getElem?_eq_some_iff.1 HG2.out.row).1
 obtain ⟨_, hc0, hc1, hc2⟩ := facts3 HG2.out.row
 have hrg := range3o hc0 hc1 hc2
 have HC1 := Lib.hid (HCS.out w1 (HG2.out.g.below HOW.out HBA.out))
 go_wp2_with fail
 refine HC1.out.mono ?_
 rintro e w2 ⟨rfl, hb2⟩
 have HG3 := Lib.hid (HG2.out.on hb2)
 clear HG2 HC1 hb2 hlt hc0 hc1 hc2 hrg HCS
 go_wp2_with fail
 refine (HLN.out w2).mono ?_
 rintro e w3 ⟨vq, rfl, hoq, hb3⟩
 obtain ⟨Aq, cq, rfl, _, hqn, hqs, _⟩ := own_rd3 hoq
 have HG4 := Lib.hid (HG3.out.on hb3)
 have HQN := Lib.hid hqn
 have HQS := Lib.hid hqs
 clear HG3 HLN hoq hb3 hqn hqs
 go_upto_region 3 with (at_builtin; go_loud (refine append_src_at rfl (.tmp 12) (.tmp 15) rfl base _ _ _ rfl HG4.out.g.own Aq (lenb Z) cq _ rfl rfl HQN.out HQS.out (by have := HN0.out; have := HLB.out; omega) (Nat.le_trans HBA.out HG4.out.g.grown.size) ?_); intro v4 w4 hg4; have HG5 := Lib.hid (HG4.out.app hg4); clear hg4)
 clear HG4 HQN HQS
 have hlt := (Array.getElem?_eq_some_iff.1 HG5.out.row).1
 obtain ⟨_, hc0, hc1, hc2⟩ := facts3 HG5.out.row
 have HS5 := Lib.hid (srcAt_low HS.out HSA.out (HG5.out.g.below HOW.out HBA.out))
 go_upto_region 4 with (at_builtin; go_loud (refine append_src_at rfl (.tmp 17) (.tmp 19) rfl base _ _ _ rfl HG5.out.g.own A b c m HM.out rfl HC0.out HS5.out (by have := HN0.out; have := HLB.out; have := HZ.out; have := HM.out; omega) (Nat.le_trans HBA.out HG5.out.g.grown.size) ?_); intro v5 w5 hg5; have HG6 := Lib.hid (HG5.out.app hg5); clear hg5)
 clear HG5 HS5 hlt hc0 hc1 hc2 HB0 HS HSA HC0
 have hlt := (Array.getElem?_eq_some_iff.1 HG6.out.row).1
 obtain ⟨_, hc0, hc1, hc2⟩ := facts3 HG6.out.row
 obtain ⟨N1, hN1⟩ : ∃ N1, n0 + 1 + (lenb Z).length + m = N1 := ⟨_, rfl⟩
 obtain ⟨X1, hX1⟩ : ∃ X1, xs ++ bvals [t] ++ bvals (lenb Z) ++ bvals b = X1 := ⟨_, rfl⟩
 have HF : RowKit.Hid (n0 + (1 + (lenb Z).length + Z) = N1 + sizs l ∧ xs ++ bvals (t :: (lenb Z ++ (b ++ encs l))) = X1 ++ bvals (encs l)) := Lib.hid ⟨by have := HZ.out; have := HM.out; omega, by rw [← hX1, show t :: (lenb Z ++ (b ++ encs l)) = [t] ++ lenb Z ++ b ++ encs l by simp, bvals_app, bvals_app, bvals_app]; simp only [List.append_assoc]⟩
 rw [hN1, hX1] at HG6
 have HN1 : RowKit.Hid (N1 + sizs l ≤ 900000) := Lib.hid (by have h1 := HN0.out; have h2 := HF.out.1; omega)
 clear hN1 hX1 HN0 HZ HLB HM
 have hn5 := HN5.out
 go_wp2_with fail
 clear hlt hc0 hc1 hc2
 go_loopw [0, 6, 24] (fun vv _ ix wr => ∃ k : Nat, k ≤ n ∧ ix = .int .i64 (k : Int) ∧ RowKit.Hid (Gbx base w ov w.heap.size (.cells #[.int .u8 (t.toNat : Int), .slice A m c, .slice B n d] 63 (0, 0)) wr vv (N1 + sizs (l.take k)) (X1 ++ bvals (encs (l.take k))))) (fun _ _ ix _ => n - (intOf ix).toNat)
 case atStart =>
  refine ⟨0, by omega, rfl, Lib.hid ?_⟩
  rw [List.take_zero, sizs, encs]
  simpa [bvals] using HG6.out
 case round =>
  obtain ⟨k, hk, rfl, HG⟩ := hrel
  have hlt0 := (Array.getElem?_eq_some_iff.1 HG.out.row).1
  by_cases hlt : k < n
  ·
   have hki : (k : Int) < (n : Int) := by omega
   have hn5 := HN5.out
   obtain ⟨o, ho⟩ : ∃ o, l[k]? = some o := ⟨_, List.getElem?_eq_getElem (by rw [HN.out]; exact hlt)⟩
   have hne : l ≠ [] := fun e => by rw [e] at ho; simp at ho
   have hBB := (HE.out.hB hne).1
   subst hBB
   have hew := HE.out.low (HG.out.g.below HOW.out HBA.out)
   have hc0 := hew.h0 k o ho
   have hc1 := hew.h1 k o ho
   have hc2 := hew.h2 k o ho
   have hat := hew.hr k o ho
   obtain ⟨A1, m1, c1, B1, n1, d1, e1, e2⟩ := hat.any.slices
   rw [e1] at hc1 hat
   rw [e2] at hc2 hat
   have HTK : RowKit.Hid (sizs (l.take (k + 1)) = sizs (l.take k) + siz o ∧ bvals (encs (l.take (k + 1))) = bvals (encs (l.take k)) ++ bvals (enc o)) := Lib.hid (by
    rw [List.take_add_one, ho]
    show sizs (l.take k ++ [o]) = _ ∧ bvals (encs (l.take k ++ [o])) = _
    exact ⟨sizs_snoc _ _, by rw [encs_snoc, bvals_app]⟩)
   have hb6 : N1 + sizs (l.take k) + siz o ≤ 900000 := by
    have h1 := HN1.out
    have h2 := HTK.out.1
    have h3 : sizs (l.take (k + 1)) ≤ sizs l := by
     have h4 : sizs (l.take (k + 1)) + sizs (l.drop (k + 1)) = sizs l := by rw [← sizs_app, List.take_append_drop]
     omega
    omega
   have HCALL := Lib.hid (fun (V : World) (hb : Below wr.heap.size wr V) => HW.out k o ho base V _ _ _ _ _ (Nat.le_trans (Nat.le_trans HBA.out HG.out.g.grown.size) hb.size) hb6 (hat.low (hb.mono (Nat.le_trans HBA.out HG.out.g.grown.size))) (HG.out.on hb).g.own)
   clear hne hew hat ho e1 e2 hb6
   go_wp2_with fail
   refine (HCALL.out _ (below_new _ _)).mono ?_
   rintro e w2 ⟨v2, rfl, hg2⟩
   have HG2 := Lib.hid ((HG.out.on (below_new wr _)).app hg2)
   clear hc0 hc1 hc2 hlt0 hg2
   go_wp2_with fail
   refine ⟨⟨k + 1, by omega, by go_num, Lib.hid ?_⟩, by simp [intOf]; omega⟩
   rw [HTK.out.1, HTK.out.2, ← Nat.add_assoc, ← List.append_assoc]
   exact HG2.out
  ·
   have hkk : k = n := by omega
   have HKK := Lib.hid hkk
   have hge : ¬ (k : Int) < (n : Int) := by omega
   clear hkk
   go_wp2_with fail
   go_ret
   refine ⟨_, rfl, ?_⟩
   have h1 := HG.out.g
   rw [HKK.out, List.take_of_length_le (by rw [HN.out]; exact Nat.le_refl _)] at h1
   rw [HF.out.1, HF.out.2]
   exact h1
theorem put_all : ∀ (n : Nat) (o : Oct), cnt o ≤ n → n ≤ 5000 → tot o ≤ 100000 → ∀ (base : Nat) (V : World) (ov x y : Value) (k : Nat) (xs : List Value), base ≤ V.heap.size → k + siz o ≤ 900000 → At (fun g => g < base) V o x y → V.ownsRow base 5 1 ov k xs → Calls Try.prog 46 #[ov, .agg (cell3 o x y)] V (PtPost o base ov k xs V) := fun n => by
 induction n with
 | zero => intro o h; have := cnt_pos o; omega
 | succ n ih =>
  intro o h hn ht base V ov x y j xs hb hs hat hown
  cases o with
  | mk t b l =>
   exact put_of t b l (by omega) ht (fun k o ho base V ov x y j xs hb hs hat hown => ih o (by rw [cnt] at h; have := cnt_le l o (List.mem_of_getElem? ho); omega) (by omega) (by rw [tot] at ht; have := tot_le l o (List.mem_of_getElem? ho); omega) base V ov x y j xs hb hs hat hown) base V ov x y j xs hb hs hat hown
end Go.Proofs.Ythfgdgcdicacpaa
namespace Go.Proofs.Ythfgdgcdicacpaa
open Go.RowKit Sha Oc
set_option linter.unusedVariables false
set_option linter.unusedSimpArgs false
structure Rdr (lo : Nat) (w : World) (g : Nat) (A : Option Addr) (L : List UInt8) (c : Nat) : Prop where
 row : w.heap[g]? = some (.cells #[.slice A L.length c] 98 (0, 0))
 src : SrcAt A L w
 cap : L.length ≤ c
 nul : A = none → c = 0
 len : L.length ≤ 1000000
 far : ∀ ga oa, A = some ⟨ga, oa, none⟩ → L ≠ [] → ga ≠ g ∧ ga < lo
abbrev pan : PanicEntry := { v := .iface 28 (.int .i64 12), recovered := false }
theorem bodyPost_panic {P : Program} {fn : Func} {R : Ending → World → Prop} {ch : List PanicEntry} {t : Array Value} {w : World} (h : R (.panicked ch) w) : bodyPost P fn R (.panic ch) { tmps := t, defers := [] } w := ⟨rfl, h⟩
theorem row_set {w : World} {g : Nat} {v u : Value} {T : TypeId} (h : w.heap[g]? = some (.cells #[v] T (0, 0))) : (w.setCell ⟨g, 0, none⟩ u).heap[g]? = some (.cells #[u] T (0, 0)) := one_setCell h
theorem grown_set (w : World) (g : Nat) (u : Value) : w.grownBy (w.setCell ⟨g, 0, none⟩ u) (some g) := ⟨rfl, rfl, rfl, by simp, fun k _ hk => Below.heap_setCell _ _ _ _ (fun e => hk (by rw [e]))⟩
theorem srcAt_grown {A : Option Addr} {L : List UInt8} {w w' : World} {g : Nat} (h : SrcAt A L w) (hg : w.grownBy w' (some g)) (hf : ∀ ga oa, A = some ⟨ga, oa, none⟩ → L ≠ [] → ga ≠ g) : SrcAt A L w' := fun hne => by
 obtain ⟨ga, o, e, hc⟩ := h hne
 exact ⟨ga, o, e, fun j x hj => hg.cell (hc j x hj) (fun e2 => hf ga o e hne (Option.some.inj e2))⟩
theorem srcAt_take {A : Option Addr} {L : List UInt8} {w : World} (h : SrcAt A L w) (n : Nat) : SrcAt A (L.take n) w := fun hne => by
 obtain ⟨ga, o, e, hc⟩ := h (fun e => hne (by rw [e, List.take_nil]))
 refine ⟨ga, o, e, fun j x hj => hc j x ?_⟩
 rw [List.getElem?_take] at hj
 split at hj
 ·
  exact hj
 ·
  cases hj
theorem srcAt_drop {A : Option Addr} {L : List UInt8} {w : World} (h : SrcAt A L w) (n : Nat) : SrcAt (A.map fun x => x.add n) (L.drop n) w := fun hne => by
 obtain ⟨ga, o, e, hc⟩ := h (fun e => hne (by rw [e, List.drop_nil]))
 subst e
 refine ⟨ga, o + n, by rw [Option.map_some, add_eq], fun j x hj => ?_⟩
 rw [List.getElem?_drop] at hj
 rw [Nat.add_assoc]
 exact hc (n + j) x hj
theorem Rdr.taken {lo : Nat} {w : World} {g : Nat} {A A' : Option Addr} {L : List UInt8} {c n : Nat} (h : Rdr lo w g A L c) (hn : n ≤ L.length) (hA : (c = n ∧ A' = A) ∨ (¬ c = n ∧ A' = A.map fun x => x.add n)) :
  SrcAt A (L.take n) (w.setCell ⟨g, 0, none⟩ (.slice A' (L.length - n) (c - n))) ∧ Rdr lo (w.setCell ⟨g, 0, none⟩ (.slice A' (L.length - n) (c - n))) g A' (L.drop n) (c - n) ∧ w.grownBy (w.setCell ⟨g, 0, none⟩ (.slice A' (L.length - n) (c - n))) (some g) := by
 have hg := grown_set w g (.slice A' (L.length - n) (c - n))
 have hc := h.cap
 have hne : ∀ q : List UInt8, q.length ≤ L.length → q ≠ [] → L ≠ [] := fun q hq h1 e => h1 (List.length_eq_zero_iff.1 (by rw [e] at hq; simpa using hq))
 refine ⟨srcAt_grown (srcAt_take h.src n) hg fun ga oa e h1 => (h.far ga oa e (hne _ (by rw [List.length_take]; omega) h1)).1, ⟨?_, ?_, ?_, ?_, ?_, ?_⟩, hg⟩
 ·
  rw [List.length_drop]
  exact row_set h.row
 ·
  rcases hA with ⟨e1, rfl⟩ | ⟨_, rfl⟩
  ·
   intro h1
   exact absurd (List.length_eq_zero_iff.1 (by rw [List.length_drop]; omega)) h1
  ·
   refine srcAt_grown (srcAt_drop h.src n) hg fun ga oa e h1 => ?_
   cases A with
   | none => cases e
   | some a =>
    have h2 := hne _ (by rw [List.length_drop]; omega) h1
    obtain ⟨gb, ob, e3, _⟩ := h.src h2
    have e4 := Option.some.inj e3
    subst e4
    rw [Option.map_some, add_eq] at e
    have e5 := congrArg Addr.block (Option.some.inj e)
    have e6 : gb = ga := e5
    rw [← e6]
    exact (h.far gb ob rfl h2).1
 ·
  rw [List.length_drop]; omega
 ·
  intro e
  rcases hA with ⟨e1, rfl⟩ | ⟨_, rfl⟩
  ·
   rw [h.nul e]; omega
  ·
   cases A with
   | none => rw [h.nul rfl]; omega
   | some a => cases e
 ·
  have := h.len
  rw [List.length_drop]; omega
 ·
  intro ga oa e h1
  have h2 := hne _ (by rw [List.length_drop]; omega) h1
  rcases hA with ⟨e1, rfl⟩ | ⟨_, rfl⟩
  ·
   exact h.far ga oa e h2
  ·
   obtain ⟨gb, ob, e3, _⟩ := h.src h2
   subst e3
   rw [Option.map_some, add_eq] at e
   have e6 : gb = ga := congrArg Addr.block (Option.some.inj e)
   rw [← e6]
   exact h.far gb ob rfl h2
def TkPost (lo g : Nat) (A : Option Addr) (L : List UInt8) (c n : Nat) (w : World) (e : Ending) (w' : World) : Prop :=
 (L.length < n ∧ e = .panicked [pan] ∧ w' = w) ∨ (n ≤ L.length ∧ e = .returned (.slice A n c) ∧ w.grownBy w' (some g) ∧ SrcAt A (L.take n) w' ∧ ∃ A', Rdr lo w' g A' (L.drop n) (c - n))
set_option maxRecDepth 100000 in
set_option maxHeartbeats 4000000 in
theorem take_any (lo : Nat) (w : World) (g : Nat) (A : Option Addr) (L : List UInt8) (c n : Nat) (h : Rdr lo w g A L c) (hn : n < 18446744073709551616) :
  Calls Try.prog 81 #[.pointer (some ⟨g, 0, none⟩), .int .u64 (n : Int)] w (TkPost lo g A L c n w) := by
 have HH := Lib.hid h
 obtain ⟨hrow, hs, hc, hnul, hlen, hfar⟩ := h
 unfold TkPost
 obtain ⟨m, hm⟩ : ∃ m, L.length = m := ⟨_, rfl⟩
 have HM := Lib.hid hm
 rw [hm] at hrow hc hlen ⊢
 have hlt := (Array.getElem?_eq_some_iff.1 hrow).1
 have hc0 := cell_of_one hrow
 have hf0 := free_of_one hrow
 have HWR : RowKit.Hid (IntKind.u64.wrap (m : Int) = (m : Int)) := Lib.hid (by simp [IntKind.wrap, IntKind.signed, IntKind.bits]; omega)
 clear hm hs hnul hfar hrow
 by_cases h1 : m < n
 ·
  have h1i : (m : Int) < (n : Int) := by omega
  go_enter Try.func81, Try.ntmps81
  go_wp2_with fail
  exact bodyPost_panic (.inl ⟨h1, rfl, rfl⟩)
 ·
  have h1i : ¬ (m : Int) < (n : Int) := by omega
  by_cases h2 : c = n
  ·
   subst h2
   have hmc : m = c := by omega
   subst hmc
   have h9 := HH.out.taken (n := m) (A' := A) (by rw [HM.out]; omega) (.inl ⟨rfl, rfl⟩)
   rw [HM.out, Nat.sub_self] at h9
   have H9 := Lib.hid h9
   clear h9
   go_enter Try.func81, Try.ntmps81
   go_wp2_with fail
   go_ret
   first
    | exact ⟨by omega, rfl, H9.out.2.2, H9.out.1, A, by rw [Nat.sub_self]; exact H9.out.2.1⟩
    | exact .inr ⟨by omega, rfl, H9.out.2.2, H9.out.1, A, by rw [Nat.sub_self]; exact H9.out.2.1⟩
    | exact ⟨rfl, H9.out.2.2, H9.out.1, A, H9.out.2.1⟩
  ·
   have h9 := HH.out.taken (n := n) (A' := A.map fun x => x.add n) (by rw [HM.out]; omega) (.inr ⟨h2, rfl⟩)
   rw [HM.out] at h9
   have H9 := Lib.hid h9
   clear h9
   go_enter Try.func81, Try.ntmps81
   go_wp2_with fail
   go_ret
   first
    | exact ⟨by omega, rfl, H9.out.2.2, H9.out.1, _, H9.out.2.1⟩
    | exact .inr ⟨by omega, rfl, H9.out.2.2, H9.out.1, _, H9.out.2.1⟩
def LnPost (lo g : Nat) (L : List UInt8) (w : World) (e : Ending) (w' : World) : Prop := w.grownBy w' (some g) ∧
 ((prl L = none ∧ e = .panicked [pan]) ∨ ∃ n r A' c', prl L = some (n, r) ∧ n < 18446744073709551616 ∧ e = .returned (.int .u64 (n : Int)) ∧ Rdr lo w' g A' r c')
theorem prl_one (x : UInt8) (r : List UInt8) (h : x.toNat < 128) : prl (x :: r) = some (x.toNat, r) := by rw [prl, if_pos h]
set_option maxRecDepth 100000 in
set_option maxHeartbeats 4000000 in
theorem length_any (lo : Nat) (w : World) (g : Nat) (A : Option Addr) (L : List UInt8) (c : Nat) (h : Rdr lo w g A L c) :
  Calls Try.prog 82 #[.pointer (some ⟨g, 0, none⟩)] w (LnPost lo g L w) := by
 have HT := Lib.hid (take_any lo w g A L c 1 h (by decide))
 unfold TkPost at HT
 unfold LnPost
 cases L with
 | nil =>
  clear h
  go_enter Try.func82, Try.ntmps82
  go_wp2_with fail
  refine HT.out.mono ?_
  rintro e w1 (⟨_, rfl, rfl⟩ | ⟨h1, _⟩)
  ·
   exact bodyPost_panic ⟨World.grownBy.refl _ _, .inl ⟨rfl, rfl⟩⟩
  ·
   exact absurd h1 (by simp)
 | cons x r =>
  have HX := Lib.hid x.toNat_lt
  have HR0 : RowKit.Hid (prl (x :: r) = prl (x :: r)) := Lib.hid rfl
  clear h
  go_enter Try.func82, Try.ntmps82
  go_wp2_with fail
  refine HT.out.mono ?_
  rintro e w1 (⟨h1, _⟩ | ⟨_, rfl, hg1, hs1, A', hr1⟩)
  ·
   exact absurd h1 (by rw [List.length_cons]; omega)
  obtain ⟨ga, o, rfl, hc1⟩ := hs1 (by simp)
  have hx := hc1 0 x rfl
  rw [Nat.add_zero] at hx
  have HG1 := Lib.hid hg1
  have HR1 : RowKit.Hid (Rdr lo w1 g A' r (c - 1)) := Lib.hid hr1
  clear HT hg1 hs1 hr1 hc1
  obtain ⟨z, hz⟩ : ∃ z, x.toNat = z := ⟨_, rfl⟩
  rw [hz] at hx
  have HZ := Lib.hid hz
  have hz8 : z < 256 := by have := HX.out; omega
  clear hz
  by_cases h1 : z < 128
  ·
   have h1i : (z : Int) < 128 := by omega
   go_wp2_with fail
   go_ret
   refine ⟨HG1.out, .inr ⟨z, r, A', c - 1, ?_, by omega, rfl, HR1.out⟩⟩
   rw [← HZ.out]
   exact prl_one x r (by rw [HZ.out]; exact h1)
  ·
   have h1i : ¬ (z : Int) < 128 := by omega
   have hzc : (z : Int) - 128 = ((z - 128 : Nat) : Int) := by omega
   obtain ⟨k, hk⟩ : ∃ k, z - 128 = k := ⟨_, rfl⟩
   rw [hk] at hzc
   have hk8 : k < 128 := by omega
   have HT2 := Lib.hid (take_any lo w1 g A' r (c - 1) k HR1.out (by omega))
   unfold TkPost at HT2
   have HP : RowKit.Hid (prl (x :: r) = if r.length < k then none else if okN (r.take k) = true ∧ 128 ≤ numN (r.take k) then some (numN (r.take k), r.drop k) else none) := Lib.hid (by rw [prl, HZ.out, if_neg h1, hk])
   clear hk
   go_wp2_with fail
   try rw [hzc]
   refine HT2.out.mono ?_
   rintro e w2 (⟨h2, rfl, rfl⟩ | ⟨h2, rfl, hg2, hs2, A2, hr2⟩)
   ·
    exact bodyPost_panic ⟨HG1.out, .inl ⟨by rw [HP.out, if_pos h2], rfl⟩⟩
   have hbl : (r.take k).length = k := by rw [List.length_take]; omega
   obtain ⟨b, hb⟩ : ∃ b, r.take k = b := ⟨_, rfl⟩
   rw [hb] at hbl hs2 HP
   rw [if_neg (by omega)] at HP
   have hnum := number_any b A' (c - 1) (by omega) w2 hs2
   rw [hbl] at hnum
   have HNUM := Lib.hid hnum
   have HG2 := Lib.hid (HG1.out.trans hg2)
   have HR2 := Lib.hid hr2
   obtain ⟨ok, hok⟩ : ∃ ok, okN b = ok := ⟨_, rfl⟩
   obtain ⟨N, hN⟩ : ∃ N, numN b = N := ⟨_, rfl⟩
   have hN64 := numN_lt b
   rw [hok, hN] at HNUM HP
   rw [hN] at hN64
   clear hnum hg2 hr2 hs2 hok hN hb HT2 h2
   go_wp2_with fail
   refine HNUM.out.mono ?_
   rintro e w3 ⟨rfl, rfl⟩
   clear HNUM
   cases ok with
   | false =>
    go_wp2_with fail
    exact bodyPost_panic ⟨HG2.out, .inl ⟨by rw [HP.out, if_neg (by simp)], rfl⟩⟩
   | true =>
    by_cases h3 : N < 128
    ·
     have h3i : (N : Int) < 128 := by omega
     go_wp2_with fail
     exact bodyPost_panic ⟨HG2.out, .inl ⟨by rw [HP.out, if_neg (by omega)], rfl⟩⟩
    ·
     have h3i : ¬ (N : Int) < 128 := by omega
     go_wp2_with fail
     go_ret
     exact ⟨HG2.out, .inr ⟨N, r.drop k, A2, _, by rw [HP.out, if_pos ⟨by first | rfl | trivial, by omega⟩], hN64, rfl, HR2.out⟩⟩
end Go.Proofs.Ythfgdgcdicacpaa
namespace Go.Proofs.Ythfgdgcdicacpaa
open Go.RowKit Sha Oc
set_option linter.unusedVariables false
set_option linter.unusedSimpArgs false
theorem Mk.put2 {base n : Nat} {ts : List (Oct × Value × Value)} {v v' : Value} {V U : World} {o : Oct} {x y : Value} (h : Mk base ts v n V) (lo : Nat) (hlt : ∀ k, v.ownBlock = some k → k < lo) (hbase : base ≤ lo) (hx : At (Rw lo V) V o x y) (hown : U.ownsRow base 63 3 v' (n + 1) (rowT ts ++ [.int .u8 ((tagO o).toNat : Int), x, y])) (hg : V.grownBy U v.ownBlock) (hloc : v'.ownBlock = v.ownBlock ∨ v'.ownBlock = some V.heap.size) :
  Mk base (ts ++ [(o, x, y)]) v' (n + 1) U := by
 have keep : ∀ (g : Nat), (v.ownBlock ≠ some g) → ∀ (p : Nat) (u : Value), V.cell? ⟨g, p, none⟩ = some u → U.cell? ⟨g, p, none⟩ = some u ∧ (Rw base V g → Rw base U g ∧ v'.ownBlock ≠ some g) := fun g hne p u hu => by
  have hgl : g < V.heap.size := World.block_lt_of_cell? _ _ hu
  have hbk := hg.block g hgl (fun e => hne e.symm)
  refine ⟨by simp only [World.cell?, hbk] at hu ⊢; exact hu, fun hR => ⟨⟨hR.1, ?_⟩, ?_⟩⟩
  ·
   obtain ⟨_, cs, t, h3⟩ := hR
   exact ⟨cs, t, hbk.trans h3⟩
  ·
   rcases hloc with e | e
   ·
    rw [e]; exact hne
   ·
    rw [e]
    intro e2
    have := Option.some.inj e2
    omega
 refine ⟨by rw [rowT_app]; exact hown, by rw [List.length_append, h.len]; rfl, fun t ht => ?_⟩
 rcases List.mem_append.1 ht with ht | ht
 ·
  exact (h.els t ht).to fun g p u hu hR => ⟨(keep g hR.2 p u hu).1, (keep g hR.2 p u hu).2 hR.1⟩
 ·
  simp at ht
  subst ht
  refine hx.to fun g p u hu hR => ?_
  have hne : v.ownBlock ≠ some g := fun e => by have := hlt g e; have := hR.1; omega
  exact ⟨(keep g hne p u hu).1, (keep g hne p u hu).2 ⟨by have := hR.1; omega, hR.2⟩⟩
structure LX (W1 : World) (I SB : Nat) (t0 y0 : Value) (ts : List (Oct × Value × Value)) (B : Option Addr) (d k : Nat) (V : World) : Prop where
 os : V.os = W1.os
 tape : V.tape = W1.tape
 output : V.output = W1.output
 sz : W1.heap.size ≤ V.heap.size
 oth : ∀ b, b < W1.heap.size → b ≠ SB → b ≠ I → V.heap[b]? = W1.heap[b]?
 lt : SB < W1.heap.size
 li : I < W1.heap.size
 ne : SB ≠ I
 rg : V.heap[SB]? = some (.cells #[t0, y0, .slice B k d] 63 (0, 0))
 lm : Mk W1.heap.size ts (.slice B k d) k V
theorem LX.on {W1 V U : World} {I SB d k : Nat} {t0 y0 : Value} {ts : List (Oct × Value × Value)} {B : Option Addr} (h : LX W1 I SB t0 y0 ts B d k V) (hb : Below V.heap.size V U) : LX W1 I SB t0 y0 ts B d k U :=
 ⟨hb.os.trans h.os, hb.tape.trans h.tape, hb.output.trans h.output, Nat.le_trans h.sz hb.size, fun b h1 h2 h3 => (hb.block b (by have := h.sz; omega)).trans (h.oth b h1 h2 h3), h.lt, h.li, h.ne, row_on h.rg hb, h.lm.on hb⟩
theorem LX.call {W1 V U : World} {I SB d k : Nat} {t0 y0 : Value} {ts : List (Oct × Value × Value)} {B : Option Addr} (h : LX W1 I SB t0 y0 ts B d k V) (hg : V.grownBy U (some I)) : LX W1 I SB t0 y0 ts B d k U := by
 have hli := h.li
 have hsz := h.sz
 have hk : ∀ g, W1.heap.size ≤ g → ∀ o, V.heap[g]? = some o → U.heap[g]? = some o := fun g hgl o ho => (hg.block g (Array.getElem?_eq_some_iff.1 ho).1 (fun e => by have := Option.some.inj e; omega)).trans ho
 refine ⟨hg.os.trans h.os, hg.tape.trans h.tape, hg.output.trans h.output, Nat.le_trans h.sz hg.size, fun b h1 h2 h3 => (hg.block b (by omega) (fun e => h3 (Option.some.inj e))).trans (h.oth b h1 h2 h3), h.lt, h.li, h.ne, (hg.block SB (by have := h.lt; omega) (fun e => h.ne (Option.some.inj e))).trans h.rg, ?_⟩
 refine ⟨h.lm.own.kept hg ?_, h.lm.len, fun t ht => (h.lm.els t ht).to fun g p u hu hR => ?_⟩
 ·
  exact .inr (fun e => by have := (h.lm.own.lt I e).1; omega)
 ·
  obtain ⟨⟨h1, cs, t, h3⟩, h4⟩ := hR
  have h5 := hk g h1 _ h3
  exact ⟨by simp only [World.cell?, h5, h3] at hu ⊢; exact hu, ⟨h1, cs, t, h5⟩, h4⟩
theorem LX.step {W1 V6 V7 : World} {I SB d k d' : Nat} {t0 y0 : Value} {ts ts' : List (Oct × Value × Value)} {B B' : Option Addr} (h6 : LX W1 I SB t0 y0 ts B d k V6) (hg : V6.grownBy V7 (Value.ownBlock (.slice B k d))) (hm : Mk W1.heap.size ts' (.slice B' (k + 1) d') (k + 1) V7) :
  V7.heap[SB]? = some (.cells #[t0, y0, .slice B k d] 63 (0, 0)) ∧ LX W1 I SB t0 y0 ts' B' d' (k + 1) (V7.setCell ⟨SB, 2, none⟩ (.slice B' (k + 1) d')) := by
 have hlo := h6.lm.own.lt
 have hlt := h6.lt
 have hb7 : ∀ b, b < W1.heap.size → V7.heap[b]? = V6.heap[b]? := fun b hbl => hg.block b (by have := h6.sz; omega) (fun e => by have := (hlo b e.symm).1; omega)
 have hr7 : V7.heap[SB]? = some (.cells #[t0, y0, .slice B k d] 63 (0, 0)) := (hb7 SB hlt).trans h6.rg
 refine ⟨hr7, hg.os.trans h6.os, hg.tape.trans h6.tape, hg.output.trans h6.output, ?_, fun b h1 h2 h3 => ?_, hlt, h6.li, h6.ne, heap_setCell_same _ _ _ _ _ _ hr7, ?_⟩
 ·
  have h3 := hg.size
  have h4 := h6.sz
  have h5 : (V7.setCell ⟨SB, 2, none⟩ (.slice B' (k + 1) d')).heap.size = V7.heap.size := by simp [World.setCell]
  omega
 ·
  exact ((Below.heap_setCell _ _ _ _ h2).trans (hb7 b h1)).trans (h6.oth b h1 h2 h3)
 ·
  have hne : ∀ g, W1.heap.size ≤ g → (V7.setCell ⟨SB, 2, none⟩ (.slice B' (k + 1) d')).heap[g]? = V7.heap[g]? := fun g hgl => Below.heap_setCell _ _ _ _ (show g ≠ SB by omega)
  refine ⟨ownsRow_setCell_other (a := ⟨SB, 2, none⟩) hm.own (fun e => by have h1 : W1.heap.size ≤ SB := (hm.own.lt _ e).1; omega) _, hm.len, fun u hu => (hm.els u hu).to fun g p x hx hR => ?_⟩
  have hk := hne g hR.1.1
  obtain ⟨⟨h1, cs, t, h2⟩, h3⟩ := hR
  exact ⟨by simp only [World.cell?, hk] at hx ⊢; exact hx, ⟨h1, cs, t, hk.trans h2⟩, h3⟩
theorem Rdr.on {lo g c : Nat} {w V : World} {A : Option Addr} {L : List UInt8} (h : Rdr lo w g A L c) (hb : Below w.heap.size w V) : Rdr lo V g A L c := ⟨row_on h.row hb, h.src.on hb, h.cap, h.nul, h.len, h.far⟩
theorem Rdr.kept {lo g c X : Nat} {w V : World} {A : Option Addr} {L : List UInt8} (h : Rdr lo w g A L c) (hg : w.grownBy V (some X)) (hX : lo ≤ X) (hne : g ≠ X) : Rdr lo V g A L c :=
 ⟨(hg.block g (Array.getElem?_eq_some_iff.1 h.row).1 (fun e => hne (Option.some.inj e))).trans h.row, srcAt_grown h.src hg (fun ga oa e h1 => by have := (h.far ga oa e h1).2; omega), h.cap, h.nul, h.len, h.far⟩
theorem Rdr.keptr {lo g c : Nat} {w V : World} {A : Option Addr} {L : List UInt8} {row : Option Nat} (h : Rdr lo w g A L c) (hg : w.grownBy V row) (hX : ∀ j, row = some j → lo ≤ j ∧ j ≠ g) : Rdr lo V g A L c := by
 refine ⟨(hg.block g (Array.getElem?_eq_some_iff.1 h.row).1 (fun e => (hX g e.symm).2 rfl)).trans h.row, fun hne => ?_, h.cap, h.nul, h.len, h.far⟩
 obtain ⟨ga, o, e, hc⟩ := h.src hne
 exact ⟨ga, o, e, fun j x hj => hg.cell (hc j x hj) (fun e2 => by have h1 := (hX ga e2.symm).1; have h2 := (h.far ga o e hne).2; omega)⟩
theorem grown_below {w V : World} (hb : Below w.heap.size w V) (row : Option Nat) : w.grownBy V row := ⟨hb.os, hb.tape, hb.output, hb.size, fun k hk _ => hb.block k hk⟩
theorem grown_new {w V U : World} {g X : Nat} (h : w.grownBy V (some g)) (k : V.grownBy U (some X)) (hX : w.heap.size ≤ X) : w.grownBy U (some g) := h.andThen k fun j hj => .inl (by have := Option.some.inj hj; omega)
theorem grown_on {w V U : World} {g : Nat} (h : w.grownBy V (some g)) (k : Below V.heap.size V U) : w.grownBy U (some g) := h.trans (grown_below k _)
theorem row3_grown {w V : World} {X g : Nat} {o : Obj} (h : w.heap[X]? = some o) (hg : w.grownBy V (some g)) (hne : X ≠ g) : V.heap[X]? = some o := (hg.block X (Array.getElem?_eq_some_iff.1 h).1 (fun e => hne (Option.some.inj e))).trans h
theorem grown_setc (w : World) (a : Addr) (u : Value) : w.grownBy (w.setCell a u) (some a.block) := ⟨rfl, rfl, rfl, by simp [World.setCell], fun k _ hk => Below.heap_setCell _ _ _ _ (fun e => hk (by rw [e]))⟩
theorem grown_set3 {w V : World} {g X : Nat} (h : w.grownBy V (some g)) (hX : w.heap.size ≤ X) (a b c : Value) : w.grownBy (V.setCells X 0 [a, b, c]) (some g) :=
 grown_new (grown_new (grown_new h (grown_setc V ⟨X, 0, none⟩ a) hX) (grown_setc _ ⟨X, 1, none⟩ b) hX) (grown_setc _ ⟨X, 2, none⟩ c) hX
theorem rdr_set3 {lo g n X : Nat} {V : World} {A : Option Addr} {L : List UInt8} (h : Rdr lo V g A L n) (hX : lo ≤ X) (hne : g ≠ X) (a b c : Value) : Rdr lo (V.setCells X 0 [a, b, c]) g A L n :=
 ((h.kept (grown_setc V ⟨X, 0, none⟩ a) hX hne).kept (grown_setc _ ⟨X, 1, none⟩ b) hX hne).kept (grown_setc _ ⟨X, 2, none⟩ c) hX hne
def VlPost (lo k g : Nat) (L : List UInt8) (w : World) (e : Ending) (w' : World) : Prop := w.grownBy w' (some g) ∧
 ((prd k L = none ∧ e = .panicked [pan]) ∨ ∃ o r x y A' c', prd k L = some (o, r) ∧ e = .returned (.agg (cell3 o x y)) ∧ At (Rw w.heap.size w') w' o x y ∧ Rdr lo w' g A' r c')
def lft (I : Nat) (w : World) : Nat := match w.cell? ⟨I, 0, none⟩ with
 | some (.slice _ n _) => n
 | _ => 0
theorem lft_rdr {lo I c : Nat} {w : World} {A : Option Addr} {L : List UInt8} (h : Rdr lo w I A L c) : lft I w = L.length := by
 unfold lft
 rw [cell_of_one h.row]
set_option maxRecDepth 100000 in
set_option maxHeartbeats 8000000 in
theorem value_of (k : Nat) (hV : ∀ (lo : Nat) (W : World) (g : Nat) (A : Option Addr) (L : List UInt8) (c : Nat), Rdr lo W g A L c → lo ≤ W.heap.size → L.length < k → Calls Try.prog 57 #[.pointer (some ⟨g, 0, none⟩)] W (VlPost lo k g L W))
  (lo : Nat) (w : World) (g : Nat) (A : Option Addr) (L : List UInt8) (c : Nat) (h : Rdr lo w g A L c) (hlo : lo ≤ w.heap.size) (hk : L.length < k + 1) :
  Calls Try.prog 57 #[.pointer (some ⟨g, 0, none⟩)] w (VlPost lo (k + 1) g L w) := by
 have HV := Lib.hid hV
 have HK := Lib.hid hk
 have HLO := Lib.hid hlo
 have HH := Lib.hid h
 have hgl := (Array.getElem?_eq_some_iff.1 h.row).1
 have HGL := Lib.hid hgl
 unfold VlPost at HV ⊢
 clear hV hk h hlo hgl
 go_enter Try.func57, Try.ntmps57
 go_upto_region 1 with (fail)
 obtain ⟨V, hV, hb0, hr0⟩ : ∃ V, World.alloc w (.cells #[.int .u8 0, .slice none 0 0, .slice none 0 0] 63) = V ∧ Below w.heap.size w V ∧ V.heap[w.heap.size]? = some (.cells #[.int .u8 0, .slice none 0 0, .slice none 0 0] 63 (0, 0)) := ⟨_, rfl, below_new w _, heap_alloc_new w _⟩
 rw [hV]
 clear hV
 have HG0 := Lib.hid (grown_below hb0 (some g))
 have HR0 := Lib.hid hr0
 have HD0 := Lib.hid (HH.out.on hb0)
 have hT := take_any lo V g A L c 1 HD0.out (by decide)
 unfold TkPost at hT
 have HT := Lib.hid hT
 clear hb0 hr0 hT
 cases L with
 | nil =>
  go_wp2_with fail
  refine HT.out.mono ?_
  rintro e w1 (⟨_, rfl, rfl⟩ | ⟨h1, _⟩)
  ·
   exact bodyPost_panic ⟨HG0.out, .inl ⟨rfl, rfl⟩⟩
  ·
   exact absurd h1 (by simp)
 | cons t b =>
  go_wp2_with fail
  refine HT.out.mono ?_
  rintro e w1 (⟨h1, _⟩ | ⟨_, rfl, hg1, hs1, A1, hr1⟩)
  ·
   exact absurd h1 (by rw [List.length_cons]; omega)
  obtain ⟨ga, oa, rfl, hc1⟩ := hs1 (by simp)
  have hx := hc1 0 t rfl
  rw [Nat.add_zero] at hx
  have HG1 := Lib.hid (HG0.out.trans hg1)
  have HRD1 : RowKit.Hid (Rdr lo w1 g A1 b (c - 1)) := Lib.hid hr1
  have hne1 : w.heap.size ≠ g := by have := HGL.out; omega
  have HNE := Lib.hid hne1
  have HRR1 := Lib.hid (row3_grown HR0.out hg1 hne1)
  clear HT hg1 hs1 hr1 hc1 hne1 HG0 HR0 HD0
  go_upto_region 2 with (fail)
  obtain ⟨VB, hVB⟩ : ∃ VB, w1.heap.size = VB := ⟨_, rfl⟩
  obtain ⟨V2, hV2, hb2, hr2⟩ : ∃ V2, World.alloc w1 (.cells #[.int .u8 (t.toNat : Int), .slice none 0 0, .slice none 0 0] 63) = V2 ∧ Below w1.heap.size w1 V2 ∧ V2.heap[w1.heap.size]? = some (.cells #[.int .u8 (t.toNat : Int), .slice none 0 0, .slice none 0 0] 63 (0, 0)) := ⟨_, rfl, below_new w1 _, heap_alloc_new w1 _⟩
  rw [hV2]
  clear hV2
  have HG2 := Lib.hid (grown_on HG1.out hb2)
  have HRR2 := Lib.hid (row_on HRR1.out hb2)
  have HRD2 := Lib.hid (HRD1.out.on hb2)
  have HVW : RowKit.Hid (w.heap.size < VB) := Lib.hid (by have h1 := (Array.getElem?_eq_some_iff.1 HRR1.out).1; omega)
  rw [hVB] at hr2 ⊢
  have HVR2 := Lib.hid hr2
  have hL := length_any lo V2 g A1 b (c - 1) HRD2.out
  unfold LnPost at hL
  have HL := Lib.hid hL
  clear hb2 hr2 hL HG1 HRR1 HRD1 hx
  clear hVB
  go_wp2_with fail
  refine HL.out.mono ?_
  rintro e w3 ⟨hg3, ⟨hp3, rfl⟩ | ⟨n, r, A3, c3, hp3, hn64, rfl, hr3⟩⟩
  ·
   exact bodyPost_panic ⟨HG2.out.trans hg3, .inl ⟨by rw [prd, hp3], rfl⟩⟩
  have HP : RowKit.Hid (prd (k + 1) (t :: b) = if r.length < n then none else if t.toNat < 128 then some (.mk t (r.take n) [], r.drop n) else (prs (prd k) k (r.take n)).map fun l => (.mk t [] l, r.drop n)) := Lib.hid (by rw [prd, hp3])
  have HRL : RowKit.Hid (r.length < b.length) := Lib.hid (prl_len _ _ _ hp3)
  have HG3 := Lib.hid (HG2.out.trans hg3)
  have hneV : VB ≠ g := by have h1 := HVW.out; have h2 := HGL.out; omega
  have HNEV := Lib.hid hneV
  have HVR3 := Lib.hid (row3_grown HVR2.out hg3 hneV)
  have HRR3 := Lib.hid (row3_grown HRR2.out hg3 HNE.out)
  have HRD3 : RowKit.Hid (Rdr lo w3 g A3 r c3) := Lib.hid hr3
  have hT := take_any lo w3 g A3 r c3 n hr3 hn64
  unfold TkPost at hT
  have HT := Lib.hid hT
  clear HL hg3 hp3 hr3 hT HG2 HRR2 HRD2 HVR2 hneV
  go_wp2_with fail
  refine HT.out.mono ?_
  rintro e w4 (⟨h4, rfl, rfl⟩ | ⟨h4, rfl, hg4, hs4, A4, hr4⟩)
  ·
   exact bodyPost_panic ⟨HG3.out, .inl ⟨by rw [HP.out, if_pos h4], rfl⟩⟩
  have hp4 := HP.out
  rw [if_neg (by omega)] at hp4
  have HP2 := Lib.hid hp4
  have HN := Lib.hid h4
  have HG4 := Lib.hid (HG3.out.trans hg4)
  have HVR4 := Lib.hid (row3_grown HVR3.out hg4 HNEV.out)
  have HRR4 := Lib.hid (row3_grown HRR3.out hg4 HNE.out)
  have HRD4 : RowKit.Hid (Rdr lo w4 g A4 (r.drop n) (c3 - n)) := Lib.hid hr4
  have HS4 := Lib.hid hs4
  obtain ⟨ct, hct⟩ : ∃ ct, r.take n = ct := ⟨_, rfl⟩
  have hctl : ct.length = n := by rw [← hct, List.length_take]; omega
  obtain ⟨rr, hrr⟩ : ∃ rr, r.drop n = rr := ⟨_, rfl⟩
  rw [hct, hrr] at HP2
  rw [hct] at HS4
  rw [hrr] at HRD4
  have HCT : RowKit.Hid (ct.length = n ∧ n ≤ c3 ∧ n ≤ 1000000 ∧ (A3 = none → c3 = 0) ∧ (∀ ga oa, A3 = some ⟨ga, oa, none⟩ → ct ≠ [] → ga < lo) ∧ ct.length < k) := Lib.hid (by
   have h5 := HRD3.out.cap
   have h6 := HRD3.out.len
   have h7 := HRL.out
   have h8 := HK.out
   rw [List.length_cons] at h8
   refine ⟨hctl, by omega, by omega, HRD3.out.nul, fun ga oa e h1 => (HRD3.out.far ga oa e (fun e2 => h1 (by rw [← hct, e2, List.take_nil]))).2, by omega⟩)
  have hz : t.toNat < 256 := t.toNat_lt
  obtain ⟨z, hzz⟩ : ∃ z, t.toNat = z := ⟨_, rfl⟩
  have HZ := Lib.hid hzz
  rw [hzz] at HVR4 HP2 hz
  clear HT HP hg4 hr4 hs4 hct hctl hrr hp4 h4 hzz HG3 HVR3 HRR3 HRD3 hn64 HRL
  have hlt := (Array.getElem?_eq_some_iff.1 HVR4.out).1
  obtain ⟨_, hc0, hc1, hc2⟩ := facts3 HVR4.out
  by_cases h128 : z < 128
  ·
   have h1i : (z : Int) < 128 := by omega
   have hp5 := HP2.out
   rw [if_pos h128] at hp5
   have HP3 := Lib.hid hp5
   clear hp5 HP2
   go_upto_region 4 with (fail)
   clear hlt hc0 hc1 hc2
   go_upto_region 5 with (at_builtin; go_loud (refine append_src_at rfl (.const (.slice none 0 0)) (.tmp 18) rfl w4.heap.size (.slice none 0 0) 0 [] rfl (World.ownsRow_nil _ _ _ _) A3 ct c3 n HCT.out.1 rfl HCT.out.2.2.2.1 HS4.out (by have := HCT.out.2.2.1; omega) (Nat.le_refl _) ?_); intro v5 w5 hg5; have HG5 := Lib.hid hg5; clear hg5; have HVR5 := Lib.hid (HG5.out.row HVR4.out (by intro e; cases e)); have HRR5 := Lib.hid (HG5.out.row HRR4.out (by intro e; cases e)); have hlt := (Array.getElem?_eq_some_iff.1 HVR5.out).1; obtain ⟨⟨hf0, hf1, hf2⟩, hc0, hc1, hc2⟩ := facts3 HVR5.out; have ho5 := HG5.out.own; rw [Nat.zero_add, List.nil_append, ← HCT.out.1] at ho5; obtain ⟨A5, c5, rfl, hc5, hn5, hs5, hw5⟩ := own_rd3 ho5; have HC5 := Lib.hid hc5; have HN5 := Lib.hid hn5; have HS5 := Lib.hid hs5; have HW5 := Lib.hid hw5; clear ho5 hc5 hn5 hs5 hw5)
   clear hlt hf0 hf1 hf2 hc0 hc1 hc2
   have hlV : VB < w4.heap.size := (Array.getElem?_eq_some_iff.1 HVR4.out).1
   have hb5 : Below w4.heap.size w4 w5 := (Below.refl _ _).grown HG5.out.grown (Nat.le_refl _) (fun j hj => by cases hj)
   have HG6 := Lib.hid (grown_new (grown_on HG4.out hb5) (grown_setc w5 ⟨VB, 1, none⟩ (.slice A5 ct.length c5)) (Nat.le_of_lt HVW.out))
   have hAt : At (Rw w4.heap.size w5) w5 (.mk t ct []) (.slice A5 ct.length c5) (.slice none 0 0) := .mk t ct [] A5 c5 none 0 0 0 (fun _ => undef) (fun _ => undef) HC5.out (by have h1 := HCT.out.1; have h2 := HCT.out.2.2.1; omega) HN5.out HS5.out (fun ga oa e _ => HW5.out ga oa e) (Nat.le_refl _) (by decide) (fun _ => rfl) (fun h => absurd rfl h) (fun k o h => by simp at h) (fun k o h => by simp at h) (fun k o h => by simp at h) (fun k o h => by simp at h)
   have HAT := Lib.hid (at_setCells hAt hlV (Nat.le_refl _) 1 [.slice A5 ct.length c5])
   have HRD5 := Lib.hid ((HRD4.out.on hb5).kept (grown_setc w5 ⟨VB, 1, none⟩ (.slice A5 ct.length c5)) (by have h1 := HLO.out; have h2 := HVW.out; show lo ≤ VB; omega) (by have h1 := HNEV.out; show g ≠ VB; omega))
   have hv6 : (w5.setCell ⟨VB, 1, none⟩ (.slice A5 ct.length c5)).heap[VB]? = some (.cells #[.int .u8 (z : Int), .slice A5 ct.length c5, .slice none 0 0] 63 (0, 0)) := heap_setCell_same _ _ _ _ _ _ HVR5.out
   have hr6 : (w5.setCell ⟨VB, 1, none⟩ (.slice A5 ct.length c5)).heap[w.heap.size]? = some (.cells #[.int .u8 0, .slice none 0 0, .slice none 0 0] 63 (0, 0)) := (Below.heap_setCell _ _ _ _ (by have h2 := HVW.out; show w.heap.size ≠ VB; omega)).trans HRR5.out
   generalize hw6 : World.setCell w5 _ _ = w6 at HG6 HRD5 hv6 hr6 ⊢
   replace HAT : RowKit.Hid (At (Rw w4.heap.size w6) w6 (.mk t ct []) (.slice A5 ct.length c5) (.slice none 0 0)) := by rw [← hw6]; exact HAT
   have HV6 := Lib.hid hv6
   have HR6 := Lib.hid hr6
   have HLW : RowKit.Hid (w.heap.size < w4.heap.size) := Lib.hid (by have := HVW.out; omega)
   clear hw6 hAt hb5 hlV hv6 hr6 HG5 HVR5 HRR5 HC5 HN5 HS5 HW5 HS4 HVR4 HRR4 HRD4 HG4
   have hlt := (Array.getElem?_eq_some_iff.1 HV6.out).1
   obtain ⟨_, hc0, hc1, hc2⟩ := facts3 HV6.out
   have hrg := range3o hc0 hc1 hc2
   have hltR := (Array.getElem?_eq_some_iff.1 HR6.out).1
   obtain ⟨⟨hf0, hf1, hf2⟩, hd0, hd1, hd2⟩ := facts3 HR6.out
   go_wp2_with fail
   have e9 : ∀ a b c : Value, ((w6.setCell ⟨w.heap.size, 0, none⟩ a).setCell ⟨w.heap.size, 1, none⟩ b).setCell ⟨w.heap.size, 2, none⟩ c = w6.setCells w.heap.size 0 [a, b, c] := fun _ _ _ => rfl
   rw [e9]
   refine bodyPost_ret (v := .agg #[.int .u8 (z : Int), .slice A5 ct.length c5, .slice none 0 0]) (results_cell_row rfl _ _ w.heap.size 63 _ (0, 0) _ rfl (row_setCells8 HR6.out rfl) Try.underlying63 rfl (sz3o _ _ _)) rfl ⟨?_, .inr ⟨.mk t ct [], rr, _, _, A4, c3 - n, HP3.out, ?_, at_setCells HAT.out HLW.out (by have := HLW.out; omega) 0 _, ?_⟩⟩
   ·
    exact grown_set3 HG6.out (Nat.le_refl _) _ _ _
   ·
    show _ = Ending.returned (.agg #[.int .u8 ((t.toNat : Nat) : Int), _, _])
    rw [HZ.out]
   ·
    exact rdr_set3 HRD5.out HLO.out (fun e => HNE.out e.symm) _ _ _
  ·
   have h1i : ¬ (z : Int) < 128 := by omega
   have hp5 := HP2.out
   rw [if_neg h128] at hp5
   have HP3 := Lib.hid hp5
   clear hp5 HP2
   go_wp2_with fail
   clear hlt hc0 hc1 hc2
   obtain ⟨I, hI⟩ : ∃ I, w4.heap.size = I := ⟨_, rfl⟩
   obtain ⟨W1, hW1, hb1, hri⟩ : ∃ W1, World.alloc w4 (.cells #[.slice A3 n c3] 98) = W1 ∧ Below w4.heap.size w4 W1 ∧ W1.heap[w4.heap.size]? = some (.cells #[.slice A3 n c3] 98 (0, 0)) := ⟨_, rfl, below_new w4 _, heap_alloc_new w4 _⟩
   rw [hW1]
   have hVI : VB < w4.heap.size := (Array.getElem?_eq_some_iff.1 HVR4.out).1
   have hI1 := (Array.getElem?_eq_some_iff.1 hri).1
   have HVI : RowKit.Hid (w.heap.size < VB ∧ VB < I ∧ lo ≤ I ∧ I ≠ g ∧ I < W1.heap.size) := Lib.hid (by
    have h1 := HVW.out
    have h2 := HLO.out
    have h3 := HGL.out
    refine ⟨h1, by omega, by omega, by omega, by omega⟩)
   have HG5 := Lib.hid (grown_on HG4.out hb1)
   have HRR5 := Lib.hid (row_on HRR4.out hb1)
   have HRD5 := Lib.hid (HRD4.out.on hb1)
   have HLX5 : RowKit.Hid (LX W1 I VB (.int .u8 (z : Int)) (.slice none 0 0) [] none 0 0 W1) := Lib.hid ⟨rfl, rfl, rfl, Nat.le_refl _, fun _ _ _ _ => rfl, by omega, by omega, by omega, row_on HVR4.out hb1, mk_none _ _⟩
   rw [hI] at hri ⊢
   have HRI5 : RowKit.Hid (Rdr lo W1 I A3 ct c3) := Lib.hid ⟨by rw [HCT.out.1]; exact hri, HS4.out.on hb1, by rw [HCT.out.1]; exact HCT.out.2.1, HCT.out.2.2.2.1, by rw [HCT.out.1]; exact HCT.out.2.2.1, fun ga oa e h1 => by have h2 := HCT.out.2.2.2.2.1 ga oa e h1; have h3 := HVI.out.2.2.1; exact ⟨by omega, h2⟩⟩
   have HWS : RowKit.Hid (w.heap.size ≤ W1.heap.size) := Lib.hid (by have h1 := HVI.out; omega)
   clear hW1 hb1 hri hVI hI1 HG4 HRR4 HRD4 HVR4 HS4 hI
   go_loopw [27] (fun _ wr => ∃ (q : List UInt8) (ts : List (Oct × Value × Value)) (Aq : Option Addr) (cq : Nat) (PB : Option Addr) (pd kk j : Nat), RowKit.Hid (Rdr lo wr I Aq q cq) ∧ RowKit.Hid (q.length ≤ j ∧ 2 * kk + q.length ≤ n ∧ prs (prd k) k ct = (prs (prd k) j q).map (ts.map (·.1) ++ ·)) ∧ RowKit.Hid (LX W1 I VB (.int .u8 (z : Int)) (.slice none 0 0) ts PB pd kk wr) ∧ RowKit.Hid (Rdr lo wr g A4 rr (c3 - n)) ∧ RowKit.Hid (w.grownBy wr (some g)) ∧ RowKit.Hid (wr.heap[w.heap.size]? = some (.cells #[.int .u8 0, .slice none 0 0, .slice none 0 0] 63 (0, 0)))) (fun _ wr => lft I wr)
   case atStart => exact ⟨ct, [], A3, c3, none, 0, 0, k, HRI5, Lib.hid ⟨Nat.le_of_lt HCT.out.2.2.2.2.2, by have := HCT.out.1; omega, by cases prs (prd k) k ct <;> simp⟩, HLX5, HRD5, HG5, HRR5⟩
   case round =>
    clear HRI5 HLX5 HRD5 HG5 HRR5
    obtain ⟨q, ts, Aq, cq, PB, pd, kk, j, HRI, HJ, HLX, HRD, HGW, HRW⟩ := hrel
    have HLF := Lib.hid (lft_rdr HRI.out)
    have hlI := (Array.getElem?_eq_some_iff.1 HRI.out.row).1
    have hcI := cell_of_one HRI.out.row
    cases q with
    | nil =>
     rw [List.length_nil] at hcI
     have hpr : prs (prd k) k ct = some (ts.map (·.1)) := by
      rw [HJ.out.2.2, show prs (prd k) j [] = some [] by cases j <;> rfl]
      simp
     have HP9 : RowKit.Hid (prd (k + 1) (t :: b) = some (.mk t [] (ts.map (·.1)), rr)) := Lib.hid (by rw [HP3.out, hpr]; rfl)
     have hlV := (Array.getElem?_eq_some_iff.1 HLX.out.rg).1
     obtain ⟨_, hc0, hc1, hc2⟩ := facts3 HLX.out.rg
     have hrg := range3o hc0 hc1 hc2
     have hltR := (Array.getElem?_eq_some_iff.1 HRW.out).1
     obtain ⟨⟨hf0, hf1, hf2⟩, hd0, hd1, hd2⟩ := facts3 HRW.out
     have hlm := HLX.out.lm
     have hln : kk = ts.length := hlm.len.symm
     have how := hlm.own
     rw [hln] at how
     obtain ⟨B2, d2, hv2, hfin⟩ := at_of_rows t (b := []) (A := none) (c := 0) how hlm.done (by have h1 := HJ.out.2.1; have h2 := HCT.out; omega) (Nat.le_refl _) (by decide) (fun _ => rfl) (fun h => absurd rfl h) (fun _ _ _ h => absurd rfl h)
     rw [← hln] at hfin
     have HFIN := Lib.hid hfin
     have HRLT : RowKit.Hid (w.heap.size < W1.heap.size) := Lib.hid (by have h1 := HVI.out; omega)
     clear hpr hlm hln how hv2 hfin
     go_wp2_with fail
     have e9 : ∀ a b c : Value, ((wr.setCell ⟨w.heap.size, 0, none⟩ a).setCell ⟨w.heap.size, 1, none⟩ b).setCell ⟨w.heap.size, 2, none⟩ c = wr.setCells w.heap.size 0 [a, b, c] := fun _ _ _ => rfl
     rw [e9]
     refine bodyPost_ret (v := .agg #[.int .u8 (z : Int), .slice none 0 0, .slice PB kk pd]) (results_cell_row rfl _ _ w.heap.size 63 _ (0, 0) _ rfl (row_setCells8 HRW.out rfl) Try.underlying63 rfl (sz3o _ _ _)) rfl ⟨?_, .inr ⟨_, rr, _, _, A4, c3 - n, HP9.out, ?_, at_setCells HFIN.out HRLT.out (by have := HRLT.out; omega) 0 _, ?_⟩⟩
     ·
      exact grown_set3 HGW.out (Nat.le_refl _) _ _ _
     ·
      show _ = Ending.returned (.agg #[.int .u8 ((t.toNat : Nat) : Int), _, _])
      rw [HZ.out]
      rfl
     ·
      exact rdr_set3 HRD.out HLO.out (fun e => HNE.out e.symm) _ _ _
    | cons x q =>
     obtain ⟨m, hm⟩ : ∃ m, (x :: q).length = m := ⟨_, rfl⟩
     have HM := Lib.hid hm
     rw [hm] at hcI
     have hm0 : (0 : Int) < (m : Int) := by rw [← hm, List.length_cons]; omega
     have hmk : m < k ∧ m ≤ 1000000 := by have h1 := HJ.out.2.1; have h2 := HCT.out; omega
     have HMK := Lib.hid hmk
     clear hm hmk
     go_wp2_with fail
     clear hlI hcI hm0
     obtain ⟨U, hU⟩ : ∃ U, wr.drew = U := ⟨_, rfl⟩
     have hbU : Below wr.heap.size wr U := by rw [← hU]; exact (Below.refl _ _).drew
     have HXU := Lib.hid (HLX.out.on hbU)
     have HRIU := Lib.hid (HRI.out.on hbU)
     have HRDU := Lib.hid (HRD.out.on hbU)
     have HGU := Lib.hid (grown_on HGW.out hbU)
     have HRU := Lib.hid (row_on HRW.out hbU)
     have hcall := HV.out lo U I Aq (x :: q) cq HRIU.out (by have h1 := HVI.out; have h2 := HXU.out.sz; omega) (by have h1 := HMK.out.1; rw [HM.out]; omega)
     have HCALL := Lib.hid hcall
     have HLOO : RowKit.Hid (∀ j, Value.ownBlock (.slice PB kk pd) = some j → j < U.heap.size) := Lib.hid (fun j hj => (HXU.out.lm.own.lt j hj).2)
     have HKB : RowKit.Hid (kk ≤ 500000) := Lib.hid (by have h1 := HJ.out.2.1; have h2 := HCT.out; omega)
     clear hbU hcall HLX HRI HRD HGW HRW
     refine wp_region_held_drew (S := fun _ => True) (by kernel_rfl) trivial (fun hHeld => ?_)
     rw [hU]
     clear hU
     refine wpAnyH_take (i := 0) (oi := { dst := some 28, op := .fieldAddr 63 (.tmp 3) 2, type := 0, pos := "reader.go:42", after := #[], guard := none }) (v := ?_) rfl (by kernel_rfl) (by kernel_rfl) (by kernel_rfl) (fun _ _ _ h => h) (Or.inl ⟨by rfl, ?_⟩) hHeld ?_
     rotate_left
     ·
      intro w hSw
      clear hSw
      go_simp
      try with_reducible rfl
     try simp only [Act.put, List.setIfInBounds_toArray, List.set_cons_zero, List.set_cons_succ]
     refine wpAnyH_ready (rs := [1, 2]) (by kernel_rfl) (by simp) (AllReadyH.cons (o := { dst := some 29, op := .load 61 (.tmp 28), type := 61, pos := "reader.go:42", after := #[{ on := 0, ground := .data }], guard := none }) rfl (fun K hK => ?_) (AllReadyH.cons (o := { dst := some 30, op := .call { callee := .value (.func 57), args := #[.tmp 5], argTypes := #[98] }, type := 63, pos := "reader.go:42", after := #[], guard := none }) rfl (fun K hK => ?_) AllReadyH.nil))
     ·
      have hq2 := (facts3 HXU.out.rg).2.2.2
      go_simp
      clear hq2
      refine hK.out _ _ trivial (fun hHeld2 => ?_)
      clear hK K hHeld
      have hHeld := hHeld2
      clear hHeld2
      try simp only [Act.put, List.setIfInBounds_toArray, List.set_cons_zero, List.set_cons_succ]
      refine wpAnyH_ready (rs := [2]) (by kernel_rfl) (by simp) (AllReadyH.cons (o := { dst := some 30, op := .call { callee := .value (.func 57), args := #[.tmp 5], argTypes := #[98] }, type := 63, pos := "reader.go:42", after := #[], guard := none }) rfl (fun K hK => ?_) AllReadyH.nil)
      go_simp
      refine (HCALL.out).mono ?_
      rintro e z5 ⟨g5, ⟨hp5, rfl⟩ | ⟨o, r5, x, y, A5, c5, hp5, rfl, hat2, hrd5⟩⟩
      ·
       show _ ∧ _
       refine ⟨rfl, ?_⟩
       exact ⟨grown_new HGU.out g5 (by have h1 := HVI.out; omega), .inl ⟨by rw [HP3.out, HJ.out.2.2]; obtain ⟨i, rfl⟩ : ∃ i, j = i + 1 := ⟨j - 1, by have h1 := HJ.out.1; rw [List.length_cons] at h1; omega⟩; rw [prs, hp5]; rfl, rfl⟩⟩
      have HP5 := Lib.hid hp5
      have HRD5 := Lib.hid hrd5
      have HG5 := Lib.hid g5
      have HAT := Lib.hid hat2
      have HONE := Lib.hid (oct_one hat2)
      obtain ⟨A2, m2, c2, B2, n2, d2, rfl, rfl⟩ := hat2.slices
      have HX5 := Lib.hid (HXU.out.call g5)
      clear hat2 hp5 hrd5 g5
      go_simp
      refine hK.out _ _ trivial (fun hHeld2 => ?_)
      clear hK K hHeld
      have hHeld := hHeld2
      clear hHeld2
      try simp only [Act.put, List.setIfInBounds_toArray, List.set_cons_zero, List.set_cons_succ]
      refine wpAnyH_ready (rs := [3]) (by kernel_rfl) (by simp) (AllReadyH.cons (o := { dst := some 31, op := .buildSlice 61 1 #[(0, .tmp 30)], type := 61, pos := "reader.go:42", after := #[{ on := 2, ground := .data }], guard := none }) rfl (fun K hK => ?_) AllReadyH.nil)
      go_simp
      generalize hq : World.alloc z5 _ = z6
      have r6 : z6 = z5.alloc (.cells #[.int .u8 ((tagO o).toNat : Int), .slice A2 m2 c2, .slice B2 n2 d2] 63) := hq.symm
      have n6 : Below z5.heap.size z5 z6 := by rw [r6]; exact below_new _ _
      have HN6 := Lib.hid n6
      have HX6 := Lib.hid (HX5.out.on n6)
      have q6 : ∀ j u, ([.int .u8 ((tagO o).toNat : Int), .slice A2 m2 c2, .slice B2 n2 d2] : List Value)[j]? = some u → z6.cell? ((⟨z5.heap.size, 0, none⟩ : Addr).add j) = some u := by rw [r6]; exact cell_three_new _ _ _ _ _
      have HQ6 := Lib.hid q6
      clear hq r6 n6 q6
      refine hK.out _ _ trivial (fun hHeld2 => ?_)
      clear hK K hHeld
      have hHeld := hHeld2
      clear hHeld2
      try simp only [Act.put, List.setIfInBounds_toArray, List.set_cons_zero, List.set_cons_succ]
      refine wpAnyH_ready (rs := [4]) (by kernel_rfl) (by simp) (AllReadyH.cons (o := { dst := some 32, op := .call { callee := .builtin .append, args := #[.tmp 29, .tmp 31], argTypes := #[61, 61] }, type := 61, pos := "reader.go:42", after := #[{ on := 1, ground := .data }, { on := 3, ground := .data }, { on := 2, ground := .chain }], guard := none }) rfl (fun K hK => ?_) AllReadyH.nil)
      try rw [if_pos (by rfl)]
      refine wp_append_own_at8 (.tmp 29) (.tmp 31) rfl W1.heap.size _ _ _ rfl HX6.out.lm.own ⟨z5.heap.size, 0, none⟩ 1 1 [.int .u8 ((tagO o).toNat : Int), .slice A2 m2 c2, .slice B2 n2 d2] rfl rfl HQ6.out HONE.out (by have := HKB.out; omega) HX6.out.sz ?_
      intro v7 z7 o7 g7 l7
      have hput := HX6.out.lm.put2 U.heap.size HLOO.out HXU.out.sz (HAT.out.own HN6.out (Nat.le_refl _)) o7 g7 l7
      obtain ⟨A7, c7, rfl⟩ := own_sliceO o7
      have HS7 := Lib.hid (HX6.out.step g7 hput)
      have HG7 := Lib.hid g7
      clear g7 o7 l7 hput
      refine hK.out _ _ trivial (fun hHeld2 => ?_)
      clear hK K hHeld
      have hHeld := hHeld2
      clear hHeld2
      try simp only [Act.put, List.setIfInBounds_toArray, List.set_cons_zero, List.set_cons_succ]
      refine wpAnyH_take (i := 5) (oi := { dst := some 33, op := .fieldAddr 63 (.tmp 3) 2, type := 0, pos := "reader.go:42", after := #[{ on := 0, ground := .phase }, { on := 1, ground := .phase }, { on := 2, ground := .phase }, { on := 3, ground := .phase }, { on := 4, ground := .phase }], guard := none }) (v := ?_) rfl (by kernel_rfl) (by kernel_rfl) (by kernel_rfl) (fun _ _ _ h => h) (Or.inl ⟨by rfl, ?_⟩) hHeld ?_
      rotate_left
      ·
       intro w hSw
       clear hSw
       go_simp
       try with_reducible rfl
      try simp only [Act.put, List.setIfInBounds_toArray, List.set_cons_zero, List.set_cons_succ]
      refine wpAnyH_ready (rs := [6]) (by kernel_rfl) (by simp) (AllReadyH.cons (o := { dst := none, op := .store 61 (.tmp 33) (.tmp 32), type := 0, pos := "reader.go:42", after := #[{ on := 5, ground := .data }, { on := 4, ground := .data }, { on := 4, ground := .chain }, { on := 0, ground := .phase }, { on := 1, ground := .phase }, { on := 2, ground := .phase }, { on := 3, ground := .phase }, { on := 4, ground := .phase }], guard := none }) rfl (fun K hK => ?_) AllReadyH.nil)
      obtain ⟨⟨_, _, hf7⟩, _, _, hc7⟩ := facts3 HS7.out.1
      have hl7 := (Array.getElem?_eq_some_iff.1 HS7.out.1).1
      go_simp
      clear hf7 hc7 hl7
      refine hK.out _ _ trivial (fun hHeld2 => ?_)
      clear hK K hHeld hHeld2
      try simp only [Act.put, List.setIfInBounds_toArray, List.set_cons_zero, List.set_cons_succ]
      refine wpAnyH_done (by kernel_rfl) ?_ _
      have hbl := HX6.out.lm.own.lt
      have h77 := HVI.out
      have h78 := HWS.out
      have h79 := HXU.out.li
      have HX9 := Lib.hid HS7.out.2
      have HRI9 := Lib.hid (((HRD5.out.on HN6.out).keptr HG7.out (fun j hj => by have := (hbl j hj).1; exact ⟨by omega, by omega⟩)).kept (grown_setc z7 ⟨VB, 2, none⟩ (.slice A7 (kk + 1) c7)) (by have := HLO.out; show lo ≤ VB; omega) (by show I ≠ VB; omega))
      have HRD9 := Lib.hid ((((HRDU.out.kept HG5.out h77.2.2.1 (fun e => h77.2.2.2.1 e.symm)).on HN6.out).keptr HG7.out (fun j hj => by have := (hbl j hj).1; have := HGL.out; have := HLO.out; exact ⟨by omega, by omega⟩)).kept (grown_setc z7 ⟨VB, 2, none⟩ (.slice A7 (kk + 1) c7)) (by have := HLO.out; show lo ≤ VB; omega) (by have := HNEV.out; show g ≠ VB; omega))
      have HG9 := Lib.hid (grown_new ((grown_on (grown_new HGU.out HG5.out (by omega)) HN6.out).andThen HG7.out (fun j hj => .inl (by have := (hbl j hj).1; omega))) (grown_setc z7 ⟨VB, 2, none⟩ (.slice A7 (kk + 1) c7)) (by show w.heap.size ≤ VB; omega))
      have HR9 : RowKit.Hid ((z7.setCell ⟨VB, 2, none⟩ (.slice A7 (kk + 1) c7)).heap[w.heap.size]? = some (.cells #[.int .u8 0, .slice none 0 0, .slice none 0 0] 63 (0, 0))) := Lib.hid (by
       have q5 := row_on (row3_grown HRU.out HG5.out (by omega)) HN6.out
       rw [Below.heap_setCell _ _ _ _ (by show w.heap.size ≠ VB; omega), HG7.out.block w.heap.size (Array.getElem?_eq_some_iff.1 q5).1 (fun e => by have := (hbl _ e.symm).1; omega)]
       exact q5)
      clear hbl h77 h78 h79
      generalize World.setCell _ _ _ = z9 at HX9 HRI9 HRD9 HG9 HR9 ⊢
      obtain ⟨j, rfl⟩ : ∃ i, j = i + 1 := ⟨j - 1, by have h1 := HJ.out.1; rw [List.length_cons] at h1; omega⟩
      have hpl := prd_len _ _ _ _ HP5.out
      have HJ9 : RowKit.Hid (r5.length ≤ j ∧ 2 * (kk + 1) + r5.length ≤ n ∧ prs (prd k) k ct = (prs (prd k) j r5).map ((ts ++ [(o, Value.slice A2 m2 c2, Value.slice B2 n2 d2)]).map (·.1) ++ ·)) := Lib.hid (by
       have h1 := HJ.out.1
       have h2 := HJ.out.2.1
       refine ⟨by omega, by omega, ?_⟩
       rw [HJ.out.2.2, prs, HP5.out]
       show ((prs (prd k) j r5).map (o :: ·)).map _ = _
       cases prs (prd k) j r5 <;> simp)
      have HMS : RowKit.Hid (r5.length < (x :: q).length) := Lib.hid (by omega)
      clear hpl
      go_wp2_with fail
      exact ⟨⟨r5, _, A5, c5, _, _, kk + 1, j, HRI9, HJ9, HX9, HRD9, HG9, HR9⟩, by rw [HLF.out, lft_rdr HRI9.out]; exact HMS.out⟩
     ·
      go_simp
      refine (HCALL.out).mono ?_
      rintro e z5 ⟨g5, ⟨hp5, rfl⟩ | ⟨o, r5, x, y, A5, c5, hp5, rfl, hat2, hrd5⟩⟩
      ·
       show _ ∧ _
       refine ⟨rfl, ?_⟩
       exact ⟨grown_new HGU.out g5 (by have h1 := HVI.out; omega), .inl ⟨by rw [HP3.out, HJ.out.2.2]; obtain ⟨i, rfl⟩ : ∃ i, j = i + 1 := ⟨j - 1, by have h1 := HJ.out.1; rw [List.length_cons] at h1; omega⟩; rw [prs, hp5]; rfl, rfl⟩⟩
      have HP5 := Lib.hid hp5
      have HRD5 := Lib.hid hrd5
      have HG5 := Lib.hid g5
      have HAT := Lib.hid hat2
      have HONE := Lib.hid (oct_one hat2)
      obtain ⟨A2, m2, c2, B2, n2, d2, rfl, rfl⟩ := hat2.slices
      have HX5 := Lib.hid (HXU.out.call g5)
      clear hat2 hp5 hrd5 g5
      go_simp
      refine hK.out _ _ trivial (fun hHeld2 => ?_)
      clear hK K hHeld
      have hHeld := hHeld2
      clear hHeld2
      try simp only [Act.put, List.setIfInBounds_toArray, List.set_cons_zero, List.set_cons_succ]
      refine wpAnyH_ready (rs := [1, 3]) (by kernel_rfl) (by simp) (AllReadyH.cons (o := { dst := some 29, op := .load 61 (.tmp 28), type := 61, pos := "reader.go:42", after := #[{ on := 0, ground := .data }], guard := none }) rfl (fun K hK => ?_) (AllReadyH.cons (o := { dst := some 31, op := .buildSlice 61 1 #[(0, .tmp 30)], type := 61, pos := "reader.go:42", after := #[{ on := 2, ground := .data }], guard := none }) rfl (fun K hK => ?_) AllReadyH.nil))
      ·
       have hq2 := (facts3 HX5.out.rg).2.2.2
       go_simp
       clear hq2
       refine hK.out _ _ trivial (fun hHeld2 => ?_)
       clear hK K hHeld
       have hHeld := hHeld2
       clear hHeld2
       try simp only [Act.put, List.setIfInBounds_toArray, List.set_cons_zero, List.set_cons_succ]
       refine wpAnyH_ready (rs := [3]) (by kernel_rfl) (by simp) (AllReadyH.cons (o := { dst := some 31, op := .buildSlice 61 1 #[(0, .tmp 30)], type := 61, pos := "reader.go:42", after := #[{ on := 2, ground := .data }], guard := none }) rfl (fun K hK => ?_) AllReadyH.nil)
       go_simp
       generalize hq : World.alloc z5 _ = z6
       have r6 : z6 = z5.alloc (.cells #[.int .u8 ((tagO o).toNat : Int), .slice A2 m2 c2, .slice B2 n2 d2] 63) := hq.symm
       have n6 : Below z5.heap.size z5 z6 := by rw [r6]; exact below_new _ _
       have HN6 := Lib.hid n6
       have HX6 := Lib.hid (HX5.out.on n6)
       have q6 : ∀ j u, ([.int .u8 ((tagO o).toNat : Int), .slice A2 m2 c2, .slice B2 n2 d2] : List Value)[j]? = some u → z6.cell? ((⟨z5.heap.size, 0, none⟩ : Addr).add j) = some u := by rw [r6]; exact cell_three_new _ _ _ _ _
       have HQ6 := Lib.hid q6
       clear hq r6 n6 q6
       refine hK.out _ _ trivial (fun hHeld2 => ?_)
       clear hK K hHeld
       have hHeld := hHeld2
       clear hHeld2
       try simp only [Act.put, List.setIfInBounds_toArray, List.set_cons_zero, List.set_cons_succ]
       refine wpAnyH_ready (rs := [4]) (by kernel_rfl) (by simp) (AllReadyH.cons (o := { dst := some 32, op := .call { callee := .builtin .append, args := #[.tmp 29, .tmp 31], argTypes := #[61, 61] }, type := 61, pos := "reader.go:42", after := #[{ on := 1, ground := .data }, { on := 3, ground := .data }, { on := 2, ground := .chain }], guard := none }) rfl (fun K hK => ?_) AllReadyH.nil)
       try rw [if_pos (by rfl)]
       refine wp_append_own_at8 (.tmp 29) (.tmp 31) rfl W1.heap.size _ _ _ rfl HX6.out.lm.own ⟨z5.heap.size, 0, none⟩ 1 1 [.int .u8 ((tagO o).toNat : Int), .slice A2 m2 c2, .slice B2 n2 d2] rfl rfl HQ6.out HONE.out (by have := HKB.out; omega) HX6.out.sz ?_
       intro v7 z7 o7 g7 l7
       have hput := HX6.out.lm.put2 U.heap.size HLOO.out HXU.out.sz (HAT.out.own HN6.out (Nat.le_refl _)) o7 g7 l7
       obtain ⟨A7, c7, rfl⟩ := own_sliceO o7
       have HS7 := Lib.hid (HX6.out.step g7 hput)
       have HG7 := Lib.hid g7
       clear g7 o7 l7 hput
       refine hK.out _ _ trivial (fun hHeld2 => ?_)
       clear hK K hHeld
       have hHeld := hHeld2
       clear hHeld2
       try simp only [Act.put, List.setIfInBounds_toArray, List.set_cons_zero, List.set_cons_succ]
       refine wpAnyH_take (i := 5) (oi := { dst := some 33, op := .fieldAddr 63 (.tmp 3) 2, type := 0, pos := "reader.go:42", after := #[{ on := 0, ground := .phase }, { on := 1, ground := .phase }, { on := 2, ground := .phase }, { on := 3, ground := .phase }, { on := 4, ground := .phase }], guard := none }) (v := ?_) rfl (by kernel_rfl) (by kernel_rfl) (by kernel_rfl) (fun _ _ _ h => h) (Or.inl ⟨by rfl, ?_⟩) hHeld ?_
       rotate_left
       ·
        intro w hSw
        clear hSw
        go_simp
        try with_reducible rfl
       try simp only [Act.put, List.setIfInBounds_toArray, List.set_cons_zero, List.set_cons_succ]
       refine wpAnyH_ready (rs := [6]) (by kernel_rfl) (by simp) (AllReadyH.cons (o := { dst := none, op := .store 61 (.tmp 33) (.tmp 32), type := 0, pos := "reader.go:42", after := #[{ on := 5, ground := .data }, { on := 4, ground := .data }, { on := 4, ground := .chain }, { on := 0, ground := .phase }, { on := 1, ground := .phase }, { on := 2, ground := .phase }, { on := 3, ground := .phase }, { on := 4, ground := .phase }], guard := none }) rfl (fun K hK => ?_) AllReadyH.nil)
       obtain ⟨⟨_, _, hf7⟩, _, _, hc7⟩ := facts3 HS7.out.1
       have hl7 := (Array.getElem?_eq_some_iff.1 HS7.out.1).1
       go_simp
       clear hf7 hc7 hl7
       refine hK.out _ _ trivial (fun hHeld2 => ?_)
       clear hK K hHeld hHeld2
       try simp only [Act.put, List.setIfInBounds_toArray, List.set_cons_zero, List.set_cons_succ]
       refine wpAnyH_done (by kernel_rfl) ?_ _
       have hbl := HX6.out.lm.own.lt
       have h77 := HVI.out
       have h78 := HWS.out
       have h79 := HXU.out.li
       have HX9 := Lib.hid HS7.out.2
       have HRI9 := Lib.hid (((HRD5.out.on HN6.out).keptr HG7.out (fun j hj => by have := (hbl j hj).1; exact ⟨by omega, by omega⟩)).kept (grown_setc z7 ⟨VB, 2, none⟩ (.slice A7 (kk + 1) c7)) (by have := HLO.out; show lo ≤ VB; omega) (by show I ≠ VB; omega))
       have HRD9 := Lib.hid ((((HRDU.out.kept HG5.out h77.2.2.1 (fun e => h77.2.2.2.1 e.symm)).on HN6.out).keptr HG7.out (fun j hj => by have := (hbl j hj).1; have := HGL.out; have := HLO.out; exact ⟨by omega, by omega⟩)).kept (grown_setc z7 ⟨VB, 2, none⟩ (.slice A7 (kk + 1) c7)) (by have := HLO.out; show lo ≤ VB; omega) (by have := HNEV.out; show g ≠ VB; omega))
       have HG9 := Lib.hid (grown_new ((grown_on (grown_new HGU.out HG5.out (by omega)) HN6.out).andThen HG7.out (fun j hj => .inl (by have := (hbl j hj).1; omega))) (grown_setc z7 ⟨VB, 2, none⟩ (.slice A7 (kk + 1) c7)) (by show w.heap.size ≤ VB; omega))
       have HR9 : RowKit.Hid ((z7.setCell ⟨VB, 2, none⟩ (.slice A7 (kk + 1) c7)).heap[w.heap.size]? = some (.cells #[.int .u8 0, .slice none 0 0, .slice none 0 0] 63 (0, 0))) := Lib.hid (by
        have q5 := row_on (row3_grown HRU.out HG5.out (by omega)) HN6.out
        rw [Below.heap_setCell _ _ _ _ (by show w.heap.size ≠ VB; omega), HG7.out.block w.heap.size (Array.getElem?_eq_some_iff.1 q5).1 (fun e => by have := (hbl _ e.symm).1; omega)]
        exact q5)
       clear hbl h77 h78 h79
       generalize World.setCell _ _ _ = z9 at HX9 HRI9 HRD9 HG9 HR9 ⊢
       obtain ⟨j, rfl⟩ : ∃ i, j = i + 1 := ⟨j - 1, by have h1 := HJ.out.1; rw [List.length_cons] at h1; omega⟩
       have hpl := prd_len _ _ _ _ HP5.out
       have HJ9 : RowKit.Hid (r5.length ≤ j ∧ 2 * (kk + 1) + r5.length ≤ n ∧ prs (prd k) k ct = (prs (prd k) j r5).map ((ts ++ [(o, Value.slice A2 m2 c2, Value.slice B2 n2 d2)]).map (·.1) ++ ·)) := Lib.hid (by
        have h1 := HJ.out.1
        have h2 := HJ.out.2.1
        refine ⟨by omega, by omega, ?_⟩
        rw [HJ.out.2.2, prs, HP5.out]
        show ((prs (prd k) j r5).map (o :: ·)).map _ = _
        cases prs (prd k) j r5 <;> simp)
       have HMS : RowKit.Hid (r5.length < (x :: q).length) := Lib.hid (by omega)
       clear hpl
       go_wp2_with fail
       exact ⟨⟨r5, _, A5, c5, _, _, kk + 1, j, HRI9, HJ9, HX9, HRD9, HG9, HR9⟩, by rw [HLF.out, lft_rdr HRI9.out]; exact HMS.out⟩
      ·
       go_simp
       generalize hq : World.alloc z5 _ = z6
       have r6 : z6 = z5.alloc (.cells #[.int .u8 ((tagO o).toNat : Int), .slice A2 m2 c2, .slice B2 n2 d2] 63) := hq.symm
       have n6 : Below z5.heap.size z5 z6 := by rw [r6]; exact below_new _ _
       have HN6 := Lib.hid n6
       have HX6 := Lib.hid (HX5.out.on n6)
       have q6 : ∀ j u, ([.int .u8 ((tagO o).toNat : Int), .slice A2 m2 c2, .slice B2 n2 d2] : List Value)[j]? = some u → z6.cell? ((⟨z5.heap.size, 0, none⟩ : Addr).add j) = some u := by rw [r6]; exact cell_three_new _ _ _ _ _
       have HQ6 := Lib.hid q6
       clear hq r6 n6 q6
       refine hK.out _ _ trivial (fun hHeld2 => ?_)
       clear hK K hHeld
       have hHeld := hHeld2
       clear hHeld2
       try simp only [Act.put, List.setIfInBounds_toArray, List.set_cons_zero, List.set_cons_succ]
       refine wpAnyH_ready (rs := [1]) (by kernel_rfl) (by simp) (AllReadyH.cons (o := { dst := some 29, op := .load 61 (.tmp 28), type := 61, pos := "reader.go:42", after := #[{ on := 0, ground := .data }], guard := none }) rfl (fun K hK => ?_) AllReadyH.nil)
       have hq2 := (facts3 HX6.out.rg).2.2.2
       go_simp
       clear hq2
       refine hK.out _ _ trivial (fun hHeld2 => ?_)
       clear hK K hHeld
       have hHeld := hHeld2
       clear hHeld2
       try simp only [Act.put, List.setIfInBounds_toArray, List.set_cons_zero, List.set_cons_succ]
       refine wpAnyH_ready (rs := [4]) (by kernel_rfl) (by simp) (AllReadyH.cons (o := { dst := some 32, op := .call { callee := .builtin .append, args := #[.tmp 29, .tmp 31], argTypes := #[61, 61] }, type := 61, pos := "reader.go:42", after := #[{ on := 1, ground := .data }, { on := 3, ground := .data }, { on := 2, ground := .chain }], guard := none }) rfl (fun K hK => ?_) AllReadyH.nil)
       try rw [if_pos (by rfl)]
       refine wp_append_own_at8 (.tmp 29) (.tmp 31) rfl W1.heap.size _ _ _ rfl HX6.out.lm.own ⟨z5.heap.size, 0, none⟩ 1 1 [.int .u8 ((tagO o).toNat : Int), .slice A2 m2 c2, .slice B2 n2 d2] rfl rfl HQ6.out HONE.out (by have := HKB.out; omega) HX6.out.sz ?_
       intro v7 z7 o7 g7 l7
       have hput := HX6.out.lm.put2 U.heap.size HLOO.out HXU.out.sz (HAT.out.own HN6.out (Nat.le_refl _)) o7 g7 l7
       obtain ⟨A7, c7, rfl⟩ := own_sliceO o7
       have HS7 := Lib.hid (HX6.out.step g7 hput)
       have HG7 := Lib.hid g7
       clear g7 o7 l7 hput
       refine hK.out _ _ trivial (fun hHeld2 => ?_)
       clear hK K hHeld
       have hHeld := hHeld2
       clear hHeld2
       try simp only [Act.put, List.setIfInBounds_toArray, List.set_cons_zero, List.set_cons_succ]
       refine wpAnyH_take (i := 5) (oi := { dst := some 33, op := .fieldAddr 63 (.tmp 3) 2, type := 0, pos := "reader.go:42", after := #[{ on := 0, ground := .phase }, { on := 1, ground := .phase }, { on := 2, ground := .phase }, { on := 3, ground := .phase }, { on := 4, ground := .phase }], guard := none }) (v := ?_) rfl (by kernel_rfl) (by kernel_rfl) (by kernel_rfl) (fun _ _ _ h => h) (Or.inl ⟨by rfl, ?_⟩) hHeld ?_
       rotate_left
       ·
        intro w hSw
        clear hSw
        go_simp
        try with_reducible rfl
       try simp only [Act.put, List.setIfInBounds_toArray, List.set_cons_zero, List.set_cons_succ]
       refine wpAnyH_ready (rs := [6]) (by kernel_rfl) (by simp) (AllReadyH.cons (o := { dst := none, op := .store 61 (.tmp 33) (.tmp 32), type := 0, pos := "reader.go:42", after := #[{ on := 5, ground := .data }, { on := 4, ground := .data }, { on := 4, ground := .chain }, { on := 0, ground := .phase }, { on := 1, ground := .phase }, { on := 2, ground := .phase }, { on := 3, ground := .phase }, { on := 4, ground := .phase }], guard := none }) rfl (fun K hK => ?_) AllReadyH.nil)
       obtain ⟨⟨_, _, hf7⟩, _, _, hc7⟩ := facts3 HS7.out.1
       have hl7 := (Array.getElem?_eq_some_iff.1 HS7.out.1).1
       go_simp
       clear hf7 hc7 hl7
       refine hK.out _ _ trivial (fun hHeld2 => ?_)
       clear hK K hHeld hHeld2
       try simp only [Act.put, List.setIfInBounds_toArray, List.set_cons_zero, List.set_cons_succ]
       refine wpAnyH_done (by kernel_rfl) ?_ _
       have hbl := HX6.out.lm.own.lt
       have h77 := HVI.out
       have h78 := HWS.out
       have h79 := HXU.out.li
       have HX9 := Lib.hid HS7.out.2
       have HRI9 := Lib.hid (((HRD5.out.on HN6.out).keptr HG7.out (fun j hj => by have := (hbl j hj).1; exact ⟨by omega, by omega⟩)).kept (grown_setc z7 ⟨VB, 2, none⟩ (.slice A7 (kk + 1) c7)) (by have := HLO.out; show lo ≤ VB; omega) (by show I ≠ VB; omega))
       have HRD9 := Lib.hid ((((HRDU.out.kept HG5.out h77.2.2.1 (fun e => h77.2.2.2.1 e.symm)).on HN6.out).keptr HG7.out (fun j hj => by have := (hbl j hj).1; have := HGL.out; have := HLO.out; exact ⟨by omega, by omega⟩)).kept (grown_setc z7 ⟨VB, 2, none⟩ (.slice A7 (kk + 1) c7)) (by have := HLO.out; show lo ≤ VB; omega) (by have := HNEV.out; show g ≠ VB; omega))
       have HG9 := Lib.hid (grown_new ((grown_on (grown_new HGU.out HG5.out (by omega)) HN6.out).andThen HG7.out (fun j hj => .inl (by have := (hbl j hj).1; omega))) (grown_setc z7 ⟨VB, 2, none⟩ (.slice A7 (kk + 1) c7)) (by show w.heap.size ≤ VB; omega))
       have HR9 : RowKit.Hid ((z7.setCell ⟨VB, 2, none⟩ (.slice A7 (kk + 1) c7)).heap[w.heap.size]? = some (.cells #[.int .u8 0, .slice none 0 0, .slice none 0 0] 63 (0, 0))) := Lib.hid (by
        have q5 := row_on (row3_grown HRU.out HG5.out (by omega)) HN6.out
        rw [Below.heap_setCell _ _ _ _ (by show w.heap.size ≠ VB; omega), HG7.out.block w.heap.size (Array.getElem?_eq_some_iff.1 q5).1 (fun e => by have := (hbl _ e.symm).1; omega)]
        exact q5)
       clear hbl h77 h78 h79
       generalize World.setCell _ _ _ = z9 at HX9 HRI9 HRD9 HG9 HR9 ⊢
       obtain ⟨j, rfl⟩ : ∃ i, j = i + 1 := ⟨j - 1, by have h1 := HJ.out.1; rw [List.length_cons] at h1; omega⟩
       have hpl := prd_len _ _ _ _ HP5.out
       have HJ9 : RowKit.Hid (r5.length ≤ j ∧ 2 * (kk + 1) + r5.length ≤ n ∧ prs (prd k) k ct = (prs (prd k) j r5).map ((ts ++ [(o, Value.slice A2 m2 c2, Value.slice B2 n2 d2)]).map (·.1) ++ ·)) := Lib.hid (by
        have h1 := HJ.out.1
        have h2 := HJ.out.2.1
        refine ⟨by omega, by omega, ?_⟩
        rw [HJ.out.2.2, prs, HP5.out]
        show ((prs (prd k) j r5).map (o :: ·)).map _ = _
        cases prs (prd k) j r5 <;> simp)
       have HMS : RowKit.Hid (r5.length < (x :: q).length) := Lib.hid (by omega)
       clear hpl
       go_wp2_with fail
       exact ⟨⟨r5, _, A5, c5, _, _, kk + 1, j, HRI9, HJ9, HX9, HRD9, HG9, HR9⟩, by rw [HLF.out, lft_rdr HRI9.out]; exact HMS.out⟩
end Go.Proofs.Ythfgdgcdicacpaa
namespace Go.Proofs.Ythfgdgcdicacpaa
open Go.RowKit Sha Oc
set_option linter.unusedVariables false
set_option linter.unusedSimpArgs false
attribute [local go_sem] Oper.semAt_some
theorem value_all : ∀ (k : Nat) (lo : Nat) (W : World) (g : Nat) (A : Option Addr) (L : List UInt8) (c : Nat), Rdr lo W g A L c → lo ≤ W.heap.size → L.length < k → Calls Try.prog 57 #[.pointer (some ⟨g, 0, none⟩)] W (VlPost lo k g L W)
 | 0, _, _, _, _, _, _, _, _, h => by omega
 | k + 1, lo, W, g, A, L, c, h, hl, hk => value_of k (value_all k) lo W g A L c h hl hk
mutual
def vis : Nat → Oct → List (Nat × Oct)
 | d, .mk t b l => (d, .mk t b l) :: viss (d + 1) l
def viss : Nat → List Oct → List (Nat × Oct)
 | _, [] => []
 | d, v :: r => vis d v ++ viss d r
end
theorem viss_app (d : Nat) : ∀ l r : List Oct, viss d (l ++ r) = viss d l ++ viss d r
 | [], r => by rw [List.nil_append, viss, List.nil_append]
 | v :: q, r => by rw [List.cons_append, viss, viss_app d q r, viss, List.append_assoc]
theorem viss_one (d : Nat) (o : Oct) : viss d [o] = vis d o := by rw [viss, viss, List.append_nil]
mutual
theorem vis_len : ∀ (d : Nat) (o : Oct), (vis d o).length = cnt o
 | d, .mk t b l => by rw [vis, List.length_cons, viss_len (d + 1) l, cnt]; omega
theorem viss_len : ∀ (d : Nat) (l : List Oct), (viss d l).length = cnts l
 | _, [] => by rw [viss, cnts]; rfl
 | d, v :: r => by rw [viss, List.length_append, vis_len d v, viss_len d r, cnts]
end
mutual
theorem vis_dep : ∀ (d : Nat) (o : Oct), (∀ e ∈ vis d o, e.1 + 1 ≤ d + dep o) ∧ ∃ e ∈ vis d o, e.1 + 1 = d + dep o
 | d, .mk t b l => by
  obtain ⟨h1, h2⟩ := viss_dep (d + 1) l
  rw [vis, dep]
  refine ⟨fun e he => ?_, ?_⟩
  ·
   rcases List.mem_cons.1 he with rfl | he
   ·
    show d + 1 ≤ _; omega
   ·
    have := h1 e he; omega
  ·
   rcases h2 with rfl | ⟨e, he, h3⟩
   ·
    exact ⟨_, List.mem_cons_self .., by rw [deps]⟩
   ·
    exact ⟨e, List.mem_cons_of_mem _ he, by omega⟩
theorem viss_dep : ∀ (d : Nat) (l : List Oct), (∀ e ∈ viss d l, e.1 + 1 ≤ d + deps l) ∧ (l = [] ∨ ∃ e ∈ viss d l, e.1 + 1 = d + deps l)
 | _, [] => ⟨fun e he => (by rw [viss] at he; cases he), .inl rfl⟩
 | d, v :: r => by
  obtain ⟨h1, e, he, h2⟩ := vis_dep d v
  obtain ⟨h3, h4⟩ := viss_dep d r
  rw [viss, deps]
  refine ⟨fun e he => ?_, .inr ?_⟩
  ·
   rcases List.mem_append.1 he with he | he
   ·
    have := h1 e he; omega
   ·
    have := h3 e he; omega
  ·
   by_cases hm : deps r ≤ dep v
   ·
    exact ⟨e, List.mem_append_left _ he, by omega⟩
   ·
    rcases h4 with rfl | ⟨e', he', h5⟩
    ·
     rw [deps] at hm; omega
    ·
     exact ⟨e', List.mem_append_right _ he', by omega⟩
end
def topB (o : Oct) : Bool := okTop (tagO o) (bytO o).length (kids o).length
mutual
theorem vis_shp : ∀ (d : Nat) (o : Oct), shpB o = (vis d o).all fun e => topB e.2
 | d, .mk t b l => by rw [shpB, vis, List.all_cons, viss_shp (d + 1) l]; rfl
theorem viss_shp : ∀ (d : Nat) (l : List Oct), shpsB l = (viss d l).all fun e => topB e.2
 | _, [] => by rw [shpsB, viss]; rfl
 | d, v :: r => by rw [shpsB, viss, List.all_append, vis_shp d v, viss_shp d r]
end
set_option maxRecDepth 100000 in
set_option maxHeartbeats 4000000 in
theorem simple_any (t : UInt8) (A B : Option Addr) (m n c d : Nat) (w : World) : Calls Try.prog 72 #[.agg #[.int .u8 (t.toNat : Int), .slice A m c, .slice B n d]] w fun e w' => e = .returned (.bool (okTop t m n)) ∧ Below w.heap.size w w' := by
 have hz : t.toNat < 256 := t.toNat_lt
 unfold okTop
 obtain ⟨z, hzz⟩ : ∃ z, t.toNat = z := ⟨_, rfl⟩
 rw [hzz] at hz ⊢
 clear hzz
 by_cases h1 : z < 128
 ·
  have h1i : (z : Int) < 128 := by omega
  by_cases h2 : z = 0
  ·
   subst h2
   rw [decide_eq_false (by omega)]
   go_enter Try.func72, Try.ntmps72
   go_wp2_with fail
   go_ret
   exact ⟨rfl, below_new w _⟩
  ·
   have h2i : ((z : Int) != 0) = true := by simp [h2]
   by_cases h3 : n = 0
   ·
    subst h3
    rw [decide_eq_true (by omega)]
    go_enter Try.func72, Try.ntmps72
    go_wp2_with fail
    go_ret
    exact ⟨rfl, below_new w _⟩
   ·
    have h3i : ((n : Int) == 0) = false := by simp [h3]
    rw [decide_eq_false (by omega)]
    go_enter Try.func72, Try.ntmps72
    go_wp2_with fail
    go_ret
    exact ⟨rfl, below_new w _⟩
 ·
  have h1i : ¬ (z : Int) < 128 := by omega
  by_cases h3 : m = 0
  ·
   subst h3
   rw [decide_eq_true (by omega)]
   go_enter Try.func72, Try.ntmps72
   go_wp2_with fail
   go_ret
   exact ⟨rfl, below_new w _⟩
  ·
   have h3i : ((m : Int) == 0) = false := by simp [h3]
   rw [decide_eq_false (by omega)]
   go_enter Try.func72, Try.ntmps72
   go_wp2_with fail
   go_ret
   exact ⟨rfl, below_new w _⟩
structure Kp8 (n0 n1 : Nat) (W W' : World) : Prop where
 bl : Below n0 W W'
 up : ∀ b cs t fr, n1 ≤ b → W.heap[b]? = some (.cells cs t fr) → W'.heap[b]? = some (.cells cs t fr)
theorem Kp8.refl (n0 n1 : Nat) (W : World) : Kp8 n0 n1 W W := ⟨Below.refl _ _, fun _ _ _ _ _ h => h⟩
theorem Kp8.trans {n0 n1 : Nat} {A B C : World} (h : Kp8 n0 n1 A B) (k : Kp8 n0 n1 B C) : Kp8 n0 n1 A C := ⟨h.bl.trans k.bl, fun b cs t fr hb hc => k.up b cs t fr hb (h.up b cs t fr hb hc)⟩
theorem Kp8.of {n0 n1 : Nat} {A B : World} (h : Below A.heap.size A B) (hn : n0 ≤ A.heap.size) : Kp8 n0 n1 A B := ⟨h.mono hn, fun b cs t fr _ hc => row_on hc h⟩
abbrev El := Nat × Oct × (Option Addr × Nat) × (Option Addr × Nat)
abbrev encE (a : El) : Array Value := #[.int .i64 (a.1 : Int), .agg #[.int .u8 ((tagO a.2.1).toNat : Int), .slice a.2.2.1.1 (bytO a.2.1).length a.2.2.1.2, .slice a.2.2.2.1 (kids a.2.1).length a.2.2.2.2]]
abbrev prjE (a : El) : Nat × Oct := (a.1, a.2.1)
def VsPost (J Jx : List El → World → Prop) (n0 n1 : Nat) (pre : List El) (d : Nat) (o : Oct) (W : World) (e : Ending) (W' : World) : Prop :=
 (e = .returned (.bool true) ∧ ∃ q, q.map prjE = vis d o ∧ J (pre ++ q) W' ∧ Kp8 n0 n1 W W') ∨ (e = .returned (.bool false) ∧ ∃ q, q.map prjE <+: vis d o ∧ Jx (pre ++ q) W')
set_option maxRecDepth 100000 in
set_option maxHeartbeats 4000000 in
theorem visit_of (l : Nat) (n0 n1 N lo : Nat) (J Jx : List El → World → Prop) (hJ : AbidesFrom lo J) (hn : n0 ≤ n1)
  (hY : ∀ m pre x W, J pre W → pre.length < N → YieldAt Fence.wide m Try.prog l (encE x) W fun e W' => (e = .returned (.bool true) ∧ J (pre ++ [x]) W' ∧ Kp8 n0 n1 W W') ∨ (e = .returned (.bool false) ∧ Jx (pre ++ [x]) W'))
  (t : UInt8) (b : List UInt8) (ls : List Oct)
  (ih : ∀ (k : Nat) (o : Oct), ls[k]? = some o → ∀ (n d : Nat) (x y : Value) (pre : List El) (W : World), n1 ≤ W.heap.size → d + cnt o ≤ 1000000 → At (fun g => g < n0) W o x y → J pre W → pre.length + cnt o ≤ N → CallsIn Fence.wide n Try.prog 94 #[.int .i64 (d : Int), .agg (cell3 o x y), .func (.yield l) #[] #[]] W (VsPost J Jx n0 n1 pre d o W))
  (n d : Nat) (x y : Value) (pre : List El) (W : World) (hW : n1 ≤ W.heap.size) (hd : d + cnt (.mk t b ls) ≤ 1000000) (hat : At (fun g => g < n0) W (.mk t b ls) x y) (h0 : J pre W) (hN : pre.length + cnt (.mk t b ls) ≤ N) :
  CallsIn Fence.wide n Try.prog 94 #[.int .i64 (d : Int), .agg (cell3 (.mk t b ls) x y), .func (.yield l) #[] #[]] W (VsPost J Jx n0 n1 pre d (.mk t b ls) W) := by
 obtain ⟨A, c, B, dd, g, off, vb, vl, rfl, rfl, hc, hbm, hcn0, hs, hsA, hdl, hdn, he⟩ := hat.elsR
 obtain ⟨m, hm⟩ : ∃ m, b.length = m := ⟨_, rfl⟩
 obtain ⟨q, hq⟩ : ∃ q, ls.length = q := ⟨_, rfl⟩
 have hll := len_cnts ls
 have hcc : cnt (.mk t b ls) = 1 + cnts ls := by rw [cnt]
 unfold VsPost at ih ⊢
 have hal : ∀ (s : List El) (W : World) (o : Obj), J s W → J s (W.alloc o) := fun s W o hs => hJ s W _ none hs (World.grownBy_alloc W o none) (fun r e => by cases e)
 have HAL := Lib.hid hal
 have HIH := Lib.hid ih
 have HE := Lib.hid he
 have HQ := Lib.hid hq
 have HCC := Lib.hid hcc
 have HDB := Lib.hid hd
 have HNB := Lib.hid hN
 have HW := Lib.hid hW
 have HN01 := Lib.hid hn
 show CallsIn Fence.wide n Try.prog 94 #[.int .i64 (d : Int), .agg #[.int .u8 (t.toNat : Int), .slice A b.length c, .slice B ls.length dd], .func (.yield l) #[] #[]] W _
 have hYY := hY (n - 1) pre (d, .mk t b ls, (A, c), (B, dd)) (W.alloc (.cells #[.int .u8 (t.toNat : Int), .slice A m c, .slice B q dd] 63)) (hal _ _ _ h0) (by omega)
 obtain ⟨fn, tmps, assign, body, hy, hR⟩ := hYY
 have HR := Lib.hid hR
 have HLB := Lib.hid (show q ≤ 1000000 by omega)
 have hy2 : _ := hy
 dsimp only [encE, tagO, bytO, kids] at hy
 rw [hm, hq] at hy ⊢
 have HRW := Lib.hid (heap_alloc_new W (.cells #[.int .u8 (t.toNat : Int), .slice A m c, .slice B q dd] 63))
 clear ih he hq hcc hd hN hW hn hR hal h0 hat hc hbm hcn0 hs hsA hdl hdn hll hm hJ hY hy2
 refine callsIn_of_wp Try.func94 rfl trivial ?_ rfl
 simp only [Try.ntmps94, List.size_toArray, List.length_cons, List.length_nil, Nat.reduceAdd, Nat.reduceSub, Array.replicate_succ, Array.replicate_zero, List.push_toArray, List.append_toArray, List.nil_append, List.cons_append]
 gi_wp2_with fail
 refine ⟨fun h => (by cases h), HR.out.mono ?_⟩
 rintro e W2 (⟨rfl, hJ2, hk2⟩ | ⟨rfl, hx2⟩)
 ·
  have HJ2 := Lib.hid hJ2
  have HR2 := Lib.hid (hk2.up W.heap.size _ _ _ HW.out HRW.out)
  have HK2 : RowKit.Hid (Kp8 n0 n1 W W2) := Lib.hid ((Kp8.of (below_new W _) (Nat.le_trans HN01.out HW.out)).trans hk2)
  clear hJ2 hk2 HR hy HRW
  have hlt := (Array.getElem?_eq_some_iff.1 HR2.out).1
  obtain ⟨_, hc0, hc1, hc2⟩ := facts3 HR2.out
  gi_wp2_with fail
  clear hlt hc0 hc1 hc2
  gi_loopw [8, 17] (fun _ ix wr => ∃ (k : Nat) (qs : List El), k ≤ q ∧ ix = .int .i64 (k : Int) ∧ RowKit.Hid (qs.map prjE = (d, .mk t b ls) :: viss (d + 1) (ls.take k)) ∧ RowKit.Hid (J (pre ++ qs) wr) ∧ RowKit.Hid (Kp8 n0 n1 W wr)) (fun _ ix _ => q - (intOf ix).toNat)
  case atStart => exact ⟨0, [(d, .mk t b ls, (A, c), (B, dd))], by omega, rfl, Lib.hid (by rw [List.take_zero, viss]; rfl), HJ2, HK2⟩
  case round =>
   clear HJ2 HK2
   obtain ⟨k, qs, hk, rfl, HQS, HJS, HKS⟩ := hrel
   by_cases hlt : k < q
   ·
    have hki : (k : Int) < (q : Int) := by omega
    have hn5 := HLB.out
    obtain ⟨o, ho⟩ : ∃ o, ls[k]? = some o := ⟨_, List.getElem?_eq_getElem (by rw [HQ.out]; exact hlt)⟩
    have hne : ls ≠ [] := fun e => by rw [e] at ho; simp at ho
    have hBB := (HE.out.hB hne).1
    subst hBB
    have hew := HE.out.low HKS.out.bl
    have hc0 := hew.h0 k o ho
    have hc1 := hew.h1 k o ho
    have hc2 := hew.h2 k o ho
    have hat := hew.hr k o ho
    obtain ⟨A1, m1, c1, B1, n2, d1, e1, e2⟩ := hat.any.slices
    rw [e1] at hc1 hat
    rw [e2] at hc2 hat
    have htk : ls.take (k + 1) = ls.take k ++ [o] := by rw [List.take_add_one, ho]; rfl
    have HTK := Lib.hid htk
    have hlen : qs.length = 1 + cnts (ls.take k) := by
     have h1 := congrArg List.length HQS.out
     rw [List.length_map, List.length_cons, viss_len] at h1
     omega
    have hbnd : cnts (ls.take k) + cnt o ≤ cnts ls := by
     have h1 := cnts_take ls (k + 1)
     rw [htk, cnts_snoc] at h1
     omega
    have hlow : wr.heap.size ≤ (wr.alloc (.cells #[.int .u8 ((tagO o).toNat : Int), .slice A1 m1 c1, .slice B1 n2 d1] 63)).heap.size := by simp
    have hsz := HKS.out.bl.size
    have hcall := fun n => HIH.out k o ho n (d + 1) _ _ (pre ++ qs) (wr.alloc (.cells #[.int .u8 ((tagO o).toNat : Int), .slice A1 m1 c1, .slice B1 n2 d1] 63)) (by have h1 := HW.out; omega) (by have h1 := HDB.out; have h2 := HCC.out; omega) (hat.low (((Below.refl n0 wr).alloc (by have h1 := HW.out; have h2 := HN01.out; omega) _))) (HAL.out _ _ _ HJS.out) (by rw [List.length_append]; have h1 := HNB.out; have h2 := HCC.out; omega)
    rw [show (((d + 1 : Nat)) : Int) = (d : Int) + 1 by omega] at hcall
    have HCALL := Lib.hid hcall
    have hd5 : d ≤ 1000000 := by have h1 := HDB.out; omega
    clear hne hew hat ho e1 e2 htk hlen hbnd hlow hsz hcall
    gi_wp2_with fail
    refine ⟨trivial, fun h => (by cases h), (HCALL.out _).mono ?_⟩
    rintro e W3 (⟨rfl, q3, hq3, hj3, hk3⟩ | ⟨rfl, q3, hq3, hx3⟩)
    ·
     have HQ3 : RowKit.Hid ((qs ++ q3).map prjE = (d, .mk t b ls) :: viss (d + 1) (ls.take (k + 1))) := Lib.hid (by rw [List.map_append, HQS.out, hq3, HTK.out, viss_app, viss_one, List.cons_append])
     have HJ3 : RowKit.Hid (J (pre ++ (qs ++ q3)) W3) := Lib.hid (by rw [← List.append_assoc]; exact hj3)
     have HK3 : RowKit.Hid (Kp8 n0 n1 W W3) := Lib.hid ((HKS.out.trans (Kp8.of (below_new wr _) (by have h1 := HW.out; have h2 := HN01.out; have h3 := HKS.out.bl.size; omega))).trans hk3)
     clear hq3 hj3 hk3 hc0 hc1 hc2
     gi_wp2_with fail
     exact ⟨⟨k + 1, qs ++ q3, by omega, by go_num, HQ3, HJ3, HK3⟩, by simp [intOf]; omega⟩
    ·
     have HQ3 : RowKit.Hid ((qs ++ q3).map prjE <+: vis d (.mk t b ls)) := Lib.hid (by
      obtain ⟨r, hr⟩ := hq3
      refine ⟨r ++ viss (d + 1) (ls.drop (k + 1)), ?_⟩
      have h1 : viss (d + 1) ls = viss (d + 1) (ls.take k) ++ (q3.map prjE ++ r) ++ viss (d + 1) (ls.drop (k + 1)) := by
       rw [hr, ← viss_one (d + 1) o, ← viss_app, ← HTK.out, ← viss_app, List.take_append_drop]
      rw [vis, h1, List.map_append, HQS.out]
      simp only [List.cons_append, List.append_assoc])
     have HX3 : RowKit.Hid (Jx (pre ++ (qs ++ q3)) W3) := Lib.hid (by rw [← List.append_assoc]; exact hx3)
     clear hq3 hx3 hc0 hc1 hc2
     gi_wp2_with fail
     go_ret
     exact .inr ⟨rfl, _, HQ3.out, HX3.out⟩
   ·
    have hkk : k = q := by omega
    have HKK := Lib.hid hkk
    have hge : ¬ (k : Int) < (q : Int) := by omega
    clear hkk
    gi_wp2_with fail
    go_ret
    refine .inl ⟨rfl, qs, ?_, HJS.out, HKS.out⟩
    have h1 := HQS.out
    rw [HKK.out, List.take_of_length_le (by rw [HQ.out]; exact Nat.le_refl _)] at h1
    rw [h1, vis]
 ·
  gi_wp2_with fail
  go_ret
  exact .inr ⟨rfl, _, ⟨viss (d + 1) ls, by rw [vis]; rfl⟩, hx2⟩
theorem visit_all (l : Nat) (n0 n1 N lo : Nat) (J Jx : List El → World → Prop) (hJ : AbidesFrom lo J) (hn : n0 ≤ n1)
  (hY : ∀ m pre x W, J pre W → pre.length < N → YieldAt Fence.wide m Try.prog l (encE x) W fun e W' => (e = .returned (.bool true) ∧ J (pre ++ [x]) W' ∧ Kp8 n0 n1 W W') ∨ (e = .returned (.bool false) ∧ Jx (pre ++ [x]) W')) :
  ∀ (m : Nat) (o : Oct), cnt o ≤ m → ∀ (n d : Nat) (x y : Value) (pre : List El) (W : World), n1 ≤ W.heap.size → d + cnt o ≤ 1000000 → At (fun g => g < n0) W o x y → J pre W → pre.length + cnt o ≤ N → CallsIn Fence.wide n Try.prog 94 #[.int .i64 (d : Int), .agg (cell3 o x y), .func (.yield l) #[] #[]] W (VsPost J Jx n0 n1 pre d o W) := fun m => by
 induction m with
 | zero => intro o h; have := cnt_pos o; omega
 | succ m ih =>
  intro o h n d x y pre W hW hd hat h0 hN
  cases o with
  | mk t b ls =>
   exact visit_of l n0 n1 N lo J Jx hJ hn hY t b ls (fun k o ho => ih o (by rw [cnt] at h; have := cnt_le ls o (List.mem_of_getElem? ho); omega)) n d x y pre W hW hd hat h0 hN
theorem room_none {F : Fence} (hd : F.depth = none) (k : Nat) : F.room k := fun d h => by rw [hd] at h; cases h
theorem yield_any {m m' : Nat} {P : Program} {l : Nat} {args : Array Value} {W : World} {R : Ending → World → Prop} (h : YieldAt Fence.wide m P l args W R) : YieldAt Fence.wide m' P l args W R := by
 obtain ⟨fn, tmps, assign, body, hy, hR⟩ := h
 exact ⟨fn, tmps, assign, body, hy, hR.1, fun c cs _ => hR.2 c cs (room_none rfl _)⟩
theorem within_any (t : UInt8) (A B : Option Addr) (m n c d : Nat) (w : World) : Calls Try.prog 71 #[.agg #[.int .u8 (t.toNat : Int), .slice A m c, .slice B n d]] w fun e w' => e = .returned (.func (.func 93) #[] #[.pointer (some ⟨w.heap.size, 0, none⟩)]) ∧ w' = w.alloc (.cells #[.int .u8 (t.toNat : Int), .slice A m c, .slice B n d] 63) := by
 go_enter Try.func71, Try.ntmps71
 go_wp2
 go_ret
 exact ⟨rfl, rfl⟩
set_option maxRecDepth 100000 in
set_option maxHeartbeats 4000000 in
theorem within_stops (n : Nat) (X n0 n1 : Nat) (hn : n0 ≤ n1) (o : Oct) (hcn : cnt o ≤ 900000) (A B : Option Addr) (c d : Nat) (w : World) (hX : w.heap[X]? = some (.cells #[.int .u8 ((tagO o).toNat : Int), .slice A (bytO o).length c, .slice B (kids o).length d] 63 (0, 0))) (hw : n1 ≤ w.heap.size)
  (hat : At (fun g => g < n0) w o (.slice A (bytO o).length c) (.slice B (kids o).length d)) :
  SeqStopsK Fence.wide n Try.prog 93 #[.pointer (some ⟨X, 0, none⟩)] encE (Kp8 n0 n1) (fun q => q.map prjE = vis 1 o) (fun q => q.map prjE <+: vis 1 o) (cnt o) w := by
 intro l J Jx W hb hJ hJx hY h0
 have hv := visit_all l n0 n1 (cnt o) _ J Jx hJ hn (fun m pre x W hj hl => yield_any (hY pre x W hj hl)) (cnt o) o (Nat.le_refl _) (n - 1) 1 _ _ [] W (Nat.le_trans hw hb.size) (by omega) (hat.low (hb.mono (by omega))) h0 (by simp)
 unfold VsPost at hv
 have HV := Lib.hid hv
 have hXW := row_on hX hb
 obtain ⟨tz, htz⟩ : ∃ tz : Int, ((tagO o).toNat : Int) = tz := ⟨_, rfl⟩
 obtain ⟨m1, hm1⟩ : ∃ m, (bytO o).length = m := ⟨_, rfl⟩
 obtain ⟨m2, hm2⟩ : ∃ m, (kids o).length = m := ⟨_, rfl⟩
 unfold cell3 at HV
 rw [htz, hm1, hm2] at HV
 rw [htz, hm1, hm2] at hXW
 have hlt := (Array.getElem?_eq_some_iff.1 hXW).1
 obtain ⟨_, hc0, hc1, hc2⟩ := facts3 hXW
 have hrg := range3o hc0 hc1 hc2
 clear hv hY h0 hJ hJx hat hX hb htz hm1 hm2 hXW
 refine callsIn_of_wp Try.func93 rfl trivial ?_ rfl
 simp only [Try.ntmps93, List.size_toArray, List.length_cons, List.length_nil, Nat.reduceAdd, Nat.reduceSub, Array.replicate_succ, Array.replicate_zero, List.push_toArray, List.append_toArray, List.nil_append, List.cons_append]
 gi_wp2_with fail
 refine ⟨trivial, fun h => (by cases h), HV.out.mono ?_⟩
 rintro e W3 (⟨rfl, q3, hq3, hj3, _⟩ | ⟨rfl, q3, hq3, hx3⟩)
 ·
  clear hc0 hc1 hc2 hrg hlt
  gi_wp2_with fail
  go_end0
  exact ⟨⟨_, rfl⟩, .inl ⟨q3, hq3, hj3⟩⟩
 ·
  clear hc0 hc1 hc2 hrg hlt
  gi_wp2_with fail
  go_end0
  exact ⟨⟨_, rfl⟩, .inr ⟨q3, hq3, hx3⟩⟩
end Go.Proofs.Ythfgdgcdicacpaa
