import Derived.Test.YtcgffkkfeimifaaGreatDoorOcRX
import Derived.Maps.Range
import Derived.WalkLawsBesides
import Derived.RangeFuncNested
import Derived.RangeFuncBound
import Derived.RangeFuncCalls
import Derived.RangeFuncLeaves
import Derived.Shelf.Abstract
import Derived.OwnWalkIn
import Derived.TacticsInMore
import Derived.LoopNIn
import Derived.LoopIn
namespace Go.Proofs.YtcgffkkfeimifaaGreatDoor
open Go.RowKit Sha Oc
set_option linter.unusedVariables false
set_option linter.unusedSimpArgs false
structure ElsR (R : Nat → Prop) (w : World) (B : Option Addr) (l : List Oct) (g off : Nat) (vb vl : Nat → Value) : Prop where
 hB : l ≠ [] → B = some ⟨g, off, none⟩ ∧ R g
 h0 : ∀ (k : Nat) (o : Oct), l[k]? = some o → w.cell? ⟨g, off + k * 3, none⟩ = some (.int .u8 ((tagO o).toNat : Int))
 h1 : ∀ (k : Nat) (o : Oct), l[k]? = some o → w.cell? ⟨g, off + k * 3 + 1, none⟩ = some (vb k)
 h2 : ∀ (k : Nat) (o : Oct), l[k]? = some o → w.cell? ⟨g, off + k * 3 + 2, none⟩ = some (vl k)
 hr : ∀ (k : Nat) (o : Oct), l[k]? = some o → At R w o (vb k) (vl k)
theorem Oc.At.elsR {R : Nat → Prop} {w : World} {t : UInt8} {b : List UInt8} {l : List Oct} {x y : Value} (h : At R w (.mk t b l) x y) : ∃ A c B d g off vb vl, x = .slice A b.length c ∧ y = .slice B l.length d ∧ b.length ≤ c ∧ b.length ≤ 140737488355328 ∧ (A = none → c = 0) ∧ SrcAt A b w ∧ (∀ ga oa, A = some ⟨ga, oa, none⟩ → b ≠ [] → R ga) ∧ l.length ≤ d ∧ (B = none → d = 0) ∧ ElsR R w B l g off vb vl := by
 cases h with
 | mk t b l A c B d g off vb vl hc hbm hcn hs hA hd hlm hdn hB h0 h1 h2 hr => exact ⟨A, c, B, d, g, off, vb, vl, rfl, rfl, hc, hbm, hcn, hs, hA, hd, hdn, hB, h0, h1, h2, hr⟩
theorem Oc.At.low {base : Nat} {w V : World} {o : Oct} {x y : Value} (h : At (fun g => g < base) w o x y) (hb : Below base w V) : At (fun g => g < base) V o x y :=
 h.to fun g p u hu hR => ⟨by rw [hb.cell (p := ⟨g, p, none⟩) hR]; exact hu, hR⟩
theorem ElsR.low {base : Nat} {w V : World} {B : Option Addr} {l : List Oct} {g off : Nat} {vb vl : Nat → Value} (h : ElsR (fun g => g < base) w B l g off vb vl) (hb : Below base w V) : ElsR (fun g => g < base) V B l g off vb vl := by
 have hg : ∀ (k : Nat) (o : Oct), l[k]? = some o → g < base := fun k o hk => (h.hB (fun e => by rw [e] at hk; simp at hk)).2
 exact ⟨h.hB, fun k o hx => (hb.cell (p := ⟨g, _, none⟩) (hg k o hx)).trans (h.h0 k o hx), fun k o hx => (hb.cell (p := ⟨g, _, none⟩) (hg k o hx)).trans (h.h1 k o hx), fun k o hx => (hb.cell (p := ⟨g, _, none⟩) (hg k o hx)).trans (h.h2 k o hx), fun k o hx => (h.hr k o hx).low hb⟩
theorem Oc.At.lower {w : World} {base : Nat} {o : Oct} {x y : Value} (h : At (fun _ => True) w o x y) (hb : w.heap.size ≤ base) : At (fun g => g < base) w o x y :=
 h.to fun g p u hu _ => ⟨hu, Nat.lt_of_lt_of_le (World.block_lt_of_cell? _ _ hu) hb⟩
theorem srcAt_low {base : Nat} {A : Option Addr} {b : List UInt8} {w V : World} (hs : SrcAt A b w) (hA : ∀ ga oa, A = some ⟨ga, oa, none⟩ → b ≠ [] → ga < base) (hb : Below base w V) : SrcAt A b V := fun hne => by
 obtain ⟨g, o, e, hc⟩ := hs hne
 exact ⟨g, o, e, fun j x hj => (hb.cell (p := ⟨g, _, none⟩) (hA g o e hne)).trans (hc j x hj)⟩
theorem sizs_app : ∀ (l r : List Oct), sizs (l ++ r) = sizs l + sizs r
 | [], r => by rw [List.nil_append, sizs]; omega
 | x :: q, r => by rw [List.cons_append, sizs, sizs_app q r, sizs]; omega
theorem encs_snoc : ∀ (l : List Oct) (o : Oct), encs (l ++ [o]) = encs l ++ enc o
 | [], o => by rw [List.nil_append, encs, encs, encs, List.append_nil, List.nil_append]
 | x :: r, o => by rw [List.cons_append, encs, encs_snoc r o, encs, List.append_assoc]
structure Grw (base : Nat) (V : World) (ov : Value) (w' : World) (v' : Value) (n : Nat) (xs : List Value) : Prop where
 own : w'.ownsRow base 5 1 v' n xs
 grown : V.grownBy w' ov.ownBlock
 loc : v'.ownBlock = ov.ownBlock ∨ ∃ k, v'.ownBlock = some k ∧ V.heap.size ≤ k
theorem Grw.refl {base n : Nat} {V : World} {ov : Value} {xs : List Value} (h : V.ownsRow base 5 1 ov n xs) : Grw base V ov V ov n xs := ⟨h, World.grownBy.refl _ _, .inl rfl⟩
theorem Grw.trans {base n m : Nat} {V w1 w2 : World} {ov v1 v2 : Value} {xs ys : List Value} (h : Grw base V ov w1 v1 n xs) (k : Grw base w1 v1 w2 v2 m ys) : Grw base V ov w2 v2 m ys := by
 refine ⟨k.own, h.grown.andThen k.grown fun j hj => ?_, ?_⟩
 ·
  rcases h.loc with e | ⟨i, e, hi⟩
  ·
   exact .inr (by rw [← e]; exact hj)
  ·
   rw [e] at hj
   obtain rfl := Option.some.inj hj
   exact .inl hi
 ·
  rcases k.loc with e | ⟨i, e, hi⟩
  ·
   rw [e]
   exact h.loc
  ·
   exact .inr ⟨i, e, Nat.le_trans h.grown.size hi⟩
theorem Grw.on {base n : Nat} {V w1 w2 : World} {ov v1 : Value} {xs : List Value} (h : Grw base V ov w1 v1 n xs) (hb : Below w1.heap.size w1 w2) : Grw base V ov w2 v1 n xs :=
 h.trans ⟨h.own.kept (row := none) ⟨hb.os, hb.tape, hb.output, hb.size, fun k hk _ => hb.block k hk⟩ (by cases v1.ownBlock <;> simp), ⟨hb.os, hb.tape, hb.output, hb.size, fun k hk _ => hb.block k hk⟩, .inl rfl⟩
theorem Grw.below {base n m : Nat} {ys : List Value} {V w' : World} {ov v' : Value} {xs : List Value} (h : Grw base V ov w' v' n xs) (hV : V.ownsRow base 5 1 ov m ys) (hb : base ≤ V.heap.size) : Below base V w' :=
 (Below.refl base V).grown h.grown hb fun k hk => (own_ge hV hk).1
theorem Grw.row {base n : Nat} {V w' : World} {ov v' : Value} {xs : List Value} (h : Grw base V ov w' v' n xs) {X : Nat} {o : Obj} (hX : V.heap[X]? = some o) (hne : some X ≠ ov.ownBlock) : w'.heap[X]? = some o :=
 (h.grown.block X (Array.getElem?_eq_some_iff.1 hX).1 hne).trans hX
theorem Grw.far {base n : Nat} {V w' : World} {ov v' : Value} {xs : List Value} (h : Grw base V ov w' v' n xs) {X : Nat} (hlt : X < V.heap.size) (hne : some X ≠ ov.ownBlock) : some X ≠ v'.ownBlock := by
 rcases h.loc with e | ⟨i, e, hi⟩
 ·
  rw [e]; exact hne
 ·
  rw [e]
  intro e2
  have := Option.some.inj e2
  omega
theorem append_src_at {w : World} {ops : Array Oper} {rest : List Oper} {o : Oper} {a : Act} {Q : Exit → Act → World → Prop} (hgd : o.guard = none) (s x : Operand)
  (ho : o.op = .call { callee := .builtin .append, args := #[s, x], argTypes := #[34, 34] }) (base : Nat) (v : Value) (n : Nat) (xs : List Value) (hs : a.eval s = v) (hown : w.ownsRow base 5 1 v n xs)
  (A : Option Addr) (L : List UInt8) (c m : Nat) (hm : L.length = m) (hx : a.eval x = .slice A m c) (hA : A = none → c = 0) (hsrc : SrcAt A L w) (h63 : n + m ≤ 1000000000) (hbase : base ≤ w.heap.size)
  (h : ∀ v' w', Grw base w v w' v' (n + m) (xs ++ bvals L) → wpList Tryz.prog ops Q rest (a.put o.dst v') w') : wpList Tryz.prog ops Q (o :: rest) a w := by
 obtain ⟨i0, hi, hz0, hz1, hz2⟩ := info_parts Tryz.info_byte
 subst hm
 cases A with
 | none =>
  have hL : L = [] := by
   by_cases e : L = []
   ·
    exact e
   ·
    obtain ⟨g, o, e2, _⟩ := hsrc e
    cases e2
  subst hL
  obtain rfl := hA rfl
  exact wpList_append_own_none hgd s x 34 ho base 5 i0 1 Tryz.underlying34 hi v n xs hs hown hx (h v w ⟨by simpa [bvals] using hown, World.grownBy.refl _ _, .inl rfl⟩)
 | some ad =>
  refine wpList_append_own_at _ hgd s x 34 ho base 5 i0 (.int .u8 0) 1 1 Tryz.underlying34 hi hz0 hz1 hz2 rfl (by decide) v n xs hs hown ad L.length c (bvals L) hx (by rw [bvals_len, Nat.mul_one]) ?_ ?_ (by unfold maxLen; omega) (by omega) hbase (fun v' w' h1 h2 _ h4 => h v' w' ⟨h1, h2, h4.imp id fun e => ⟨_, e, Nat.le_refl _⟩⟩)
  ·
   intro j u hj
   unfold bvals at hj
   rw [List.getElem?_map] at hj
   obtain ⟨y, hy, rfl⟩ := Option.map_eq_some_iff.1 hj
   obtain ⟨g, o, e, hc⟩ := hsrc (by intro e; rw [e] at hy; simp at hy)
   obtain rfl := Option.some.inj e
   rw [add_eq]
   exact hc j y hy
  ·
   intro v hv
   unfold bvals at hv
   obtain ⟨x, _, rfl⟩ := List.mem_map.1 hv
   rfl
structure Gbx (base : Nat) (w : World) (ov : Value) (X : Nat) (o : Obj) (W : World) (v : Value) (n : Nat) (xs : List Value) : Prop where
 g : Grw base w ov W v n xs
 row : W.heap[X]? = some o
 far : some X ≠ v.ownBlock
theorem Gbx.on {base n X : Nat} {w W W' : World} {ov v : Value} {o : Obj} {xs : List Value} (h : Gbx base w ov X o W v n xs) (hb : Below W.heap.size W W') : Gbx base w ov X o W' v n xs :=
 ⟨h.g.on hb, (hb.block X (Array.getElem?_eq_some_iff.1 h.row).1).trans h.row, h.far⟩
theorem Gbx.app {base n m X : Nat} {w W W' : World} {ov v v' : Value} {o : Obj} {xs ys : List Value} (h : Gbx base w ov X o W v n xs) (k : Grw base W v W' v' m ys) : Gbx base w ov X o W' v' m ys :=
 ⟨h.g.trans k, k.row h.row h.far, k.far (Array.getElem?_eq_some_iff.1 h.row).1 h.far⟩
def PtPost (o : Oct) (base : Nat) (ov : Value) (n : Nat) (xs : List Value) (V : World) (e : Ending) (w' : World) : Prop := ∃ v', e = .returned v' ∧ Grw base V ov w' v' (n + siz o) (xs ++ bvals (enc o))
set_option maxRecDepth 100000 in
set_option maxHeartbeats 8000000 in
theorem put_of (t : UInt8) (b : List UInt8) (l : List Oct) (hcn : cnt (.mk t b l) ≤ 5000) (htt : tot (.mk t b l) ≤ 100000)
  (hW : ∀ (k : Nat) (o : Oct), l[k]? = some o → ∀ (base : Nat) (V : World) (ov x y : Value) (n : Nat) (xs : List Value), base ≤ V.heap.size → n + siz o ≤ 900000 → At (fun g => g < base) V o x y → V.ownsRow base 5 1 ov n xs → Calls Tryz.prog 53 #[ov, .agg (cell3 o x y)] V (PtPost o base ov n xs V))
  (base : Nat) (w : World) (ov x y : Value) (n0 : Nat) (xs : List Value) (hbase : base ≤ w.heap.size) (hn0 : n0 + siz (.mk t b l) ≤ 900000) (hat : At (fun g => g < base) w (.mk t b l) x y) (hown : w.ownsRow base 5 1 ov n0 xs) :
  Calls Tryz.prog 53 #[ov, .agg (cell3 (.mk t b l) x y)] w (PtPost (.mk t b l) base ov n0 xs w) := by
 have hcs := fun (V : World) (hb : Below base w V) => csize_of t b l hcn (by omega) (fun k o ho V x y hat => psize_all 5000 o (by rw [cnt] at hcn; have := cnt_le l o (List.mem_of_getElem? ho); omega) (Nat.le_refl _) (by rw [tot] at htt; have := tot_le l o (List.mem_of_getElem? ho); omega) V x y hat) V x y (hat.low hb).any
 obtain ⟨i0, hi, hz0, hz1, hz2⟩ := info_parts Tryz.info_byte
 obtain ⟨A, c, B, d, g, off, vb, vl, rfl, rfl, hc, hbm, hcn0, hs, hsA, hd, hdn, he⟩ := hat.elsR
 have hsz : siz (.mk t b l) = 1 + (lenb (b.length + sizs l)).length + (b.length + sizs l) := by rw [siz]
 have hen : enc (.mk t b l) = [t] ++ lenb (b.length + sizs l) ++ b ++ encs l := by rw [enc, sizs_eq, List.singleton_append, List.cons_append, List.cons_append, List.append_assoc]
 obtain ⟨Z, hZ⟩ : ∃ Z, b.length + sizs l = Z := ⟨_, rfl⟩
 obtain ⟨n, hn⟩ : ∃ n, l.length = n := ⟨_, rfl⟩
 obtain ⟨m, hm⟩ : ∃ m, b.length = m := ⟨_, rfl⟩
 have hll := len_cnts l
 rw [cnt] at hcn
 have HCS := Lib.hid hcs
 unfold PtPost at hW ⊢
 show Calls Tryz.prog 53 #[ov, .agg #[.int .u8 (t.toNat : Int), .slice A b.length c, .slice B l.length d]] w _
 have hz5 : Z ≤ 1000000 := by rw [hsz, hZ] at hn0; omega
 have hn5 : n ≤ 5000 := by omega
 have hm5 : m ≤ 900000 := by rw [hsz, hZ] at hn0; omega
 have HLN := Lib.hid (fun V => lengthof_any Z (by omega) V)
 have HLB := Lib.hid (lenb_le Z)
 rw [hn, hm]
 rw [hsz, hZ] at hn0 ⊢
 rw [hen, hZ]
 have HW := Lib.hid hW
 have HE := Lib.hid he
 have HN := Lib.hid hn
 have HM := Lib.hid hm
 have HZ := Lib.hid hZ
 have HI := Lib.hid hi
 have HS := Lib.hid hs
 have HSA := Lib.hid hsA
 have HC0 := Lib.hid hcn0
 have HN0 := Lib.hid hn0
 have HN5 := Lib.hid hn5
 have HM5 := Lib.hid hm5
 have HBA := Lib.hid hbase
 have HOW := Lib.hid hown
 have HROW := Lib.hid (heap_alloc_new w (.cells #[.int .u8 (t.toNat : Int), .slice A m c, .slice B n d] 68))
 have HB0 := Lib.hid (below_new w (.cells #[.int .u8 (t.toNat : Int), .slice A m c, .slice B n d] 68))
 have HX0 : RowKit.Hid (some w.heap.size ≠ ov.ownBlock) := Lib.hid (fun e => by have := (own_ge hown e.symm).2; omega)
 rw [hZ, hm, hn] at HCS
 clear hcs hW he hn hm hZ hi hs hsA hcn0 hn0 hn5 hm5 hz5 hbase hat hc hbm hd hdn hll hcn htt hsz hen
 go_enter Tryz.func53, Tryz.ntmps53
 go_upto_region 1 with (fail)
 have HG0 : RowKit.Hid (Gbx base w ov w.heap.size (.cells #[.int .u8 (t.toNat : Int), .slice A m c, .slice B n d] 68 (0, 0)) (w.alloc (.cells #[.int .u8 (t.toNat : Int), .slice A m c, .slice B n d] 68)) ov n0 xs) := Lib.hid ⟨(Grw.refl hown).on HB0.out, HROW.out, HX0.out⟩
 have hle0 : base ≤ (w.alloc (.cells #[.int .u8 (t.toNat : Int), .slice A m c, .slice B n d] 68)).heap.size := Nat.le_trans HBA.out HB0.out.size
 clear hown
 generalize hV : World.alloc w _ = V at HROW HB0 HG0 hle0 ⊢
 clear hV HROW HX0
 have HLE := Lib.hid hle0
 clear hle0
 have hlt := (Array.getElem?_eq_some_iff.1 HG0.out.row).1
 obtain ⟨_, hc0, hc1, hc2⟩ := facts3 HG0.out.row
 have HSRC1 : RowKit.Hid (SrcAt (some ⟨V.heap.size, 0, none⟩) [t] (V.alloc (.cells #[.int .u8 (t.toNat : Int)] 5))) := Lib.hid (srcAt_row (heap_alloc_new V _))
 have HG1 := Lib.hid (HG0.out.on (below_new V (.cells #[.int .u8 (t.toNat : Int)] 5)))
 go_upto_region 2 with (at_builtin; go_loud (refine append_src_at rfl (.tmp 7) (.tmp 10) rfl base _ _ _ rfl HG1.out.g.own (some ⟨V.heap.size, 0, none⟩) [t] 1 1 rfl rfl (fun e => by cases e) HSRC1.out (by have := HN0.out; omega) (by have := HLE.out; rw [World.size_alloc]; omega) ?_); intro v1 w1 hg1; have HG2 := Lib.hid (HG1.out.app hg1); clear hg1)
 clear HG0 HG1 HSRC1 hlt hc0 hc1 hc2 HLE
 have hlt := (Array.getElem?_eq_some_iff.1 HG2.out.row).1
 obtain ⟨_, hc0, hc1, hc2⟩ := facts3 HG2.out.row
 have hrg := range3o hc0 hc1 hc2
 have HC1 := Lib.hid (HCS.out w1 (HG2.out.g.below HOW.out HBA.out))
 go_wp2_with fail
 refine HC1.out.mono ?_
 rintro e w2 ⟨rfl, hb2⟩
 have HG3 := Lib.hid (HG2.out.on hb2)
 clear HG2 HC1 hb2 hlt hc0 hc1 hc2 hrg HCS
 go_wp2_with fail
 refine (HLN.out w2).mono ?_
 rintro e w3 ⟨vq, rfl, hoq, hb3⟩
 obtain ⟨Aq, cq, rfl, _, hqn, hqs, _⟩ := own_rd3 hoq
 have HG4 := Lib.hid (HG3.out.on hb3)
 have HQN := Lib.hid hqn
 have HQS := Lib.hid hqs
 clear HG3 HLN hoq hb3 hqn hqs
 go_upto_region 3 with (at_builtin; go_loud (refine append_src_at rfl (.tmp 12) (.tmp 15) rfl base _ _ _ rfl HG4.out.g.own Aq (lenb Z) cq _ rfl rfl HQN.out HQS.out (by have := HN0.out; have := HLB.out; omega) (Nat.le_trans HBA.out HG4.out.g.grown.size) ?_); intro v4 w4 hg4; have HG5 := Lib.hid (HG4.out.app hg4); clear hg4)
 clear HG4 HQN HQS
 have hlt := (Array.getElem?_eq_some_iff.1 HG5.out.row).1
 obtain ⟨_, hc0, hc1, hc2⟩ := facts3 HG5.out.row
 have HS5 := Lib.hid (srcAt_low HS.out HSA.out (HG5.out.g.below HOW.out HBA.out))
 go_upto_region 4 with (at_builtin; go_loud (refine append_src_at rfl (.tmp 17) (.tmp 19) rfl base _ _ _ rfl HG5.out.g.own A b c m HM.out rfl HC0.out HS5.out (by have := HN0.out; have := HLB.out; have := HZ.out; have := HM.out; omega) (Nat.le_trans HBA.out HG5.out.g.grown.size) ?_); intro v5 w5 hg5; have HG6 := Lib.hid (HG5.out.app hg5); clear hg5)
 clear HG5 HS5 hlt hc0 hc1 hc2 HB0 HS HSA HC0
 have hlt := (Array.getElem?_eq_some_iff.1 HG6.out.row).1
 obtain ⟨_, hc0, hc1, hc2⟩ := facts3 HG6.out.row
 obtain ⟨N1, hN1⟩ : ∃ N1, n0 + 1 + (lenb Z).length + m = N1 := ⟨_, rfl⟩
 obtain ⟨X1, hX1⟩ : ∃ X1, xs ++ bvals [t] ++ bvals (lenb Z) ++ bvals b = X1 := ⟨_, rfl⟩
 have HF : RowKit.Hid (n0 + (1 + (lenb Z).length + Z) = N1 + sizs l ∧ xs ++ bvals (t :: (lenb Z ++ (b ++ encs l))) = X1 ++ bvals (encs l)) := Lib.hid ⟨by have := HZ.out; have := HM.out; omega, by rw [← hX1, show t :: (lenb Z ++ (b ++ encs l)) = [t] ++ lenb Z ++ b ++ encs l by simp, bvals_app, bvals_app, bvals_app]; simp only [List.append_assoc]⟩
 rw [hN1, hX1] at HG6
 have HN1 : RowKit.Hid (N1 + sizs l ≤ 900000) := Lib.hid (by have h1 := HN0.out; have h2 := HF.out.1; omega)
 clear hN1 hX1 HN0 HZ HLB HM
 have hn5 := HN5.out
 go_wp2_with fail
 clear hlt hc0 hc1 hc2
 go_loopw [0, 6, 24] (fun vv _ ix wr => ∃ k : Nat, k ≤ n ∧ ix = .int .i64 (k : Int) ∧ RowKit.Hid (Gbx base w ov w.heap.size (.cells #[.int .u8 (t.toNat : Int), .slice A m c, .slice B n d] 68 (0, 0)) wr vv (N1 + sizs (l.take k)) (X1 ++ bvals (encs (l.take k))))) (fun _ _ ix _ => n - (intOf ix).toNat)
 case atStart =>
  refine ⟨0, by omega, rfl, Lib.hid ?_⟩
  rw [List.take_zero, sizs, encs]
  simpa [bvals] using HG6.out
 case round =>
  obtain ⟨k, hk, rfl, HG⟩ := hrel
  have hlt0 := (Array.getElem?_eq_some_iff.1 HG.out.row).1
  by_cases hlt : k < n
  ·
   have hki : (k : Int) < (n : Int) := by omega
   have hn5 := HN5.out
   obtain ⟨o, ho⟩ : ∃ o, l[k]? = some o := ⟨_, List.getElem?_eq_getElem (by rw [HN.out]; exact hlt)⟩
   have hne : l ≠ [] := fun e => by rw [e] at ho; simp at ho
   have hBB := (HE.out.hB hne).1
   subst hBB
   have hew := HE.out.low (HG.out.g.below HOW.out HBA.out)
   have hc0 := hew.h0 k o ho
   have hc1 := hew.h1 k o ho
   have hc2 := hew.h2 k o ho
   have hat := hew.hr k o ho
   obtain ⟨A1, m1, c1, B1, n1, d1, e1, e2⟩ := hat.any.slices
   rw [e1] at hc1 hat
   rw [e2] at hc2 hat
   have HTK : RowKit.Hid (sizs (l.take (k + 1)) = sizs (l.take k) + siz o ∧ bvals (encs (l.take (k + 1))) = bvals (encs (l.take k)) ++ bvals (enc o)) := Lib.hid (by
    rw [List.take_add_one, ho]
    show sizs (l.take k ++ [o]) = _ ∧ bvals (encs (l.take k ++ [o])) = _
    exact ⟨sizs_snoc _ _, by rw [encs_snoc, bvals_app]⟩)
   have hb6 : N1 + sizs (l.take k) + siz o ≤ 900000 := by
    have h1 := HN1.out
    have h2 := HTK.out.1
    have h3 : sizs (l.take (k + 1)) ≤ sizs l := by
     have h4 : sizs (l.take (k + 1)) + sizs (l.drop (k + 1)) = sizs l := by rw [← sizs_app, List.take_append_drop]
     omega
    omega
   have HCALL := Lib.hid (fun (V : World) (hb : Below wr.heap.size wr V) => HW.out k o ho base V _ _ _ _ _ (Nat.le_trans (Nat.le_trans HBA.out HG.out.g.grown.size) hb.size) hb6 (hat.low (hb.mono (Nat.le_trans HBA.out HG.out.g.grown.size))) (HG.out.on hb).g.own)
   clear hne hew hat ho e1 e2 hb6
   go_wp2_with fail
   refine (HCALL.out _ (below_new _ _)).mono ?_
   rintro e w2 ⟨v2, rfl, hg2⟩
   have HG2 := Lib.hid ((HG.out.on (below_new wr _)).app hg2)
   clear hc0 hc1 hc2 hlt0 hg2
   go_wp2_with fail
   refine ⟨⟨k + 1, by omega, by go_num, Lib.hid ?_⟩, by simp [intOf]; omega⟩
   rw [HTK.out.1, HTK.out.2, ← Nat.add_assoc, ← List.append_assoc]
   exact HG2.out
  ·
   have hkk : k = n := by omega
   have HKK := Lib.hid hkk
   have hge : ¬ (k : Int) < (n : Int) := by omega
   clear hkk
   go_wp2_with fail
   go_ret
   refine ⟨_, rfl, ?_⟩
   have h1 := HG.out.g
   rw [HKK.out, List.take_of_length_le (by rw [HN.out]; exact Nat.le_refl _)] at h1
   rw [HF.out.1, HF.out.2]
   exact h1
theorem put_all : ∀ (n : Nat) (o : Oct), cnt o ≤ n → n ≤ 5000 → tot o ≤ 100000 → ∀ (base : Nat) (V : World) (ov x y : Value) (k : Nat) (xs : List Value), base ≤ V.heap.size → k + siz o ≤ 900000 → At (fun g => g < base) V o x y → V.ownsRow base 5 1 ov k xs → Calls Tryz.prog 53 #[ov, .agg (cell3 o x y)] V (PtPost o base ov k xs V) := fun n => by
 induction n with
 | zero => intro o h; have := cnt_pos o; omega
 | succ n ih =>
  intro o h hn ht base V ov x y j xs hb hs hat hown
  cases o with
  | mk t b l =>
   exact put_of t b l (by omega) ht (fun k o ho base V ov x y j xs hb hs hat hown => ih o (by rw [cnt] at h; have := cnt_le l o (List.mem_of_getElem? ho); omega) (by omega) (by rw [tot] at ht; have := tot_le l o (List.mem_of_getElem? ho); omega) base V ov x y j xs hb hs hat hown) base V ov x y j xs hb hs hat hown
end Go.Proofs.YtcgffkkfeimifaaGreatDoor
namespace Go.Proofs.YtcgffkkfeimifaaGreatDoor
open Go.RowKit Sha Oc
set_option linter.unusedVariables false
set_option linter.unusedSimpArgs false
end Go.Proofs.YtcgffkkfeimifaaGreatDoor
namespace Go.Proofs.YtcgffkkfeimifaaGreatDoor
open Go.RowKit Sha Oc
set_option linter.unusedVariables false
set_option linter.unusedSimpArgs false
end Go.Proofs.YtcgffkkfeimifaaGreatDoor
namespace Go.Proofs.YtcgffkkfeimifaaGreatDoor
open Go.RowKit Sha Oc
set_option linter.unusedVariables false
set_option linter.unusedSimpArgs false
attribute [local go_sem] Oper.semAt_some
mutual
def vis : Nat → Oct → List (Nat × Oct)
 | d, .mk t b l => (d, .mk t b l) :: viss (d + 1) l
def viss : Nat → List Oct → List (Nat × Oct)
 | _, [] => []
 | d, v :: r => vis d v ++ viss d r
end
theorem viss_app (d : Nat) : ∀ l r : List Oct, viss d (l ++ r) = viss d l ++ viss d r
 | [], r => by rw [List.nil_append, viss, List.nil_append]
 | v :: q, r => by rw [List.cons_append, viss, viss_app d q r, viss, List.append_assoc]
theorem viss_one (d : Nat) (o : Oct) : viss d [o] = vis d o := by rw [viss, viss, List.append_nil]
mutual
theorem vis_len : ∀ (d : Nat) (o : Oct), (vis d o).length = cnt o
 | d, .mk t b l => by rw [vis, List.length_cons, viss_len (d + 1) l, cnt]; omega
theorem viss_len : ∀ (d : Nat) (l : List Oct), (viss d l).length = cnts l
 | _, [] => by rw [viss, cnts]; rfl
 | d, v :: r => by rw [viss, List.length_append, vis_len d v, viss_len d r, cnts]
end
mutual
theorem vis_dep : ∀ (d : Nat) (o : Oct), (∀ e ∈ vis d o, e.1 + 1 ≤ d + dep o) ∧ ∃ e ∈ vis d o, e.1 + 1 = d + dep o
 | d, .mk t b l => by
  obtain ⟨h1, h2⟩ := viss_dep (d + 1) l
  rw [vis, dep]
  refine ⟨fun e he => ?_, ?_⟩
  ·
   rcases List.mem_cons.1 he with rfl | he
   ·
    show d + 1 ≤ _; omega
   ·
    have := h1 e he; omega
  ·
   rcases h2 with rfl | ⟨e, he, h3⟩
   ·
    exact ⟨_, List.mem_cons_self .., by rw [deps]⟩
   ·
    exact ⟨e, List.mem_cons_of_mem _ he, by omega⟩
theorem viss_dep : ∀ (d : Nat) (l : List Oct), (∀ e ∈ viss d l, e.1 + 1 ≤ d + deps l) ∧ (l = [] ∨ ∃ e ∈ viss d l, e.1 + 1 = d + deps l)
 | _, [] => ⟨fun e he => (by rw [viss] at he; cases he), .inl rfl⟩
 | d, v :: r => by
  obtain ⟨h1, e, he, h2⟩ := vis_dep d v
  obtain ⟨h3, h4⟩ := viss_dep d r
  rw [viss, deps]
  refine ⟨fun e he => ?_, .inr ?_⟩
  ·
   rcases List.mem_append.1 he with he | he
   ·
    have := h1 e he; omega
   ·
    have := h3 e he; omega
  ·
   by_cases hm : deps r ≤ dep v
   ·
    exact ⟨e, List.mem_append_left _ he, by omega⟩
   ·
    rcases h4 with rfl | ⟨e', he', h5⟩
    ·
     rw [deps] at hm; omega
    ·
     exact ⟨e', List.mem_append_right _ he', by omega⟩
end
def topB (o : Oct) : Bool := okTop (tagO o) (bytO o).length (kids o).length
mutual
theorem vis_shp : ∀ (d : Nat) (o : Oct), shpB o = (vis d o).all fun e => topB e.2
 | d, .mk t b l => by rw [shpB, vis, List.all_cons, viss_shp (d + 1) l]; rfl
theorem viss_shp : ∀ (d : Nat) (l : List Oct), shpsB l = (viss d l).all fun e => topB e.2
 | _, [] => by rw [shpsB, viss]; rfl
 | d, v :: r => by rw [shpsB, viss, List.all_append, vis_shp d v, viss_shp d r]
end
set_option maxRecDepth 100000 in
set_option maxHeartbeats 4000000 in
theorem simple_any (t : UInt8) (A B : Option Addr) (m n c d : Nat) (w : World) : Calls Tryz.prog 95 #[.agg #[.int .u8 (t.toNat : Int), .slice A m c, .slice B n d]] w fun e w' => e = .returned (.bool (okTop t m n)) ∧ Below w.heap.size w w' := by
 have hz : t.toNat < 256 := t.toNat_lt
 unfold okTop
 obtain ⟨z, hzz⟩ : ∃ z, t.toNat = z := ⟨_, rfl⟩
 rw [hzz] at hz ⊢
 clear hzz
 by_cases h1 : z < 128
 ·
  have h1i : (z : Int) < 128 := by omega
  by_cases h2 : z = 0
  ·
   subst h2
   rw [decide_eq_false (by omega)]
   go_enter Tryz.func95, Tryz.ntmps95
   go_wp2_with fail
   go_ret
   exact ⟨rfl, below_new w _⟩
  ·
   have h2i : ((z : Int) != 0) = true := by simp [h2]
   by_cases h3 : n = 0
   ·
    subst h3
    rw [decide_eq_true (by omega)]
    go_enter Tryz.func95, Tryz.ntmps95
    go_wp2_with fail
    go_ret
    exact ⟨rfl, below_new w _⟩
   ·
    have h3i : ((n : Int) == 0) = false := by simp [h3]
    rw [decide_eq_false (by omega)]
    go_enter Tryz.func95, Tryz.ntmps95
    go_wp2_with fail
    go_ret
    exact ⟨rfl, below_new w _⟩
 ·
  have h1i : ¬ (z : Int) < 128 := by omega
  by_cases h3 : m = 0
  ·
   subst h3
   rw [decide_eq_true (by omega)]
   go_enter Tryz.func95, Tryz.ntmps95
   go_wp2_with fail
   go_ret
   exact ⟨rfl, below_new w _⟩
  ·
   have h3i : ((m : Int) == 0) = false := by simp [h3]
   rw [decide_eq_false (by omega)]
   go_enter Tryz.func95, Tryz.ntmps95
   go_wp2_with fail
   go_ret
   exact ⟨rfl, below_new w _⟩
structure Kp8 (n0 n1 : Nat) (W W' : World) : Prop where
 bl : Below n0 W W'
 up : ∀ b cs t fr, n1 ≤ b → W.heap[b]? = some (.cells cs t fr) → W'.heap[b]? = some (.cells cs t fr)
theorem Kp8.refl (n0 n1 : Nat) (W : World) : Kp8 n0 n1 W W := ⟨Below.refl _ _, fun _ _ _ _ _ h => h⟩
theorem Kp8.trans {n0 n1 : Nat} {A B C : World} (h : Kp8 n0 n1 A B) (k : Kp8 n0 n1 B C) : Kp8 n0 n1 A C := ⟨h.bl.trans k.bl, fun b cs t fr hb hc => k.up b cs t fr hb (h.up b cs t fr hb hc)⟩
theorem Kp8.of {n0 n1 : Nat} {A B : World} (h : Below A.heap.size A B) (hn : n0 ≤ A.heap.size) : Kp8 n0 n1 A B := ⟨h.mono hn, fun b cs t fr _ hc => row_on hc h⟩
abbrev El := Nat × Oct × (Option Addr × Nat) × (Option Addr × Nat)
abbrev encE (a : El) : Array Value := #[.int .i64 (a.1 : Int), .agg #[.int .u8 ((tagO a.2.1).toNat : Int), .slice a.2.2.1.1 (bytO a.2.1).length a.2.2.1.2, .slice a.2.2.2.1 (kids a.2.1).length a.2.2.2.2]]
abbrev prjE (a : El) : Nat × Oct := (a.1, a.2.1)
def VsPost (J Jx : List El → World → Prop) (n0 n1 : Nat) (pre : List El) (d : Nat) (o : Oct) (W : World) (e : Ending) (W' : World) : Prop :=
 (e = .returned (.bool true) ∧ ∃ q, q.map prjE = vis d o ∧ J (pre ++ q) W' ∧ Kp8 n0 n1 W W') ∨ (e = .returned (.bool false) ∧ ∃ q, q.map prjE <+: vis d o ∧ Jx (pre ++ q) W')
set_option maxRecDepth 100000 in
set_option maxHeartbeats 4000000 in
theorem visit_of (l : Nat) (n0 n1 N lo : Nat) (J Jx : List El → World → Prop) (hJ : AbidesFrom lo J) (hn : n0 ≤ n1)
  (hY : ∀ m pre x W, J pre W → pre.length < N → YieldAt Fence.wide m Tryz.prog l (encE x) W fun e W' => (e = .returned (.bool true) ∧ J (pre ++ [x]) W' ∧ Kp8 n0 n1 W W') ∨ (e = .returned (.bool false) ∧ Jx (pre ++ [x]) W'))
  (t : UInt8) (b : List UInt8) (ls : List Oct)
  (ih : ∀ (k : Nat) (o : Oct), ls[k]? = some o → ∀ (n d : Nat) (x y : Value) (pre : List El) (W : World), n1 ≤ W.heap.size → d + cnt o ≤ 1000000 → At (fun g => g < n0) W o x y → J pre W → pre.length + cnt o ≤ N → CallsIn Fence.wide n Tryz.prog 130 #[.int .i64 (d : Int), .agg (cell3 o x y), .func (.yield l) #[] #[]] W (VsPost J Jx n0 n1 pre d o W))
  (n d : Nat) (x y : Value) (pre : List El) (W : World) (hW : n1 ≤ W.heap.size) (hd : d + cnt (.mk t b ls) ≤ 1000000) (hat : At (fun g => g < n0) W (.mk t b ls) x y) (h0 : J pre W) (hN : pre.length + cnt (.mk t b ls) ≤ N) :
  CallsIn Fence.wide n Tryz.prog 130 #[.int .i64 (d : Int), .agg (cell3 (.mk t b ls) x y), .func (.yield l) #[] #[]] W (VsPost J Jx n0 n1 pre d (.mk t b ls) W) := by
 obtain ⟨A, c, B, dd, g, off, vb, vl, rfl, rfl, hc, hbm, hcn0, hs, hsA, hdl, hdn, he⟩ := hat.elsR
 obtain ⟨m, hm⟩ : ∃ m, b.length = m := ⟨_, rfl⟩
 obtain ⟨q, hq⟩ : ∃ q, ls.length = q := ⟨_, rfl⟩
 have hll := len_cnts ls
 have hcc : cnt (.mk t b ls) = 1 + cnts ls := by rw [cnt]
 unfold VsPost at ih ⊢
 have hal : ∀ (s : List El) (W : World) (o : Obj), J s W → J s (W.alloc o) := fun s W o hs => hJ s W _ none hs (World.grownBy_alloc W o none) (fun r e => by cases e)
 have HAL := Lib.hid hal
 have HIH := Lib.hid ih
 have HE := Lib.hid he
 have HQ := Lib.hid hq
 have HCC := Lib.hid hcc
 have HDB := Lib.hid hd
 have HNB := Lib.hid hN
 have HW := Lib.hid hW
 have HN01 := Lib.hid hn
 show CallsIn Fence.wide n Tryz.prog 130 #[.int .i64 (d : Int), .agg #[.int .u8 (t.toNat : Int), .slice A b.length c, .slice B ls.length dd], .func (.yield l) #[] #[]] W _
 have hYY := hY (n - 1) pre (d, .mk t b ls, (A, c), (B, dd)) (W.alloc (.cells #[.int .u8 (t.toNat : Int), .slice A m c, .slice B q dd] 68)) (hal _ _ _ h0) (by omega)
 obtain ⟨fn, tmps, assign, body, hy, hR⟩ := hYY
 have HR := Lib.hid hR
 have HLB := Lib.hid (show q ≤ 1000000 by omega)
 have hy2 : _ := hy
 dsimp only [encE, tagO, bytO, kids] at hy
 rw [hm, hq] at hy ⊢
 have HRW := Lib.hid (heap_alloc_new W (.cells #[.int .u8 (t.toNat : Int), .slice A m c, .slice B q dd] 68))
 clear ih he hq hcc hd hN hW hn hR hal h0 hat hc hbm hcn0 hs hsA hdl hdn hll hm hJ hY hy2
 refine callsIn_of_wp Tryz.func130 rfl trivial ?_ rfl
 simp only [Tryz.ntmps130, List.size_toArray, List.length_cons, List.length_nil, Nat.reduceAdd, Nat.reduceSub, Array.replicate_succ, Array.replicate_zero, List.push_toArray, List.append_toArray, List.nil_append, List.cons_append]
 gi_wp2_with fail
 refine ⟨fun h => (by cases h), HR.out.mono ?_⟩
 rintro e W2 (⟨rfl, hJ2, hk2⟩ | ⟨rfl, hx2⟩)
 ·
  have HJ2 := Lib.hid hJ2
  have HR2 := Lib.hid (hk2.up W.heap.size _ _ _ HW.out HRW.out)
  have HK2 : RowKit.Hid (Kp8 n0 n1 W W2) := Lib.hid ((Kp8.of (below_new W _) (Nat.le_trans HN01.out HW.out)).trans hk2)
  clear hJ2 hk2 HR hy HRW
  have hlt := (Array.getElem?_eq_some_iff.1 HR2.out).1
  obtain ⟨_, hc0, hc1, hc2⟩ := facts3 HR2.out
  gi_wp2_with fail
  clear hlt hc0 hc1 hc2
  gi_loopw [8, 17] (fun _ ix wr => ∃ (k : Nat) (qs : List El), k ≤ q ∧ ix = .int .i64 (k : Int) ∧ RowKit.Hid (qs.map prjE = (d, .mk t b ls) :: viss (d + 1) (ls.take k)) ∧ RowKit.Hid (J (pre ++ qs) wr) ∧ RowKit.Hid (Kp8 n0 n1 W wr)) (fun _ ix _ => q - (intOf ix).toNat)
  case atStart => exact ⟨0, [(d, .mk t b ls, (A, c), (B, dd))], by omega, rfl, Lib.hid (by rw [List.take_zero, viss]; rfl), HJ2, HK2⟩
  case round =>
   clear HJ2 HK2
   obtain ⟨k, qs, hk, rfl, HQS, HJS, HKS⟩ := hrel
   by_cases hlt : k < q
   ·
    have hki : (k : Int) < (q : Int) := by omega
    have hn5 := HLB.out
    obtain ⟨o, ho⟩ : ∃ o, ls[k]? = some o := ⟨_, List.getElem?_eq_getElem (by rw [HQ.out]; exact hlt)⟩
    have hne : ls ≠ [] := fun e => by rw [e] at ho; simp at ho
    have hBB := (HE.out.hB hne).1
    subst hBB
    have hew := HE.out.low HKS.out.bl
    have hc0 := hew.h0 k o ho
    have hc1 := hew.h1 k o ho
    have hc2 := hew.h2 k o ho
    have hat := hew.hr k o ho
    obtain ⟨A1, m1, c1, B1, n2, d1, e1, e2⟩ := hat.any.slices
    rw [e1] at hc1 hat
    rw [e2] at hc2 hat
    have htk : ls.take (k + 1) = ls.take k ++ [o] := by rw [List.take_add_one, ho]; rfl
    have HTK := Lib.hid htk
    have hlen : qs.length = 1 + cnts (ls.take k) := by
     have h1 := congrArg List.length HQS.out
     rw [List.length_map, List.length_cons, viss_len] at h1
     omega
    have hbnd : cnts (ls.take k) + cnt o ≤ cnts ls := by
     have h1 := cnts_take ls (k + 1)
     rw [htk, cnts_snoc] at h1
     omega
    have hlow : wr.heap.size ≤ (wr.alloc (.cells #[.int .u8 ((tagO o).toNat : Int), .slice A1 m1 c1, .slice B1 n2 d1] 68)).heap.size := by simp
    have hsz := HKS.out.bl.size
    have hcall := fun n => HIH.out k o ho n (d + 1) _ _ (pre ++ qs) (wr.alloc (.cells #[.int .u8 ((tagO o).toNat : Int), .slice A1 m1 c1, .slice B1 n2 d1] 68)) (by have h1 := HW.out; omega) (by have h1 := HDB.out; have h2 := HCC.out; omega) (hat.low (((Below.refl n0 wr).alloc (by have h1 := HW.out; have h2 := HN01.out; omega) _))) (HAL.out _ _ _ HJS.out) (by rw [List.length_append]; have h1 := HNB.out; have h2 := HCC.out; omega)
    rw [show (((d + 1 : Nat)) : Int) = (d : Int) + 1 by omega] at hcall
    have HCALL := Lib.hid hcall
    have hd5 : d ≤ 1000000 := by have h1 := HDB.out; omega
    clear hne hew hat ho e1 e2 htk hlen hbnd hlow hsz hcall
    gi_wp2_with fail
    refine ⟨trivial, fun h => (by cases h), (HCALL.out _).mono ?_⟩
    rintro e W3 (⟨rfl, q3, hq3, hj3, hk3⟩ | ⟨rfl, q3, hq3, hx3⟩)
    ·
     have HQ3 : RowKit.Hid ((qs ++ q3).map prjE = (d, .mk t b ls) :: viss (d + 1) (ls.take (k + 1))) := Lib.hid (by rw [List.map_append, HQS.out, hq3, HTK.out, viss_app, viss_one, List.cons_append])
     have HJ3 : RowKit.Hid (J (pre ++ (qs ++ q3)) W3) := Lib.hid (by rw [← List.append_assoc]; exact hj3)
     have HK3 : RowKit.Hid (Kp8 n0 n1 W W3) := Lib.hid ((HKS.out.trans (Kp8.of (below_new wr _) (by have h1 := HW.out; have h2 := HN01.out; have h3 := HKS.out.bl.size; omega))).trans hk3)
     clear hq3 hj3 hk3 hc0 hc1 hc2
     gi_wp2_with fail
     exact ⟨⟨k + 1, qs ++ q3, by omega, by go_num, HQ3, HJ3, HK3⟩, by simp [intOf]; omega⟩
    ·
     have HQ3 : RowKit.Hid ((qs ++ q3).map prjE <+: vis d (.mk t b ls)) := Lib.hid (by
      obtain ⟨r, hr⟩ := hq3
      refine ⟨r ++ viss (d + 1) (ls.drop (k + 1)), ?_⟩
      have h1 : viss (d + 1) ls = viss (d + 1) (ls.take k) ++ (q3.map prjE ++ r) ++ viss (d + 1) (ls.drop (k + 1)) := by
       rw [hr, ← viss_one (d + 1) o, ← viss_app, ← HTK.out, ← viss_app, List.take_append_drop]
      rw [vis, h1, List.map_append, HQS.out]
      simp only [List.cons_append, List.append_assoc])
     have HX3 : RowKit.Hid (Jx (pre ++ (qs ++ q3)) W3) := Lib.hid (by rw [← List.append_assoc]; exact hx3)
     clear hq3 hx3 hc0 hc1 hc2
     gi_wp2_with fail
     go_ret
     exact .inr ⟨rfl, _, HQ3.out, HX3.out⟩
   ·
    have hkk : k = q := by omega
    have HKK := Lib.hid hkk
    have hge : ¬ (k : Int) < (q : Int) := by omega
    clear hkk
    gi_wp2_with fail
    go_ret
    refine .inl ⟨rfl, qs, ?_, HJS.out, HKS.out⟩
    have h1 := HQS.out
    rw [HKK.out, List.take_of_length_le (by rw [HQ.out]; exact Nat.le_refl _)] at h1
    rw [h1, vis]
 ·
  gi_wp2_with fail
  go_ret
  exact .inr ⟨rfl, _, ⟨viss (d + 1) ls, by rw [vis]; rfl⟩, hx2⟩
theorem visit_all (l : Nat) (n0 n1 N lo : Nat) (J Jx : List El → World → Prop) (hJ : AbidesFrom lo J) (hn : n0 ≤ n1)
  (hY : ∀ m pre x W, J pre W → pre.length < N → YieldAt Fence.wide m Tryz.prog l (encE x) W fun e W' => (e = .returned (.bool true) ∧ J (pre ++ [x]) W' ∧ Kp8 n0 n1 W W') ∨ (e = .returned (.bool false) ∧ Jx (pre ++ [x]) W')) :
  ∀ (m : Nat) (o : Oct), cnt o ≤ m → ∀ (n d : Nat) (x y : Value) (pre : List El) (W : World), n1 ≤ W.heap.size → d + cnt o ≤ 1000000 → At (fun g => g < n0) W o x y → J pre W → pre.length + cnt o ≤ N → CallsIn Fence.wide n Tryz.prog 130 #[.int .i64 (d : Int), .agg (cell3 o x y), .func (.yield l) #[] #[]] W (VsPost J Jx n0 n1 pre d o W) := fun m => by
 induction m with
 | zero => intro o h; have := cnt_pos o; omega
 | succ m ih =>
  intro o h n d x y pre W hW hd hat h0 hN
  cases o with
  | mk t b ls =>
   exact visit_of l n0 n1 N lo J Jx hJ hn hY t b ls (fun k o ho => ih o (by rw [cnt] at h; have := cnt_le ls o (List.mem_of_getElem? ho); omega)) n d x y pre W hW hd hat h0 hN
theorem room_none {F : Fence} (hd : F.depth = none) (k : Nat) : F.room k := fun d h => by rw [hd] at h; cases h
theorem yield_any {m m' : Nat} {P : Program} {l : Nat} {args : Array Value} {W : World} {R : Ending → World → Prop} (h : YieldAt Fence.wide m P l args W R) : YieldAt Fence.wide m' P l args W R := by
 obtain ⟨fn, tmps, assign, body, hy, hR⟩ := h
 exact ⟨fn, tmps, assign, body, hy, hR.1, fun c cs _ => hR.2 c cs (room_none rfl _)⟩
theorem within_any (t : UInt8) (A B : Option Addr) (m n c d : Nat) (w : World) : Calls Tryz.prog 94 #[.agg #[.int .u8 (t.toNat : Int), .slice A m c, .slice B n d]] w fun e w' => e = .returned (.func (.func 129) #[] #[.pointer (some ⟨w.heap.size, 0, none⟩)]) ∧ w' = w.alloc (.cells #[.int .u8 (t.toNat : Int), .slice A m c, .slice B n d] 68) := by
 go_enter Tryz.func94, Tryz.ntmps94
 go_wp2
 go_ret
 exact ⟨rfl, rfl⟩
set_option maxRecDepth 100000 in
set_option maxHeartbeats 4000000 in
theorem within_stops (n : Nat) (X n0 n1 : Nat) (hn : n0 ≤ n1) (o : Oct) (hcn : cnt o ≤ 900000) (A B : Option Addr) (c d : Nat) (w : World) (hX : w.heap[X]? = some (.cells #[.int .u8 ((tagO o).toNat : Int), .slice A (bytO o).length c, .slice B (kids o).length d] 68 (0, 0))) (hw : n1 ≤ w.heap.size)
  (hat : At (fun g => g < n0) w o (.slice A (bytO o).length c) (.slice B (kids o).length d)) :
  SeqStopsK Fence.wide n Tryz.prog 129 #[.pointer (some ⟨X, 0, none⟩)] encE (Kp8 n0 n1) (fun q => q.map prjE = vis 1 o) (fun q => q.map prjE <+: vis 1 o) (cnt o) w := by
 intro l J Jx W hb hJ hJx hY h0
 have hv := visit_all l n0 n1 (cnt o) _ J Jx hJ hn (fun m pre x W hj hl => yield_any (hY pre x W hj hl)) (cnt o) o (Nat.le_refl _) (n - 1) 1 _ _ [] W (Nat.le_trans hw hb.size) (by omega) (hat.low (hb.mono (by omega))) h0 (by simp)
 unfold VsPost at hv
 have HV := Lib.hid hv
 have hXW := row_on hX hb
 obtain ⟨tz, htz⟩ : ∃ tz : Int, ((tagO o).toNat : Int) = tz := ⟨_, rfl⟩
 obtain ⟨m1, hm1⟩ : ∃ m, (bytO o).length = m := ⟨_, rfl⟩
 obtain ⟨m2, hm2⟩ : ∃ m, (kids o).length = m := ⟨_, rfl⟩
 unfold cell3 at HV
 rw [htz, hm1, hm2] at HV
 rw [htz, hm1, hm2] at hXW
 have hlt := (Array.getElem?_eq_some_iff.1 hXW).1
 obtain ⟨_, hc0, hc1, hc2⟩ := facts3 hXW
 have hrg := range3o hc0 hc1 hc2
 clear hv hY h0 hJ hJx hat hX hb htz hm1 hm2 hXW
 refine callsIn_of_wp Tryz.func129 rfl trivial ?_ rfl
 simp only [Tryz.ntmps129, List.size_toArray, List.length_cons, List.length_nil, Nat.reduceAdd, Nat.reduceSub, Array.replicate_succ, Array.replicate_zero, List.push_toArray, List.append_toArray, List.nil_append, List.cons_append]
 gi_wp2_with fail
 refine ⟨trivial, fun h => (by cases h), HV.out.mono ?_⟩
 rintro e W3 (⟨rfl, q3, hq3, hj3, _⟩ | ⟨rfl, q3, hq3, hx3⟩)
 ·
  clear hc0 hc1 hc2 hrg hlt
  gi_wp2_with fail
  go_end0
  exact ⟨⟨_, rfl⟩, .inl ⟨q3, hq3, hj3⟩⟩
 ·
  clear hc0 hc1 hc2 hrg hlt
  gi_wp2_with fail
  go_end0
  exact ⟨⟨_, rfl⟩, .inr ⟨q3, hq3, hx3⟩⟩
end Go.Proofs.YtcgffkkfeimifaaGreatDoor
