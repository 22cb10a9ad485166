/-
  THE WALK over layer 8: the program's put: an encoding is appended to bytes of one's own.
-/
import Derived.Test.YthagoafcphaadaaOcY
import Derived.Maps.Range
namespace Go.Proofs.Ythagoafcphaadaa
open Go.RowKit Sha Oc
set_option linter.unusedVariables false
set_option linter.unusedSimpArgs false
/-- what is known of a list in memory, with what is asked of its blocks -/
structure ElsR (R : Nat → Prop) (w : World) (B : Option Addr) (l : List Oct) (g off : Nat) (vb vl : Nat → Value) : Prop where
  hB : l ≠ [] → B = some ⟨g, off, none⟩ ∧ R g
  h0 : ∀ (k : Nat) (o : Oct), l[k]? = some o → w.cell? ⟨g, off + k * 3, none⟩ = some (.int .u8 ((tagO o).toNat : Int))
  h1 : ∀ (k : Nat) (o : Oct), l[k]? = some o → w.cell? ⟨g, off + k * 3 + 1, none⟩ = some (vb k)
  h2 : ∀ (k : Nat) (o : Oct), l[k]? = some o → w.cell? ⟨g, off + k * 3 + 2, none⟩ = some (vl k)
  hr : ∀ (k : Nat) (o : Oct), l[k]? = some o → At R w o (vb k) (vl k)
theorem Oc.At.elsR {R : Nat → Prop} {w : World} {t : UInt8} {b : List UInt8} {l : List Oct} {x y : Value} (h : At R w (.mk t b l) x y) : ∃ A c B d g off vb vl, x = .slice A b.length c ∧ y = .slice B l.length d ∧ b.length ≤ c ∧ b.length ≤ 140737488355328 ∧ (A = none → c = 0) ∧ SrcAt A b w ∧ (∀ ga oa, A = some ⟨ga, oa, none⟩ → b ≠ [] → R ga) ∧ l.length ≤ d ∧ (B = none → d = 0) ∧ ElsR R w B l g off vb vl := by
  cases h with
  | mk t b l A c B d g off vb vl hc hbm hcn hs hA hd hlm hdn hB h0 h1 h2 hr => exact ⟨A, c, B, d, g, off, vb, vl, rfl, rfl, hc, hbm, hcn, hs, hA, hd, hdn, hB, h0, h1, h2, hr⟩
theorem Oc.At.low {base : Nat} {w V : World} {o : Oct} {x y : Value} (h : At (fun g => g < base) w o x y) (hb : Below base w V) : At (fun g => g < base) V o x y :=
  h.to fun g p u hu hR => ⟨by rw [hb.cell (p := ⟨g, p, none⟩) hR]; exact hu, hR⟩
theorem ElsR.low {base : Nat} {w V : World} {B : Option Addr} {l : List Oct} {g off : Nat} {vb vl : Nat → Value} (h : ElsR (fun g => g < base) w B l g off vb vl) (hb : Below base w V) : ElsR (fun g => g < base) V B l g off vb vl := by
  have hg : ∀ (k : Nat) (o : Oct), l[k]? = some o → g < base := fun k o hk => (h.hB (fun e => by rw [e] at hk; simp at hk)).2
  exact ⟨h.hB, fun k o hx => (hb.cell (p := ⟨g, _, none⟩) (hg k o hx)).trans (h.h0 k o hx), fun k o hx => (hb.cell (p := ⟨g, _, none⟩) (hg k o hx)).trans (h.h1 k o hx), fun k o hx => (hb.cell (p := ⟨g, _, none⟩) (hg k o hx)).trans (h.h2 k o hx), fun k o hx => (h.hr k o hx).low hb⟩
theorem Oc.At.lower {w : World} {base : Nat} {o : Oct} {x y : Value} (h : At (fun _ => True) w o x y) (hb : w.heap.size ≤ base) : At (fun g => g < base) w o x y :=
  h.to fun g p u hu _ => ⟨hu, Nat.lt_of_lt_of_le (World.block_lt_of_cell? _ _ hu) hb⟩
theorem srcAt_low {base : Nat} {A : Option Addr} {b : List UInt8} {w V : World} (hs : SrcAt A b w) (hA : ∀ ga oa, A = some ⟨ga, oa, none⟩ → b ≠ [] → ga < base) (hb : Below base w V) : SrcAt A b V := fun hne => by
  obtain ⟨g, o, e, hc⟩ := hs hne
  exact ⟨g, o, e, fun j x hj => (hb.cell (p := ⟨g, _, none⟩) (hA g o e hne)).trans (hc j x hj)⟩
theorem sizs_app : ∀ (l r : List Oct), sizs (l ++ r) = sizs l + sizs r
  | [], r => by rw [List.nil_append, sizs]; omega
  | x :: q, r => by rw [List.cons_append, sizs, sizs_app q r, sizs]; omega
theorem encs_snoc : ∀ (l : List Oct) (o : Oct), encs (l ++ [o]) = encs l ++ enc o
  | [], o => by rw [List.nil_append, encs, encs, encs, List.append_nil, List.nil_append]
  | x :: r, o => by rw [List.cons_append, encs, encs_snoc r o, encs, List.append_assoc]
/-- bytes of one's own that have grown -/
structure Grw (base : Nat) (V : World) (ov : Value) (w' : World) (v' : Value) (n : Nat) (xs : List Value) : Prop where
  own : w'.ownsRow base 5 1 v' n xs
  grown : V.grownBy w' ov.ownBlock
  loc : v'.ownBlock = ov.ownBlock ∨ ∃ k, v'.ownBlock = some k ∧ V.heap.size ≤ k
theorem Grw.refl {base n : Nat} {V : World} {ov : Value} {xs : List Value} (h : V.ownsRow base 5 1 ov n xs) : Grw base V ov V ov n xs := ⟨h, World.grownBy.refl _ _, .inl rfl⟩
theorem Grw.trans {base n m : Nat} {V w1 w2 : World} {ov v1 v2 : Value} {xs ys : List Value} (h : Grw base V ov w1 v1 n xs) (k : Grw base w1 v1 w2 v2 m ys) : Grw base V ov w2 v2 m ys := by
  refine ⟨k.own, h.grown.andThen k.grown fun j hj => ?_, ?_⟩
  · rcases h.loc with e | ⟨i, e, hi⟩
    · exact .inr (by rw [← e]; exact hj)
    · rw [e] at hj
      obtain rfl := Option.some.inj hj
      exact .inl hi
  · rcases k.loc with e | ⟨i, e, hi⟩
    · rw [e]
      exact h.loc
    · exact .inr ⟨i, e, Nat.le_trans h.grown.size hi⟩
/-- a step that only reads, or makes memory, between -/
theorem Grw.on {base n : Nat} {V w1 w2 : World} {ov v1 : Value} {xs : List Value} (h : Grw base V ov w1 v1 n xs) (hb : Below w1.heap.size w1 w2) : Grw base V ov w2 v1 n xs :=
  h.trans ⟨h.own.kept (row := none) ⟨hb.os, hb.tape, hb.output, hb.size, fun k hk _ => hb.block k hk⟩ (by cases v1.ownBlock <;> simp), ⟨hb.os, hb.tape, hb.output, hb.size, fun k hk _ => hb.block k hk⟩, .inl rfl⟩
theorem Grw.below {base n m : Nat} {ys : List Value} {V w' : World} {ov v' : Value} {xs : List Value} (h : Grw base V ov w' v' n xs) (hV : V.ownsRow base 5 1 ov m ys) (hb : base ≤ V.heap.size) : Below base V w' :=
  (Below.refl base V).grown h.grown hb fun k hk => (own_ge hV hk).1
/-- what lies in no own block stays -/
theorem Grw.row {base n : Nat} {V w' : World} {ov v' : Value} {xs : List Value} (h : Grw base V ov w' v' n xs) {X : Nat} {o : Obj} (hX : V.heap[X]? = some o) (hne : some X ≠ ov.ownBlock) : w'.heap[X]? = some o :=
  (h.grown.block X (Array.getElem?_eq_some_iff.1 hX).1 hne).trans hX
theorem Grw.far {base n : Nat} {V w' : World} {ov v' : Value} {xs : List Value} (h : Grw base V ov w' v' n xs) {X : Nat} (hlt : X < V.heap.size) (hne : some X ≠ ov.ownBlock) : some X ≠ v'.ownBlock := by
  rcases h.loc with e | ⟨i, e, hi⟩
  · rw [e]; exact hne
  · rw [e]
    intro e2
    have := Option.some.inj e2
    omega
theorem append_src_at {w : World} {ops : Array Oper} {rest : List Oper} {o : Oper} {a : Act} {Q : Exit → Act → World → Prop} (hgd : o.guard = none) (s x : Operand)
    (ho : o.op = .call { callee := .builtin .append, args := #[s, x], argTypes := #[22, 22] }) (base : Nat) (v : Value) (n : Nat) (xs : List Value) (hs : a.eval s = v) (hown : w.ownsRow base 5 1 v n xs)
    (A : Option Addr) (L : List UInt8) (c m : Nat) (hm : L.length = m) (hx : a.eval x = .slice A m c) (hA : A = none → c = 0) (hsrc : SrcAt A L w) (h63 : n + m ≤ 1000000000) (hbase : base ≤ w.heap.size)
    (h : ∀ v' w', Grw base w v w' v' (n + m) (xs ++ bvals L) → wpList Try.prog ops Q rest (a.put o.dst v') w') : wpList Try.prog ops Q (o :: rest) a w := by
  obtain ⟨i0, hi, hz0, hz1, hz2⟩ := info_parts Try.info_byte
  subst hm
  cases A with
  | none =>
    have hL : L = [] := by
      by_cases e : L = []
      · exact e
      · obtain ⟨g, o, e2, _⟩ := hsrc e
        cases e2
    subst hL
    obtain rfl := hA rfl
    exact wpList_append_own_none hgd s x 22 ho base 5 i0 1 Try.underlying22 hi v n xs hs hown hx (h v w ⟨by simpa [bvals] using hown, World.grownBy.refl _ _, .inl rfl⟩)
  | some ad =>
    refine wpList_append_own_at _ hgd s x 22 ho base 5 i0 (.int .u8 0) 1 1 Try.underlying22 hi hz0 hz1 hz2 rfl (by decide) v n xs hs hown ad L.length c (bvals L) hx (by rw [bvals_len, Nat.mul_one]) ?_ ?_ (by unfold maxLen; omega) (by omega) hbase (fun v' w' h1 h2 _ h4 => h v' w' ⟨h1, h2, h4.imp id fun e => ⟨_, e, Nat.le_refl _⟩⟩)
    · intro j u hj
      unfold bvals at hj
      rw [List.getElem?_map] at hj
      obtain ⟨y, hy, rfl⟩ := Option.map_eq_some_iff.1 hj
      obtain ⟨g, o, e, hc⟩ := hsrc (by intro e; rw [e] at hy; simp at hy)
      obtain rfl := Option.some.inj e
      rw [add_eq]
      exact hc j y hy
    · intro v hv
      unfold bvals at hv
      obtain ⟨x, _, rfl⟩ := List.mem_map.1 hv
      rfl
/-- bytes that grow beside a block that stays -/
structure Gbx (base : Nat) (w : World) (ov : Value) (X : Nat) (o : Obj) (W : World) (v : Value) (n : Nat) (xs : List Value) : Prop where
  g : Grw base w ov W v n xs
  row : W.heap[X]? = some o
  far : some X ≠ v.ownBlock
theorem Gbx.on {base n X : Nat} {w W W' : World} {ov v : Value} {o : Obj} {xs : List Value} (h : Gbx base w ov X o W v n xs) (hb : Below W.heap.size W W') : Gbx base w ov X o W' v n xs :=
  ⟨h.g.on hb, (hb.block X (Array.getElem?_eq_some_iff.1 h.row).1).trans h.row, h.far⟩
theorem Gbx.app {base n m X : Nat} {w W W' : World} {ov v v' : Value} {o : Obj} {xs ys : List Value} (h : Gbx base w ov X o W v n xs) (k : Grw base W v W' v' m ys) : Gbx base w ov X o W' v' m ys :=
  ⟨h.g.trans k, k.row h.row h.far, k.far (Array.getElem?_eq_some_iff.1 h.row).1 h.far⟩
def PtPost (o : Oct) (base : Nat) (ov : Value) (n : Nat) (xs : List Value) (V : World) (e : Ending) (w' : World) : Prop := ∃ v', e = .returned v' ∧ Grw base V ov w' v' (n + siz o) (xs ++ bvals (enc o))
set_option maxRecDepth 100000 in
set_option maxHeartbeats 8000000 in
theorem put_of (t : UInt8) (b : List UInt8) (l : List Oct) (hcn : cnt (.mk t b l) ≤ 5000) (htt : tot (.mk t b l) ≤ 100000)
    (hW : ∀ (k : Nat) (o : Oct), l[k]? = some o → ∀ (base : Nat) (V : World) (ov x y : Value) (n : Nat) (xs : List Value), base ≤ V.heap.size → n + siz o ≤ 900000 → At (fun g => g < base) V o x y → V.ownsRow base 5 1 ov n xs → Calls Try.prog 16 #[ov, .agg (cell3 o x y)] V (PtPost o base ov n xs V))
    (base : Nat) (w : World) (ov x y : Value) (n0 : Nat) (xs : List Value) (hbase : base ≤ w.heap.size) (hn0 : n0 + siz (.mk t b l) ≤ 900000) (hat : At (fun g => g < base) w (.mk t b l) x y) (hown : w.ownsRow base 5 1 ov n0 xs) :
    Calls Try.prog 16 #[ov, .agg (cell3 (.mk t b l) x y)] w (PtPost (.mk t b l) base ov n0 xs w) := by
  have hcs := fun (V : World) (hb : Below base w V) => csize_of t b l hcn (by omega) (fun k o ho V x y hat => psize_all 5000 o (by rw [cnt] at hcn; have := cnt_le l o (List.mem_of_getElem? ho); omega) (Nat.le_refl _) (by rw [tot] at htt; have := tot_le l o (List.mem_of_getElem? ho); omega) V x y hat) V x y (hat.low hb).any
  obtain ⟨i0, hi, hz0, hz1, hz2⟩ := info_parts Try.info_byte
  obtain ⟨A, c, B, d, g, off, vb, vl, rfl, rfl, hc, hbm, hcn0, hs, hsA, hd, hdn, he⟩ := hat.elsR
  have hsz : siz (.mk t b l) = 1 + (lenb (b.length + sizs l)).length + (b.length + sizs l) := by rw [siz]
  have hen : enc (.mk t b l) = [t] ++ lenb (b.length + sizs l) ++ b ++ encs l := by rw [enc, sizs_eq, List.singleton_append, List.cons_append, List.cons_append, List.append_assoc]
  obtain ⟨Z, hZ⟩ : ∃ Z, b.length + sizs l = Z := ⟨_, rfl⟩
  obtain ⟨n, hn⟩ : ∃ n, l.length = n := ⟨_, rfl⟩
  obtain ⟨m, hm⟩ : ∃ m, b.length = m := ⟨_, rfl⟩
  have hll := len_cnts l
  rw [cnt] at hcn
  have HCS := Lib.hid hcs
  unfold PtPost at hW ⊢
  show Calls Try.prog 16 #[ov, .agg #[.int .u8 (t.toNat : Int), .slice A b.length c, .slice B l.length d]] w _
  have hz5 : Z ≤ 1000000 := by rw [hsz, hZ] at hn0; omega
  have hn5 : n ≤ 5000 := by omega
  have hm5 : m ≤ 900000 := by rw [hsz, hZ] at hn0; omega
  have HLN := Lib.hid (fun V => lengthof_any Z (by omega) V)
  have HLB := Lib.hid (lenb_le Z)
  rw [hn, hm]
  rw [hsz, hZ] at hn0 ⊢
  rw [hen, hZ]
  have HW := Lib.hid hW
  have HE := Lib.hid he
  have HN := Lib.hid hn
  have HM := Lib.hid hm
  have HZ := Lib.hid hZ
  have HI := Lib.hid hi
  have HS := Lib.hid hs
  have HSA := Lib.hid hsA
  have HC0 := Lib.hid hcn0
  have HN0 := Lib.hid hn0
  have HN5 := Lib.hid hn5
  have HM5 := Lib.hid hm5
  have HBA := Lib.hid hbase
  have HOW := Lib.hid hown
  have HROW := Lib.hid (heap_alloc_new w (.cells #[.int .u8 (t.toNat : Int), .slice A m c, .slice B n d] 28))
  have HB0 := Lib.hid (below_new w (.cells #[.int .u8 (t.toNat : Int), .slice A m c, .slice B n d] 28))
  have HX0 : RowKit.Hid (some w.heap.size ≠ ov.ownBlock) := Lib.hid (fun e => by have := (own_ge hown e.symm).2; omega)
  rw [hZ, hm, hn] at HCS
  clear hcs hW he hn hm hZ hi hs hsA hcn0 hn0 hn5 hm5 hz5 hbase hat hc hbm hd hdn hll hcn htt hsz hen
  go_enter Try.func16, Try.ntmps16
  go_upto_region 1 with (fail)
  have HG0 : RowKit.Hid (Gbx base w ov w.heap.size (.cells #[.int .u8 (t.toNat : Int), .slice A m c, .slice B n d] 28 (0, 0)) (w.alloc (.cells #[.int .u8 (t.toNat : Int), .slice A m c, .slice B n d] 28)) ov n0 xs) := Lib.hid ⟨(Grw.refl hown).on HB0.out, HROW.out, HX0.out⟩
  have hle0 : base ≤ (w.alloc (.cells #[.int .u8 (t.toNat : Int), .slice A m c, .slice B n d] 28)).heap.size := Nat.le_trans HBA.out HB0.out.size
  clear hown
  generalize hV : World.alloc w _ = V at HROW HB0 HG0 hle0 ⊢
  clear hV HROW HX0
  have HLE := Lib.hid hle0
  clear hle0
  have hlt := (Array.getElem?_eq_some_iff.1 HG0.out.row).1
  obtain ⟨_, hc0, hc1, hc2⟩ := facts3 HG0.out.row
  have HSRC1 : RowKit.Hid (SrcAt (some ⟨V.heap.size, 0, none⟩) [t] (V.alloc (.cells #[.int .u8 (t.toNat : Int)] 5))) := Lib.hid (srcAt_row (heap_alloc_new V _))
  have HG1 := Lib.hid (HG0.out.on (below_new V (.cells #[.int .u8 (t.toNat : Int)] 5)))
  go_upto_region 2 with (at_builtin; go_loud (refine append_src_at rfl (.tmp 7) (.tmp 10) rfl base _ _ _ rfl HG1.out.g.own (some ⟨V.heap.size, 0, none⟩) [t] 1 1 rfl rfl (fun e => by cases e) HSRC1.out (by have := HN0.out; omega) (by have := HLE.out; rw [World.size_alloc]; omega) ?_); intro v1 w1 hg1; have HG2 := Lib.hid (HG1.out.app hg1); clear hg1)
  clear HG0 HG1 HSRC1 hlt hc0 hc1 hc2 HLE
  have hlt := (Array.getElem?_eq_some_iff.1 HG2.out.row).1
  obtain ⟨_, hc0, hc1, hc2⟩ := facts3 HG2.out.row
  have hrg := range3o hc0 hc1 hc2
  have HC1 := Lib.hid (HCS.out w1 (HG2.out.g.below HOW.out HBA.out))
  go_wp2_with fail
  refine HC1.out.mono ?_
  rintro e w2 ⟨rfl, hb2⟩
  have HG3 := Lib.hid (HG2.out.on hb2)
  clear HG2 HC1 hb2 hlt hc0 hc1 hc2 hrg HCS
  go_wp2_with fail
  refine (HLN.out w2).mono ?_
  rintro e w3 ⟨vq, rfl, hoq, hb3⟩
  obtain ⟨Aq, cq, rfl, _, hqn, hqs, _⟩ := own_rd3 hoq
  have HG4 := Lib.hid (HG3.out.on hb3)
  have HQN := Lib.hid hqn
  have HQS := Lib.hid hqs
  clear HG3 HLN hoq hb3 hqn hqs
  go_upto_region 3 with (at_builtin; go_loud (refine append_src_at rfl (.tmp 12) (.tmp 15) rfl base _ _ _ rfl HG4.out.g.own Aq (lenb Z) cq _ rfl rfl HQN.out HQS.out (by have := HN0.out; have := HLB.out; omega) (Nat.le_trans HBA.out HG4.out.g.grown.size) ?_); intro v4 w4 hg4; have HG5 := Lib.hid (HG4.out.app hg4); clear hg4)
  clear HG4 HQN HQS
  have hlt := (Array.getElem?_eq_some_iff.1 HG5.out.row).1
  obtain ⟨_, hc0, hc1, hc2⟩ := facts3 HG5.out.row
  have HS5 := Lib.hid (srcAt_low HS.out HSA.out (HG5.out.g.below HOW.out HBA.out))
  go_upto_region 4 with (at_builtin; go_loud (refine append_src_at rfl (.tmp 17) (.tmp 19) rfl base _ _ _ rfl HG5.out.g.own A b c m HM.out rfl HC0.out HS5.out (by have := HN0.out; have := HLB.out; have := HZ.out; have := HM.out; omega) (Nat.le_trans HBA.out HG5.out.g.grown.size) ?_); intro v5 w5 hg5; have HG6 := Lib.hid (HG5.out.app hg5); clear hg5)
  clear HG5 HS5 hlt hc0 hc1 hc2 HB0 HS HSA HC0
  have hlt := (Array.getElem?_eq_some_iff.1 HG6.out.row).1
  obtain ⟨_, hc0, hc1, hc2⟩ := facts3 HG6.out.row
  obtain ⟨N1, hN1⟩ : ∃ N1, n0 + 1 + (lenb Z).length + m = N1 := ⟨_, rfl⟩
  obtain ⟨X1, hX1⟩ : ∃ X1, xs ++ bvals [t] ++ bvals (lenb Z) ++ bvals b = X1 := ⟨_, rfl⟩
  have HF : RowKit.Hid (n0 + (1 + (lenb Z).length + Z) = N1 + sizs l ∧ xs ++ bvals (t :: (lenb Z ++ (b ++ encs l))) = X1 ++ bvals (encs l)) := Lib.hid ⟨by have := HZ.out; have := HM.out; omega, by rw [← hX1, show t :: (lenb Z ++ (b ++ encs l)) = [t] ++ lenb Z ++ b ++ encs l by simp, bvals_app, bvals_app, bvals_app]; simp only [List.append_assoc]⟩
  rw [hN1, hX1] at HG6
  have HN1 : RowKit.Hid (N1 + sizs l ≤ 900000) := Lib.hid (by have h1 := HN0.out; have h2 := HF.out.1; omega)
  clear hN1 hX1 HN0 HZ HLB HM
  have hn5 := HN5.out
  go_wp2_with fail
  clear hlt hc0 hc1 hc2
  go_loopw [0, 6, 24] (fun vv _ ix wr => ∃ k : Nat, k ≤ n ∧ ix = .int .i64 (k : Int) ∧ RowKit.Hid (Gbx base w ov w.heap.size (.cells #[.int .u8 (t.toNat : Int), .slice A m c, .slice B n d] 28 (0, 0)) wr vv (N1 + sizs (l.take k)) (X1 ++ bvals (encs (l.take k))))) (fun _ _ ix _ => n - (intOf ix).toNat)
  case atStart =>
    refine ⟨0, by omega, rfl, Lib.hid ?_⟩
    rw [List.take_zero, sizs, encs]
    simpa [bvals] using HG6.out
  case round =>
    obtain ⟨k, hk, rfl, HG⟩ := hrel
    have hlt0 := (Array.getElem?_eq_some_iff.1 HG.out.row).1
    by_cases hlt : k < n
    · have hki : (k : Int) < (n : Int) := by omega
      have hn5 := HN5.out
      obtain ⟨o, ho⟩ : ∃ o, l[k]? = some o := ⟨_, List.getElem?_eq_getElem (by rw [HN.out]; exact hlt)⟩
      have hne : l ≠ [] := fun e => by rw [e] at ho; simp at ho
      have hBB := (HE.out.hB hne).1
      subst hBB
      have hew := HE.out.low (HG.out.g.below HOW.out HBA.out)
      have hc0 := hew.h0 k o ho
      have hc1 := hew.h1 k o ho
      have hc2 := hew.h2 k o ho
      have hat := hew.hr k o ho
      obtain ⟨A1, m1, c1, B1, n1, d1, e1, e2⟩ := hat.any.slices
      rw [e1] at hc1 hat
      rw [e2] at hc2 hat
      have HTK : RowKit.Hid (sizs (l.take (k + 1)) = sizs (l.take k) + siz o ∧ bvals (encs (l.take (k + 1))) = bvals (encs (l.take k)) ++ bvals (enc o)) := Lib.hid (by
        rw [List.take_add_one, ho]
        show sizs (l.take k ++ [o]) = _ ∧ bvals (encs (l.take k ++ [o])) = _
        exact ⟨sizs_snoc _ _, by rw [encs_snoc, bvals_app]⟩)
      have hb6 : N1 + sizs (l.take k) + siz o ≤ 900000 := by
        have h1 := HN1.out
        have h2 := HTK.out.1
        have h3 : sizs (l.take (k + 1)) ≤ sizs l := by
          have h4 : sizs (l.take (k + 1)) + sizs (l.drop (k + 1)) = sizs l := by rw [← sizs_app, List.take_append_drop]
          omega
        omega
      have HCALL := Lib.hid (fun (V : World) (hb : Below wr.heap.size wr V) => HW.out k o ho base V _ _ _ _ _ (Nat.le_trans (Nat.le_trans HBA.out HG.out.g.grown.size) hb.size) hb6 (hat.low (hb.mono (Nat.le_trans HBA.out HG.out.g.grown.size))) (HG.out.on hb).g.own)
      clear hne hew hat ho e1 e2 hb6
      go_wp2_with fail
      refine (HCALL.out _ (below_new _ _)).mono ?_
      rintro e w2 ⟨v2, rfl, hg2⟩
      have HG2 := Lib.hid ((HG.out.on (below_new wr _)).app hg2)
      clear hc0 hc1 hc2 hlt0 hg2
      go_wp2_with fail
      refine ⟨⟨k + 1, by omega, by go_num, Lib.hid ?_⟩, by simp [intOf]; omega⟩
      rw [HTK.out.1, HTK.out.2, ← Nat.add_assoc, ← List.append_assoc]
      exact HG2.out
    · have hkk : k = n := by omega
      have HKK := Lib.hid hkk
      have hge : ¬ (k : Int) < (n : Int) := by omega
      clear hkk
      go_wp2_with fail
      go_ret
      refine ⟨_, rfl, ?_⟩
      have h1 := HG.out.g
      rw [HKK.out, List.take_of_length_le (by rw [HN.out]; exact Nat.le_refl _)] at h1
      rw [HF.out.1, HF.out.2]
      exact h1
theorem put_all : ∀ (n : Nat) (o : Oct), cnt o ≤ n → n ≤ 5000 → tot o ≤ 100000 → ∀ (base : Nat) (V : World) (ov x y : Value) (k : Nat) (xs : List Value), base ≤ V.heap.size → k + siz o ≤ 900000 → At (fun g => g < base) V o x y → V.ownsRow base 5 1 ov k xs → Calls Try.prog 16 #[ov, .agg (cell3 o x y)] V (PtPost o base ov k xs V) := fun n => by
  induction n with
  | zero => intro o h; have := cnt_pos o; omega
  | succ n ih =>
    intro o h hn ht base V ov x y j xs hb hs hat hown
    cases o with
    | mk t b l =>
      exact put_of t b l (by omega) ht (fun k o ho base V ov x y j xs hb hs hat hown => ih o (by rw [cnt] at h; have := cnt_le l o (List.mem_of_getElem? ho); omega) (by omega) (by rw [tot] at ht; have := tot_le l o (List.mem_of_getElem? ho); omega) base V ov x y j xs hb hs hat hown) base V ov x y j xs hb hs hat hown
end Go.Proofs.Ythagoafcphaadaa
