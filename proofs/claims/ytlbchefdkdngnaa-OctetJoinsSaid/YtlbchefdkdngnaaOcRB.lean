/-
  THE WALK over layer 8: the program's reader: value. Written by wip/gen-oc16.py.
-/
import Derived.Test.YtlbchefdkdngnaaOcRA
namespace Go.Proofs.Ytlbchefdkdngnaa
open Go.RowKit Sha Oc
set_option linter.unusedVariables false
set_option linter.unusedSimpArgs false
/-- one element more, which lies from lo on -/
theorem Mk.put2 {base n : Nat} {ts : List (Oct × Value × Value)} {v v' : Value} {V U : World} {o : Oct} {x y : Value} (h : Mk base ts v n V) (lo : Nat) (hlt : ∀ k, v.ownBlock = some k → k < lo) (hbase : base ≤ lo) (hx : At (Rw lo V) V o x y) (hown : U.ownsRow base 28 3 v' (n + 1) (rowT ts ++ [.int .u8 ((tagO o).toNat : Int), x, y])) (hg : V.grownBy U v.ownBlock) (hloc : v'.ownBlock = v.ownBlock ∨ v'.ownBlock = some V.heap.size) :
    Mk base (ts ++ [(o, x, y)]) v' (n + 1) U := by
  have keep : ∀ (g : Nat), (v.ownBlock ≠ some g) → ∀ (p : Nat) (u : Value), V.cell? ⟨g, p, none⟩ = some u → U.cell? ⟨g, p, none⟩ = some u ∧ (Rw base V g → Rw base U g ∧ v'.ownBlock ≠ some g) := fun g hne p u hu => by
    have hgl : g < V.heap.size := World.block_lt_of_cell? _ _ hu
    have hbk := hg.block g hgl (fun e => hne e.symm)
    refine ⟨by simp only [World.cell?, hbk] at hu ⊢; exact hu, fun hR => ⟨⟨hR.1, ?_⟩, ?_⟩⟩
    · obtain ⟨_, cs, t, h3⟩ := hR
      exact ⟨cs, t, hbk.trans h3⟩
    · rcases hloc with e | e
      · rw [e]; exact hne
      · rw [e]
        intro e2
        have := Option.some.inj e2
        omega
  refine ⟨by rw [rowT_app]; exact hown, by rw [List.length_append, h.len]; rfl, fun t ht => ?_⟩
  rcases List.mem_append.1 ht with ht | ht
  · exact (h.els t ht).to fun g p u hu hR => ⟨(keep g hR.2 p u hu).1, (keep g hR.2 p u hu).2 hR.1⟩
  · simp at ht
    subst ht
    refine hx.to fun g p u hu hR => ?_
    have hne : v.ownBlock ≠ some g := fun e => by have := hlt g e; have := hR.1; omega
    exact ⟨(keep g hne p u hu).1, (keep g hne p u hu).2 ⟨by have := hR.1; omega, hR.2⟩⟩
/-- a value in the making (block SB), its list beside it, and a reader's block I that changes -/
structure LX (W1 : World) (I SB : Nat) (t0 y0 : Value) (ts : List (Oct × Value × Value)) (B : Option Addr) (d k : Nat) (V : World) : Prop where
  os : V.os = W1.os
  tape : V.tape = W1.tape
  output : V.output = W1.output
  sz : W1.heap.size ≤ V.heap.size
  oth : ∀ b, b < W1.heap.size → b ≠ SB → b ≠ I → V.heap[b]? = W1.heap[b]?
  lt : SB < W1.heap.size
  li : I < W1.heap.size
  ne : SB ≠ I
  rg : V.heap[SB]? = some (.cells #[t0, y0, .slice B k d] 28 (0, 0))
  lm : Mk W1.heap.size ts (.slice B k d) k V
theorem LX.on {W1 V U : World} {I SB d k : Nat} {t0 y0 : Value} {ts : List (Oct × Value × Value)} {B : Option Addr} (h : LX W1 I SB t0 y0 ts B d k V) (hb : Below V.heap.size V U) : LX W1 I SB t0 y0 ts B d k U :=
  ⟨hb.os.trans h.os, hb.tape.trans h.tape, hb.output.trans h.output, Nat.le_trans h.sz hb.size, fun b h1 h2 h3 => (hb.block b (by have := h.sz; omega)).trans (h.oth b h1 h2 h3), h.lt, h.li, h.ne, row_on h.rg hb, h.lm.on hb⟩
theorem LX.call {W1 V U : World} {I SB d k : Nat} {t0 y0 : Value} {ts : List (Oct × Value × Value)} {B : Option Addr} (h : LX W1 I SB t0 y0 ts B d k V) (hg : V.grownBy U (some I)) : LX W1 I SB t0 y0 ts B d k U := by
  have hli := h.li
  have hsz := h.sz
  have hk : ∀ g, W1.heap.size ≤ g → ∀ o, V.heap[g]? = some o → U.heap[g]? = some o := fun g hgl o ho => (hg.block g (Array.getElem?_eq_some_iff.1 ho).1 (fun e => by have := Option.some.inj e; omega)).trans ho
  refine ⟨hg.os.trans h.os, hg.tape.trans h.tape, hg.output.trans h.output, Nat.le_trans h.sz hg.size, fun b h1 h2 h3 => (hg.block b (by omega) (fun e => h3 (Option.some.inj e))).trans (h.oth b h1 h2 h3), h.lt, h.li, h.ne, (hg.block SB (by have := h.lt; omega) (fun e => h.ne (Option.some.inj e))).trans h.rg, ?_⟩
  refine ⟨h.lm.own.kept hg ?_, h.lm.len, fun t ht => (h.lm.els t ht).to fun g p u hu hR => ?_⟩
  · exact .inr (fun e => by have := (h.lm.own.lt I e).1; omega)
  · obtain ⟨⟨h1, cs, t, h3⟩, h4⟩ := hR
    have h5 := hk g h1 _ h3
    exact ⟨by simp only [World.cell?, h5, h3] at hu ⊢; exact hu, ⟨h1, cs, t, h5⟩, h4⟩
theorem LX.step {W1 V6 V7 : World} {I SB d k d' : Nat} {t0 y0 : Value} {ts ts' : List (Oct × Value × Value)} {B B' : Option Addr} (h6 : LX W1 I SB t0 y0 ts B d k V6) (hg : V6.grownBy V7 (Value.ownBlock (.slice B k d))) (hm : Mk W1.heap.size ts' (.slice B' (k + 1) d') (k + 1) V7) :
    V7.heap[SB]? = some (.cells #[t0, y0, .slice B k d] 28 (0, 0)) ∧ LX W1 I SB t0 y0 ts' B' d' (k + 1) (V7.setCell ⟨SB, 2, none⟩ (.slice B' (k + 1) d')) := by
  have hlo := h6.lm.own.lt
  have hlt := h6.lt
  have hb7 : ∀ b, b < W1.heap.size → V7.heap[b]? = V6.heap[b]? := fun b hbl => hg.block b (by have := h6.sz; omega) (fun e => by have := (hlo b e.symm).1; omega)
  have hr7 : V7.heap[SB]? = some (.cells #[t0, y0, .slice B k d] 28 (0, 0)) := (hb7 SB hlt).trans h6.rg
  refine ⟨hr7, hg.os.trans h6.os, hg.tape.trans h6.tape, hg.output.trans h6.output, ?_, fun b h1 h2 h3 => ?_, hlt, h6.li, h6.ne, heap_setCell_same _ _ _ _ _ _ hr7, ?_⟩
  · have h3 := hg.size
    have h4 := h6.sz
    have h5 : (V7.setCell ⟨SB, 2, none⟩ (.slice B' (k + 1) d')).heap.size = V7.heap.size := by simp [World.setCell]
    omega
  · exact ((Below.heap_setCell _ _ _ _ h2).trans (hb7 b h1)).trans (h6.oth b h1 h2 h3)
  · have hne : ∀ g, W1.heap.size ≤ g → (V7.setCell ⟨SB, 2, none⟩ (.slice B' (k + 1) d')).heap[g]? = V7.heap[g]? := fun g hgl => Below.heap_setCell _ _ _ _ (show g ≠ SB by omega)
    refine ⟨ownsRow_setCell_other (a := ⟨SB, 2, none⟩) hm.own (fun e => by have h1 : W1.heap.size ≤ SB := (hm.own.lt _ e).1; omega) _, hm.len, fun u hu => (hm.els u hu).to fun g p x hx hR => ?_⟩
    have hk := hne g hR.1.1
    obtain ⟨⟨h1, cs, t, h2⟩, h3⟩ := hR
    exact ⟨by simp only [World.cell?, hk] at hx ⊢; exact hx, ⟨h1, cs, t, hk.trans h2⟩, h3⟩
/-- a reader stays, where other blocks change -/
theorem Rdr.on {lo g c : Nat} {w V : World} {A : Option Addr} {L : List UInt8} (h : Rdr lo w g A L c) (hb : Below w.heap.size w V) : Rdr lo V g A L c := ⟨row_on h.row hb, h.src.on hb, h.cap, h.nul, h.len, h.far⟩
theorem Rdr.kept {lo g c X : Nat} {w V : World} {A : Option Addr} {L : List UInt8} (h : Rdr lo w g A L c) (hg : w.grownBy V (some X)) (hX : lo ≤ X) (hne : g ≠ X) : Rdr lo V g A L c :=
  ⟨(hg.block g (Array.getElem?_eq_some_iff.1 h.row).1 (fun e => hne (Option.some.inj e))).trans h.row, srcAt_grown h.src hg (fun ga oa e h1 => by have := (h.far ga oa e h1).2; omega), h.cap, h.nul, h.len, h.far⟩
theorem Rdr.keptr {lo g c : Nat} {w V : World} {A : Option Addr} {L : List UInt8} {row : Option Nat} (h : Rdr lo w g A L c) (hg : w.grownBy V row) (hX : ∀ j, row = some j → lo ≤ j ∧ j ≠ g) : Rdr lo V g A L c := by
  refine ⟨(hg.block g (Array.getElem?_eq_some_iff.1 h.row).1 (fun e => (hX g e.symm).2 rfl)).trans h.row, fun hne => ?_, h.cap, h.nul, h.len, h.far⟩
  obtain ⟨ga, o, e, hc⟩ := h.src hne
  exact ⟨ga, o, e, fun j x hj => hg.cell (hc j x hj) (fun e2 => by have h1 := (hX ga e2.symm).1; have h2 := (h.far ga o e hne).2; omega)⟩
theorem grown_below {w V : World} (hb : Below w.heap.size w V) (row : Option Nat) : w.grownBy V row := ⟨hb.os, hb.tape, hb.output, hb.size, fun k hk _ => hb.block k hk⟩
/-- a change of a block that is new -/
theorem grown_new {w V U : World} {g X : Nat} (h : w.grownBy V (some g)) (k : V.grownBy U (some X)) (hX : w.heap.size ≤ X) : w.grownBy U (some g) := h.andThen k fun j hj => .inl (by have := Option.some.inj hj; omega)
theorem grown_on {w V U : World} {g : Nat} (h : w.grownBy V (some g)) (k : Below V.heap.size V U) : w.grownBy U (some g) := h.trans (grown_below k _)
theorem row3_grown {w V : World} {X g : Nat} {o : Obj} (h : w.heap[X]? = some o) (hg : w.grownBy V (some g)) (hne : X ≠ g) : V.heap[X]? = some o := (hg.block X (Array.getElem?_eq_some_iff.1 h).1 (fun e => hne (Option.some.inj e))).trans h
theorem grown_setc (w : World) (a : Addr) (u : Value) : w.grownBy (w.setCell a u) (some a.block) := ⟨rfl, rfl, rfl, by simp [World.setCell], fun k _ hk => Below.heap_setCell _ _ _ _ (fun e => hk (by rw [e]))⟩
theorem grown_set3 {w V : World} {g X : Nat} (h : w.grownBy V (some g)) (hX : w.heap.size ≤ X) (a b c : Value) : w.grownBy (V.setCells X 0 [a, b, c]) (some g) :=
  grown_new (grown_new (grown_new h (grown_setc V ⟨X, 0, none⟩ a) hX) (grown_setc _ ⟨X, 1, none⟩ b) hX) (grown_setc _ ⟨X, 2, none⟩ c) hX
theorem rdr_set3 {lo g n X : Nat} {V : World} {A : Option Addr} {L : List UInt8} (h : Rdr lo V g A L n) (hX : lo ≤ X) (hne : g ≠ X) (a b c : Value) : Rdr lo (V.setCells X 0 [a, b, c]) g A L n :=
  ((h.kept (grown_setc V ⟨X, 0, none⟩ a) hX hne).kept (grown_setc _ ⟨X, 1, none⟩ b) hX hne).kept (grown_setc _ ⟨X, 2, none⟩ c) hX hne
def VlPost (lo k g : Nat) (L : List UInt8) (w : World) (e : Ending) (w' : World) : Prop := w.grownBy w' (some g) ∧
  ((prd k L = none ∧ e = .panicked [pan]) ∨ ∃ o r x y A' c', prd k L = some (o, r) ∧ e = .returned (.agg (cell3 o x y)) ∧ At (Rw w.heap.size w') w' o x y ∧ Rdr lo w' g A' r c')
def lft (I : Nat) (w : World) : Nat := match w.cell? ⟨I, 0, none⟩ with
  | some (.slice _ n _) => n
  | _ => 0
theorem lft_rdr {lo I c : Nat} {w : World} {A : Option Addr} {L : List UInt8} (h : Rdr lo w I A L c) : lft I w = L.length := by
  unfold lft
  rw [cell_of_one h.row]
set_option maxRecDepth 100000 in
set_option maxHeartbeats 8000000 in
theorem value_of (k : Nat) (hV : ∀ (lo : Nat) (W : World) (g : Nat) (A : Option Addr) (L : List UInt8) (c : Nat), Rdr lo W g A L c → lo ≤ W.heap.size → L.length < k → Calls Try.prog 50 #[.pointer (some ⟨g, 0, none⟩)] W (VlPost lo k g L W))
    (lo : Nat) (w : World) (g : Nat) (A : Option Addr) (L : List UInt8) (c : Nat) (h : Rdr lo w g A L c) (hlo : lo ≤ w.heap.size) (hk : L.length < k + 1) :
    Calls Try.prog 50 #[.pointer (some ⟨g, 0, none⟩)] w (VlPost lo (k + 1) g L w) := by
  have HV := Lib.hid hV
  have HK := Lib.hid hk
  have HLO := Lib.hid hlo
  have HH := Lib.hid h
  have hgl := (Array.getElem?_eq_some_iff.1 h.row).1
  have HGL := Lib.hid hgl
  unfold VlPost at HV ⊢
  clear hV hk h hlo hgl
  go_enter Try.func50, Try.ntmps50
  go_upto_region 1 with (fail)
  obtain ⟨V, hV, hb0, hr0⟩ : ∃ V, World.alloc w (.cells #[.int .u8 0, .slice none 0 0, .slice none 0 0] 28) = V ∧ Below w.heap.size w V ∧ V.heap[w.heap.size]? = some (.cells #[.int .u8 0, .slice none 0 0, .slice none 0 0] 28 (0, 0)) := ⟨_, rfl, below_new w _, heap_alloc_new w _⟩
  rw [hV]
  clear hV
  have HG0 := Lib.hid (grown_below hb0 (some g))
  have HR0 := Lib.hid hr0
  have HD0 := Lib.hid (HH.out.on hb0)
  have hT := take_any lo V g A L c 1 HD0.out (by decide)
  unfold TkPost at hT
  have HT := Lib.hid hT
  clear hb0 hr0 hT
  cases L with
  | nil =>
    go_wp2_with fail
    refine HT.out.mono ?_
    rintro e w1 (⟨_, rfl, rfl⟩ | ⟨h1, _⟩)
    · exact bodyPost_panic ⟨HG0.out, .inl ⟨rfl, rfl⟩⟩
    · exact absurd h1 (by simp)
  | cons t b =>
    go_wp2_with fail
    refine HT.out.mono ?_
    rintro e w1 (⟨h1, _⟩ | ⟨_, rfl, hg1, hs1, A1, hr1⟩)
    · exact absurd h1 (by rw [List.length_cons]; omega)
    obtain ⟨ga, oa, rfl, hc1⟩ := hs1 (by simp)
    have hx := hc1 0 t rfl
    rw [Nat.add_zero] at hx
    have HG1 := Lib.hid (HG0.out.trans hg1)
    have HRD1 : RowKit.Hid (Rdr lo w1 g A1 b (c - 1)) := Lib.hid hr1
    have hne1 : w.heap.size ≠ g := by have := HGL.out; omega
    have HNE := Lib.hid hne1
    have HRR1 := Lib.hid (row3_grown HR0.out hg1 hne1)
    clear HT hg1 hs1 hr1 hc1 hne1 HG0 HR0 HD0
    go_upto_region 2 with (fail)
    obtain ⟨VB, hVB⟩ : ∃ VB, w1.heap.size = VB := ⟨_, rfl⟩
    obtain ⟨V2, hV2, hb2, hr2⟩ : ∃ V2, World.alloc w1 (.cells #[.int .u8 (t.toNat : Int), .slice none 0 0, .slice none 0 0] 28) = V2 ∧ Below w1.heap.size w1 V2 ∧ V2.heap[w1.heap.size]? = some (.cells #[.int .u8 (t.toNat : Int), .slice none 0 0, .slice none 0 0] 28 (0, 0)) := ⟨_, rfl, below_new w1 _, heap_alloc_new w1 _⟩
    rw [hV2]
    clear hV2
    have HG2 := Lib.hid (grown_on HG1.out hb2)
    have HRR2 := Lib.hid (row_on HRR1.out hb2)
    have HRD2 := Lib.hid (HRD1.out.on hb2)
    have HVW : RowKit.Hid (w.heap.size < VB) := Lib.hid (by have h1 := (Array.getElem?_eq_some_iff.1 HRR1.out).1; omega)
    rw [hVB] at hr2 ⊢
    have HVR2 := Lib.hid hr2
    have hL := length_any lo V2 g A1 b (c - 1) HRD2.out
    unfold LnPost at hL
    have HL := Lib.hid hL
    clear hb2 hr2 hL HG1 HRR1 HRD1 hx
    clear hVB
    go_wp2_with fail
    refine HL.out.mono ?_
    rintro e w3 ⟨hg3, ⟨hp3, rfl⟩ | ⟨n, r, A3, c3, hp3, hn64, rfl, hr3⟩⟩
    · exact bodyPost_panic ⟨HG2.out.trans hg3, .inl ⟨by rw [prd, hp3], rfl⟩⟩
    have HP : RowKit.Hid (prd (k + 1) (t :: b) = if r.length < n then none else if t.toNat < 128 then some (.mk t (r.take n) [], r.drop n) else (prs (prd k) k (r.take n)).map fun l => (.mk t [] l, r.drop n)) := Lib.hid (by rw [prd, hp3])
    have HRL : RowKit.Hid (r.length < b.length) := Lib.hid (prl_len _ _ _ hp3)
    have HG3 := Lib.hid (HG2.out.trans hg3)
    have hneV : VB ≠ g := by have h1 := HVW.out; have h2 := HGL.out; omega
    have HNEV := Lib.hid hneV
    have HVR3 := Lib.hid (row3_grown HVR2.out hg3 hneV)
    have HRR3 := Lib.hid (row3_grown HRR2.out hg3 HNE.out)
    have HRD3 : RowKit.Hid (Rdr lo w3 g A3 r c3) := Lib.hid hr3
    have hT := take_any lo w3 g A3 r c3 n hr3 hn64
    unfold TkPost at hT
    have HT := Lib.hid hT
    clear HL hg3 hp3 hr3 hT HG2 HRR2 HRD2 HVR2 hneV
    go_wp2_with fail
    refine HT.out.mono ?_
    rintro e w4 (⟨h4, rfl, rfl⟩ | ⟨h4, rfl, hg4, hs4, A4, hr4⟩)
    · exact bodyPost_panic ⟨HG3.out, .inl ⟨by rw [HP.out, if_pos h4], rfl⟩⟩
    have hp4 := HP.out
    rw [if_neg (by omega)] at hp4
    have HP2 := Lib.hid hp4
    have HN := Lib.hid h4
    have HG4 := Lib.hid (HG3.out.trans hg4)
    have HVR4 := Lib.hid (row3_grown HVR3.out hg4 HNEV.out)
    have HRR4 := Lib.hid (row3_grown HRR3.out hg4 HNE.out)
    have HRD4 : RowKit.Hid (Rdr lo w4 g A4 (r.drop n) (c3 - n)) := Lib.hid hr4
    have HS4 := Lib.hid hs4
    obtain ⟨ct, hct⟩ : ∃ ct, r.take n = ct := ⟨_, rfl⟩
    have hctl : ct.length = n := by rw [← hct, List.length_take]; omega
    obtain ⟨rr, hrr⟩ : ∃ rr, r.drop n = rr := ⟨_, rfl⟩
    rw [hct, hrr] at HP2
    rw [hct] at HS4
    rw [hrr] at HRD4
    have HCT : RowKit.Hid (ct.length = n ∧ n ≤ c3 ∧ n ≤ 1000000 ∧ (A3 = none → c3 = 0) ∧ (∀ ga oa, A3 = some ⟨ga, oa, none⟩ → ct ≠ [] → ga < lo) ∧ ct.length < k) := Lib.hid (by
      have h5 := HRD3.out.cap
      have h6 := HRD3.out.len
      have h7 := HRL.out
      have h8 := HK.out
      rw [List.length_cons] at h8
      refine ⟨hctl, by omega, by omega, HRD3.out.nul, fun ga oa e h1 => (HRD3.out.far ga oa e (fun e2 => h1 (by rw [← hct, e2, List.take_nil]))).2, by omega⟩)
    have hz : t.toNat < 256 := t.toNat_lt
    obtain ⟨z, hzz⟩ : ∃ z, t.toNat = z := ⟨_, rfl⟩
    have HZ := Lib.hid hzz
    rw [hzz] at HVR4 HP2 hz
    clear HT HP hg4 hr4 hs4 hct hctl hrr hp4 h4 hzz HG3 HVR3 HRR3 HRD3 hn64 HRL
    have hlt := (Array.getElem?_eq_some_iff.1 HVR4.out).1
    obtain ⟨_, hc0, hc1, hc2⟩ := facts3 HVR4.out
    by_cases h128 : z < 128
    · have h1i : (z : Int) < 128 := by omega
      have hp5 := HP2.out
      rw [if_pos h128] at hp5
      have HP3 := Lib.hid hp5
      clear hp5 HP2
      go_upto_region 4 with (fail)
      clear hlt hc0 hc1 hc2
      go_upto_region 5 with (at_builtin; go_loud (refine append_src_at rfl (.const (.slice none 0 0)) (.tmp 18) rfl w4.heap.size (.slice none 0 0) 0 [] rfl (World.ownsRow_nil _ _ _ _) A3 ct c3 n HCT.out.1 rfl HCT.out.2.2.2.1 HS4.out (by have := HCT.out.2.2.1; omega) (Nat.le_refl _) ?_); intro v5 w5 hg5; have HG5 := Lib.hid hg5; clear hg5; have HVR5 := Lib.hid (HG5.out.row HVR4.out (by intro e; cases e)); have HRR5 := Lib.hid (HG5.out.row HRR4.out (by intro e; cases e)); have hlt := (Array.getElem?_eq_some_iff.1 HVR5.out).1; obtain ⟨⟨hf0, hf1, hf2⟩, hc0, hc1, hc2⟩ := facts3 HVR5.out; have ho5 := HG5.out.own; rw [Nat.zero_add, List.nil_append, ← HCT.out.1] at ho5; obtain ⟨A5, c5, rfl, hc5, hn5, hs5, hw5⟩ := own_rd3 ho5; have HC5 := Lib.hid hc5; have HN5 := Lib.hid hn5; have HS5 := Lib.hid hs5; have HW5 := Lib.hid hw5; clear ho5 hc5 hn5 hs5 hw5)
      clear hlt hf0 hf1 hf2 hc0 hc1 hc2
      have hlV : VB < w4.heap.size := (Array.getElem?_eq_some_iff.1 HVR4.out).1
      have hb5 : Below w4.heap.size w4 w5 := (Below.refl _ _).grown HG5.out.grown (Nat.le_refl _) (fun j hj => by cases hj)
      have HG6 := Lib.hid (grown_new (grown_on HG4.out hb5) (grown_setc w5 ⟨VB, 1, none⟩ (.slice A5 ct.length c5)) (Nat.le_of_lt HVW.out))
      have hAt : At (Rw w4.heap.size w5) w5 (.mk t ct []) (.slice A5 ct.length c5) (.slice none 0 0) := .mk t ct [] A5 c5 none 0 0 0 (fun _ => undef) (fun _ => undef) HC5.out (by have h1 := HCT.out.1; have h2 := HCT.out.2.2.1; omega) HN5.out HS5.out (fun ga oa e _ => HW5.out ga oa e) (Nat.le_refl _) (by decide) (fun _ => rfl) (fun h => absurd rfl h) (fun k o h => by simp at h) (fun k o h => by simp at h) (fun k o h => by simp at h) (fun k o h => by simp at h)
      have HAT := Lib.hid (at_setCells hAt hlV (Nat.le_refl _) 1 [.slice A5 ct.length c5])
      have HRD5 := Lib.hid ((HRD4.out.on hb5).kept (grown_setc w5 ⟨VB, 1, none⟩ (.slice A5 ct.length c5)) (by have h1 := HLO.out; have h2 := HVW.out; show lo ≤ VB; omega) (by have h1 := HNEV.out; show g ≠ VB; omega))
      have hv6 : (w5.setCell ⟨VB, 1, none⟩ (.slice A5 ct.length c5)).heap[VB]? = some (.cells #[.int .u8 (z : Int), .slice A5 ct.length c5, .slice none 0 0] 28 (0, 0)) := heap_setCell_same _ _ _ _ _ _ HVR5.out
      have hr6 : (w5.setCell ⟨VB, 1, none⟩ (.slice A5 ct.length c5)).heap[w.heap.size]? = some (.cells #[.int .u8 0, .slice none 0 0, .slice none 0 0] 28 (0, 0)) := (Below.heap_setCell _ _ _ _ (by have h2 := HVW.out; show w.heap.size ≠ VB; omega)).trans HRR5.out
      generalize hw6 : World.setCell w5 _ _ = w6 at HG6 HRD5 hv6 hr6 ⊢
      replace HAT : RowKit.Hid (At (Rw w4.heap.size w6) w6 (.mk t ct []) (.slice A5 ct.length c5) (.slice none 0 0)) := by rw [← hw6]; exact HAT
      have HV6 := Lib.hid hv6
      have HR6 := Lib.hid hr6
      have HLW : RowKit.Hid (w.heap.size < w4.heap.size) := Lib.hid (by have := HVW.out; omega)
      clear hw6 hAt hb5 hlV hv6 hr6 HG5 HVR5 HRR5 HC5 HN5 HS5 HW5 HS4 HVR4 HRR4 HRD4 HG4
      have hlt := (Array.getElem?_eq_some_iff.1 HV6.out).1
      obtain ⟨_, hc0, hc1, hc2⟩ := facts3 HV6.out
      have hrg := range3o hc0 hc1 hc2
      have hltR := (Array.getElem?_eq_some_iff.1 HR6.out).1
      obtain ⟨⟨hf0, hf1, hf2⟩, hd0, hd1, hd2⟩ := facts3 HR6.out
      go_wp2_with fail
      have e9 : ∀ a b c : Value, ((w6.setCell ⟨w.heap.size, 0, none⟩ a).setCell ⟨w.heap.size, 1, none⟩ b).setCell ⟨w.heap.size, 2, none⟩ c = w6.setCells w.heap.size 0 [a, b, c] := fun _ _ _ => rfl
      rw [e9]
      refine bodyPost_ret (v := .agg #[.int .u8 (z : Int), .slice A5 ct.length c5, .slice none 0 0]) (results_cell_row rfl _ _ w.heap.size 28 _ (0, 0) _ rfl (row_setCells8 HR6.out rfl) Try.underlying28 rfl (sz3o _ _ _)) rfl ⟨?_, .inr ⟨.mk t ct [], rr, _, _, A4, c3 - n, HP3.out, ?_, at_setCells HAT.out HLW.out (by have := HLW.out; omega) 0 _, ?_⟩⟩
      · exact grown_set3 HG6.out (Nat.le_refl _) _ _ _
      · show _ = Ending.returned (.agg #[.int .u8 ((t.toNat : Nat) : Int), _, _])
        rw [HZ.out]
      · exact rdr_set3 HRD5.out HLO.out (fun e => HNE.out e.symm) _ _ _
    · have h1i : ¬ (z : Int) < 128 := by omega
      have hp5 := HP2.out
      rw [if_neg h128] at hp5
      have HP3 := Lib.hid hp5
      clear hp5 HP2
      go_wp2_with fail
      clear hlt hc0 hc1 hc2
      obtain ⟨I, hI⟩ : ∃ I, w4.heap.size = I := ⟨_, rfl⟩
      obtain ⟨W1, hW1, hb1, hri⟩ : ∃ W1, World.alloc w4 (.cells #[.slice A3 n c3] 78) = W1 ∧ Below w4.heap.size w4 W1 ∧ W1.heap[w4.heap.size]? = some (.cells #[.slice A3 n c3] 78 (0, 0)) := ⟨_, rfl, below_new w4 _, heap_alloc_new w4 _⟩
      rw [hW1]
      have hVI : VB < w4.heap.size := (Array.getElem?_eq_some_iff.1 HVR4.out).1
      have hI1 := (Array.getElem?_eq_some_iff.1 hri).1
      have HVI : RowKit.Hid (w.heap.size < VB ∧ VB < I ∧ lo ≤ I ∧ I ≠ g ∧ I < W1.heap.size) := Lib.hid (by
        have h1 := HVW.out
        have h2 := HLO.out
        have h3 := HGL.out
        refine ⟨h1, by omega, by omega, by omega, by omega⟩)
      have HG5 := Lib.hid (grown_on HG4.out hb1)
      have HRR5 := Lib.hid (row_on HRR4.out hb1)
      have HRD5 := Lib.hid (HRD4.out.on hb1)
      have HLX5 : RowKit.Hid (LX W1 I VB (.int .u8 (z : Int)) (.slice none 0 0) [] none 0 0 W1) := Lib.hid ⟨rfl, rfl, rfl, Nat.le_refl _, fun _ _ _ _ => rfl, by omega, by omega, by omega, row_on HVR4.out hb1, mk_none _ _⟩
      rw [hI] at hri ⊢
      have HRI5 : RowKit.Hid (Rdr lo W1 I A3 ct c3) := Lib.hid ⟨by rw [HCT.out.1]; exact hri, HS4.out.on hb1, by rw [HCT.out.1]; exact HCT.out.2.1, HCT.out.2.2.2.1, by rw [HCT.out.1]; exact HCT.out.2.2.1, fun ga oa e h1 => by have h2 := HCT.out.2.2.2.2.1 ga oa e h1; have h3 := HVI.out.2.2.1; exact ⟨by omega, h2⟩⟩
      have HWS : RowKit.Hid (w.heap.size ≤ W1.heap.size) := Lib.hid (by have h1 := HVI.out; omega)
      clear hW1 hb1 hri hVI hI1 HG4 HRR4 HRD4 HVR4 HS4 hI
      go_loopw [27] (fun _ wr => ∃ (q : List UInt8) (ts : List (Oct × Value × Value)) (Aq : Option Addr) (cq : Nat) (PB : Option Addr) (pd kk j : Nat), RowKit.Hid (Rdr lo wr I Aq q cq) ∧ RowKit.Hid (q.length ≤ j ∧ 2 * kk + q.length ≤ n ∧ prs (prd k) k ct = (prs (prd k) j q).map (ts.map (·.1) ++ ·)) ∧ RowKit.Hid (LX W1 I VB (.int .u8 (z : Int)) (.slice none 0 0) ts PB pd kk wr) ∧ RowKit.Hid (Rdr lo wr g A4 rr (c3 - n)) ∧ RowKit.Hid (w.grownBy wr (some g)) ∧ RowKit.Hid (wr.heap[w.heap.size]? = some (.cells #[.int .u8 0, .slice none 0 0, .slice none 0 0] 28 (0, 0)))) (fun _ wr => lft I wr)
      case atStart => exact ⟨ct, [], A3, c3, none, 0, 0, k, HRI5, Lib.hid ⟨Nat.le_of_lt HCT.out.2.2.2.2.2, by have := HCT.out.1; omega, by cases prs (prd k) k ct <;> simp⟩, HLX5, HRD5, HG5, HRR5⟩
      case round =>
        clear HRI5 HLX5 HRD5 HG5 HRR5
        obtain ⟨q, ts, Aq, cq, PB, pd, kk, j, HRI, HJ, HLX, HRD, HGW, HRW⟩ := hrel
        have HLF := Lib.hid (lft_rdr HRI.out)
        have hlI := (Array.getElem?_eq_some_iff.1 HRI.out.row).1
        have hcI := cell_of_one HRI.out.row
        cases q with
        | nil =>
          rw [List.length_nil] at hcI
          have hpr : prs (prd k) k ct = some (ts.map (·.1)) := by
            rw [HJ.out.2.2, show prs (prd k) j [] = some [] by cases j <;> rfl]
            simp
          have HP9 : RowKit.Hid (prd (k + 1) (t :: b) = some (.mk t [] (ts.map (·.1)), rr)) := Lib.hid (by rw [HP3.out, hpr]; rfl)
          have hlV := (Array.getElem?_eq_some_iff.1 HLX.out.rg).1
          obtain ⟨_, hc0, hc1, hc2⟩ := facts3 HLX.out.rg
          have hrg := range3o hc0 hc1 hc2
          have hltR := (Array.getElem?_eq_some_iff.1 HRW.out).1
          obtain ⟨⟨hf0, hf1, hf2⟩, hd0, hd1, hd2⟩ := facts3 HRW.out
          have hlm := HLX.out.lm
          have hln : kk = ts.length := hlm.len.symm
          have how := hlm.own
          rw [hln] at how
          obtain ⟨B2, d2, hv2, hfin⟩ := at_of_rows t (b := []) (A := none) (c := 0) how hlm.done (by have h1 := HJ.out.2.1; have h2 := HCT.out; omega) (Nat.le_refl _) (by decide) (fun _ => rfl) (fun h => absurd rfl h) (fun _ _ _ h => absurd rfl h)
          rw [← hln] at hfin
          have HFIN := Lib.hid hfin
          have HRLT : RowKit.Hid (w.heap.size < W1.heap.size) := Lib.hid (by have h1 := HVI.out; omega)
          clear hpr hlm hln how hv2 hfin
          go_wp2_with fail
          have e9 : ∀ a b c : Value, ((wr.setCell ⟨w.heap.size, 0, none⟩ a).setCell ⟨w.heap.size, 1, none⟩ b).setCell ⟨w.heap.size, 2, none⟩ c = wr.setCells w.heap.size 0 [a, b, c] := fun _ _ _ => rfl
          rw [e9]
          refine bodyPost_ret (v := .agg #[.int .u8 (z : Int), .slice none 0 0, .slice PB kk pd]) (results_cell_row rfl _ _ w.heap.size 28 _ (0, 0) _ rfl (row_setCells8 HRW.out rfl) Try.underlying28 rfl (sz3o _ _ _)) rfl ⟨?_, .inr ⟨_, rr, _, _, A4, c3 - n, HP9.out, ?_, at_setCells HFIN.out HRLT.out (by have := HRLT.out; omega) 0 _, ?_⟩⟩
          · exact grown_set3 HGW.out (Nat.le_refl _) _ _ _
          · show _ = Ending.returned (.agg #[.int .u8 ((t.toNat : Nat) : Int), _, _])
            rw [HZ.out]
            rfl
          · exact rdr_set3 HRD.out HLO.out (fun e => HNE.out e.symm) _ _ _
        | cons x q =>
          obtain ⟨m, hm⟩ : ∃ m, (x :: q).length = m := ⟨_, rfl⟩
          have HM := Lib.hid hm
          rw [hm] at hcI
          have hm0 : (0 : Int) < (m : Int) := by rw [← hm, List.length_cons]; omega
          have hmk : m < k ∧ m ≤ 1000000 := by have h1 := HJ.out.2.1; have h2 := HCT.out; omega
          have HMK := Lib.hid hmk
          clear hm hmk
          go_wp2_with fail
          clear hlI hcI hm0
          obtain ⟨U, hU⟩ : ∃ U, wr.drew = U := ⟨_, rfl⟩
          have hbU : Below wr.heap.size wr U := by rw [← hU]; exact (Below.refl _ _).drew
          have HXU := Lib.hid (HLX.out.on hbU)
          have HRIU := Lib.hid (HRI.out.on hbU)
          have HRDU := Lib.hid (HRD.out.on hbU)
          have HGU := Lib.hid (grown_on HGW.out hbU)
          have HRU := Lib.hid (row_on HRW.out hbU)
          have hcall := HV.out lo U I Aq (x :: q) cq HRIU.out (by have h1 := HVI.out; have h2 := HXU.out.sz; omega) (by have h1 := HMK.out.1; rw [HM.out]; omega)
          have HCALL := Lib.hid hcall
          have HLOO : RowKit.Hid (∀ j, Value.ownBlock (.slice PB kk pd) = some j → j < U.heap.size) := Lib.hid (fun j hj => (HXU.out.lm.own.lt j hj).2)
          have HKB : RowKit.Hid (kk ≤ 500000) := Lib.hid (by have h1 := HJ.out.2.1; have h2 := HCT.out; omega)
          clear hbU hcall HLX HRI HRD HGW HRW
          refine wp_region_held_drew (S := fun _ => True) (by kernel_rfl) trivial (fun hHeld => ?_)
          rw [hU]
          clear hU
          refine wpAnyH_take (i := 0) (oi := { dst := Option.some 28, op := Go.Op.fieldAddr 28 (Go.Operand.tmp 3) 2, type := 0, pos := "reader.go:42", after := #[], guard := Option.none }) (v := ?_) rfl (by kernel_rfl) (by kernel_rfl) (by kernel_rfl) (fun _ _ _ h => h) (Or.inl ⟨by rfl, ?_⟩) hHeld ?_
          rotate_left
          · intro w hSw
            clear hSw
            go_simp
            try with_reducible rfl
          try simp only [Act.put, List.setIfInBounds_toArray, List.set_cons_zero, List.set_cons_succ]
          refine wpAnyH_ready (rs := [1, 2]) (by kernel_rfl) (by simp) (AllReadyH.cons (o := { dst := Option.some 29, op := Go.Op.load 26 (Go.Operand.tmp 28), type := 26, pos := "reader.go:42", after := #[{ on := 0, ground := Go.Ground.data }], guard := Option.none }) rfl (fun K hK => ?_) (AllReadyH.cons (o := { dst := Option.some 30, op := Go.Op.call { callee := Go.Callee.value (Go.Operand.func 50), args := #[Go.Operand.tmp 5], argTypes := #[78] }, type := 28, pos := "reader.go:42", after := #[], guard := Option.none }) rfl (fun K hK => ?_) AllReadyH.nil))
          · have hq2 := (facts3 HXU.out.rg).2.2.2
            go_simp
            clear hq2
            refine hK.out _ _ trivial (fun hHeld2 => ?_)
            clear hK K hHeld
            have hHeld := hHeld2
            clear hHeld2
            try simp only [Act.put, List.setIfInBounds_toArray, List.set_cons_zero, List.set_cons_succ]
            refine wpAnyH_ready (rs := [2]) (by kernel_rfl) (by simp) (AllReadyH.cons (o := { dst := Option.some 30, op := Go.Op.call { callee := Go.Callee.value (Go.Operand.func 50), args := #[Go.Operand.tmp 5], argTypes := #[78] }, type := 28, pos := "reader.go:42", after := #[], guard := Option.none }) rfl (fun K hK => ?_) AllReadyH.nil)
            go_simp
            refine (HCALL.out).mono ?_
            rintro e z5 ⟨g5, ⟨hp5, rfl⟩ | ⟨o, r5, x, y, A5, c5, hp5, rfl, hat2, hrd5⟩⟩
            · show _ ∧ _
              refine ⟨rfl, ?_⟩
              exact ⟨grown_new HGU.out g5 (by have h1 := HVI.out; omega), .inl ⟨by rw [HP3.out, HJ.out.2.2]; obtain ⟨i, rfl⟩ : ∃ i, j = i + 1 := ⟨j - 1, by have h1 := HJ.out.1; rw [List.length_cons] at h1; omega⟩; rw [prs, hp5]; rfl, rfl⟩⟩
            have HP5 := Lib.hid hp5
            have HRD5 := Lib.hid hrd5
            have HG5 := Lib.hid g5
            have HAT := Lib.hid hat2
            have HONE := Lib.hid (oct_one hat2)
            obtain ⟨A2, m2, c2, B2, n2, d2, rfl, rfl⟩ := hat2.slices
            have HX5 := Lib.hid (HXU.out.call g5)
            clear hat2 hp5 hrd5 g5
            go_simp
            refine hK.out _ _ trivial (fun hHeld2 => ?_)
            clear hK K hHeld
            have hHeld := hHeld2
            clear hHeld2
            try simp only [Act.put, List.setIfInBounds_toArray, List.set_cons_zero, List.set_cons_succ]
            refine wpAnyH_ready (rs := [3]) (by kernel_rfl) (by simp) (AllReadyH.cons (o := { dst := Option.some 31, op := Go.Op.buildSlice 26 1 #[(0, Go.Operand.tmp 30)], type := 26, pos := "reader.go:42", after := #[{ on := 2, ground := Go.Ground.data }], guard := Option.none }) rfl (fun K hK => ?_) AllReadyH.nil)
            go_simp
            generalize hq : World.alloc z5 _ = z6
            have r6 : z6 = z5.alloc (.cells #[.int .u8 ((tagO o).toNat : Int), .slice A2 m2 c2, .slice B2 n2 d2] 28) := hq.symm
            have n6 : Below z5.heap.size z5 z6 := by rw [r6]; exact below_new _ _
            have HN6 := Lib.hid n6
            have HX6 := Lib.hid (HX5.out.on n6)
            have q6 : ∀ j u, ([.int .u8 ((tagO o).toNat : Int), .slice A2 m2 c2, .slice B2 n2 d2] : List Value)[j]? = some u → z6.cell? ((⟨z5.heap.size, 0, none⟩ : Addr).add j) = some u := by rw [r6]; exact cell_three_new _ _ _ _ _
            have HQ6 := Lib.hid q6
            clear hq r6 n6 q6
            refine hK.out _ _ trivial (fun hHeld2 => ?_)
            clear hK K hHeld
            have hHeld := hHeld2
            clear hHeld2
            try simp only [Act.put, List.setIfInBounds_toArray, List.set_cons_zero, List.set_cons_succ]
            refine wpAnyH_ready (rs := [4]) (by kernel_rfl) (by simp) (AllReadyH.cons (o := { dst := Option.some 32, op := Go.Op.call { callee := Go.Callee.builtin Go.Builtin.append, args := #[Go.Operand.tmp 29, Go.Operand.tmp 31], argTypes := #[26, 26] }, type := 26, pos := "reader.go:42", after := #[{ on := 1, ground := Go.Ground.data }, { on := 3, ground := Go.Ground.data }, { on := 2, ground := Go.Ground.chain }], guard := Option.none }) rfl (fun K hK => ?_) AllReadyH.nil)
            try rw [if_pos (by rfl)]
            refine wp_append_own_at8 (.tmp 29) (.tmp 31) rfl W1.heap.size _ _ _ rfl HX6.out.lm.own ⟨z5.heap.size, 0, none⟩ 1 1 [.int .u8 ((tagO o).toNat : Int), .slice A2 m2 c2, .slice B2 n2 d2] rfl rfl HQ6.out HONE.out (by have := HKB.out; omega) HX6.out.sz ?_
            intro v7 z7 o7 g7 l7
            have hput := HX6.out.lm.put2 U.heap.size HLOO.out HXU.out.sz (HAT.out.own HN6.out (Nat.le_refl _)) o7 g7 l7
            obtain ⟨A7, c7, rfl⟩ := own_sliceO o7
            have HS7 := Lib.hid (HX6.out.step g7 hput)
            have HG7 := Lib.hid g7
            clear g7 o7 l7 hput
            refine hK.out _ _ trivial (fun hHeld2 => ?_)
            clear hK K hHeld
            have hHeld := hHeld2
            clear hHeld2
            try simp only [Act.put, List.setIfInBounds_toArray, List.set_cons_zero, List.set_cons_succ]
            refine wpAnyH_take (i := 5) (oi := { dst := Option.some 33, op := Go.Op.fieldAddr 28 (Go.Operand.tmp 3) 2, type := 0, pos := "reader.go:42", after := #[{ on := 0, ground := Go.Ground.phase }, { on := 1, ground := Go.Ground.phase }, { on := 2, ground := Go.Ground.phase }, { on := 3, ground := Go.Ground.phase }, { on := 4, ground := Go.Ground.phase }], guard := Option.none }) (v := ?_) rfl (by kernel_rfl) (by kernel_rfl) (by kernel_rfl) (fun _ _ _ h => h) (Or.inl ⟨by rfl, ?_⟩) hHeld ?_
            rotate_left
            · intro w hSw
              clear hSw
              go_simp
              try with_reducible rfl
            try simp only [Act.put, List.setIfInBounds_toArray, List.set_cons_zero, List.set_cons_succ]
            refine wpAnyH_ready (rs := [6]) (by kernel_rfl) (by simp) (AllReadyH.cons (o := { dst := Option.none, op := Go.Op.store 26 (Go.Operand.tmp 33) (Go.Operand.tmp 32), type := 0, pos := "reader.go:42", after := #[{ on := 5, ground := Go.Ground.data }, { on := 4, ground := Go.Ground.data }, { on := 4, ground := Go.Ground.chain }, { on := 0, ground := Go.Ground.phase }, { on := 1, ground := Go.Ground.phase }, { on := 2, ground := Go.Ground.phase }, { on := 3, ground := Go.Ground.phase }, { on := 4, ground := Go.Ground.phase }], guard := Option.none }) rfl (fun K hK => ?_) AllReadyH.nil)
            obtain ⟨⟨_, _, hf7⟩, _, _, hc7⟩ := facts3 HS7.out.1
            have hl7 := (Array.getElem?_eq_some_iff.1 HS7.out.1).1
            go_simp
            clear hf7 hc7 hl7
            refine hK.out _ _ trivial (fun hHeld2 => ?_)
            clear hK K hHeld hHeld2
            try simp only [Act.put, List.setIfInBounds_toArray, List.set_cons_zero, List.set_cons_succ]
            refine wpAnyH_done (by kernel_rfl) ?_ _
            have hbl := HX6.out.lm.own.lt
            have h77 := HVI.out
            have h78 := HWS.out
            have h79 := HXU.out.li
            have HX9 := Lib.hid HS7.out.2
            have HRI9 := Lib.hid (((HRD5.out.on HN6.out).keptr HG7.out (fun j hj => by have := (hbl j hj).1; exact ⟨by omega, by omega⟩)).kept (grown_setc z7 ⟨VB, 2, none⟩ (.slice A7 (kk + 1) c7)) (by have := HLO.out; show lo ≤ VB; omega) (by show I ≠ VB; omega))
            have HRD9 := Lib.hid ((((HRDU.out.kept HG5.out h77.2.2.1 (fun e => h77.2.2.2.1 e.symm)).on HN6.out).keptr HG7.out (fun j hj => by have := (hbl j hj).1; have := HGL.out; have := HLO.out; exact ⟨by omega, by omega⟩)).kept (grown_setc z7 ⟨VB, 2, none⟩ (.slice A7 (kk + 1) c7)) (by have := HLO.out; show lo ≤ VB; omega) (by have := HNEV.out; show g ≠ VB; omega))
            have HG9 := Lib.hid (grown_new ((grown_on (grown_new HGU.out HG5.out (by omega)) HN6.out).andThen HG7.out (fun j hj => .inl (by have := (hbl j hj).1; omega))) (grown_setc z7 ⟨VB, 2, none⟩ (.slice A7 (kk + 1) c7)) (by show w.heap.size ≤ VB; omega))
            have HR9 : RowKit.Hid ((z7.setCell ⟨VB, 2, none⟩ (.slice A7 (kk + 1) c7)).heap[w.heap.size]? = some (.cells #[.int .u8 0, .slice none 0 0, .slice none 0 0] 28 (0, 0))) := Lib.hid (by
              have q5 := row_on (row3_grown HRU.out HG5.out (by omega)) HN6.out
              rw [Below.heap_setCell _ _ _ _ (by show w.heap.size ≠ VB; omega), HG7.out.block w.heap.size (Array.getElem?_eq_some_iff.1 q5).1 (fun e => by have := (hbl _ e.symm).1; omega)]
              exact q5)
            clear hbl h77 h78 h79
            generalize World.setCell _ _ _ = z9 at HX9 HRI9 HRD9 HG9 HR9 ⊢
            obtain ⟨j, rfl⟩ : ∃ i, j = i + 1 := ⟨j - 1, by have h1 := HJ.out.1; rw [List.length_cons] at h1; omega⟩
            have hpl := prd_len _ _ _ _ HP5.out
            have HJ9 : RowKit.Hid (r5.length ≤ j ∧ 2 * (kk + 1) + r5.length ≤ n ∧ prs (prd k) k ct = (prs (prd k) j r5).map ((ts ++ [(o, Value.slice A2 m2 c2, Value.slice B2 n2 d2)]).map (·.1) ++ ·)) := Lib.hid (by
              have h1 := HJ.out.1
              have h2 := HJ.out.2.1
              refine ⟨by omega, by omega, ?_⟩
              rw [HJ.out.2.2, prs, HP5.out]
              show ((prs (prd k) j r5).map (o :: ·)).map _ = _
              cases prs (prd k) j r5 <;> simp)
            have HMS : RowKit.Hid (r5.length < (x :: q).length) := Lib.hid (by omega)
            clear hpl
            go_wp2_with fail
            exact ⟨⟨r5, _, A5, c5, _, _, kk + 1, j, HRI9, HJ9, HX9, HRD9, HG9, HR9⟩, by rw [HLF.out, lft_rdr HRI9.out]; exact HMS.out⟩
          · go_simp
            refine (HCALL.out).mono ?_
            rintro e z5 ⟨g5, ⟨hp5, rfl⟩ | ⟨o, r5, x, y, A5, c5, hp5, rfl, hat2, hrd5⟩⟩
            · show _ ∧ _
              refine ⟨rfl, ?_⟩
              exact ⟨grown_new HGU.out g5 (by have h1 := HVI.out; omega), .inl ⟨by rw [HP3.out, HJ.out.2.2]; obtain ⟨i, rfl⟩ : ∃ i, j = i + 1 := ⟨j - 1, by have h1 := HJ.out.1; rw [List.length_cons] at h1; omega⟩; rw [prs, hp5]; rfl, rfl⟩⟩
            have HP5 := Lib.hid hp5
            have HRD5 := Lib.hid hrd5
            have HG5 := Lib.hid g5
            have HAT := Lib.hid hat2
            have HONE := Lib.hid (oct_one hat2)
            obtain ⟨A2, m2, c2, B2, n2, d2, rfl, rfl⟩ := hat2.slices
            have HX5 := Lib.hid (HXU.out.call g5)
            clear hat2 hp5 hrd5 g5
            go_simp
            refine hK.out _ _ trivial (fun hHeld2 => ?_)
            clear hK K hHeld
            have hHeld := hHeld2
            clear hHeld2
            try simp only [Act.put, List.setIfInBounds_toArray, List.set_cons_zero, List.set_cons_succ]
            refine wpAnyH_ready (rs := [1, 3]) (by kernel_rfl) (by simp) (AllReadyH.cons (o := { dst := Option.some 29, op := Go.Op.load 26 (Go.Operand.tmp 28), type := 26, pos := "reader.go:42", after := #[{ on := 0, ground := Go.Ground.data }], guard := Option.none }) rfl (fun K hK => ?_) (AllReadyH.cons (o := { dst := Option.some 31, op := Go.Op.buildSlice 26 1 #[(0, Go.Operand.tmp 30)], type := 26, pos := "reader.go:42", after := #[{ on := 2, ground := Go.Ground.data }], guard := Option.none }) rfl (fun K hK => ?_) AllReadyH.nil))
            · have hq2 := (facts3 HX5.out.rg).2.2.2
              go_simp
              clear hq2
              refine hK.out _ _ trivial (fun hHeld2 => ?_)
              clear hK K hHeld
              have hHeld := hHeld2
              clear hHeld2
              try simp only [Act.put, List.setIfInBounds_toArray, List.set_cons_zero, List.set_cons_succ]
              refine wpAnyH_ready (rs := [3]) (by kernel_rfl) (by simp) (AllReadyH.cons (o := { dst := Option.some 31, op := Go.Op.buildSlice 26 1 #[(0, Go.Operand.tmp 30)], type := 26, pos := "reader.go:42", after := #[{ on := 2, ground := Go.Ground.data }], guard := Option.none }) rfl (fun K hK => ?_) AllReadyH.nil)
              go_simp
              generalize hq : World.alloc z5 _ = z6
              have r6 : z6 = z5.alloc (.cells #[.int .u8 ((tagO o).toNat : Int), .slice A2 m2 c2, .slice B2 n2 d2] 28) := hq.symm
              have n6 : Below z5.heap.size z5 z6 := by rw [r6]; exact below_new _ _
              have HN6 := Lib.hid n6
              have HX6 := Lib.hid (HX5.out.on n6)
              have q6 : ∀ j u, ([.int .u8 ((tagO o).toNat : Int), .slice A2 m2 c2, .slice B2 n2 d2] : List Value)[j]? = some u → z6.cell? ((⟨z5.heap.size, 0, none⟩ : Addr).add j) = some u := by rw [r6]; exact cell_three_new _ _ _ _ _
              have HQ6 := Lib.hid q6
              clear hq r6 n6 q6
              refine hK.out _ _ trivial (fun hHeld2 => ?_)
              clear hK K hHeld
              have hHeld := hHeld2
              clear hHeld2
              try simp only [Act.put, List.setIfInBounds_toArray, List.set_cons_zero, List.set_cons_succ]
              refine wpAnyH_ready (rs := [4]) (by kernel_rfl) (by simp) (AllReadyH.cons (o := { dst := Option.some 32, op := Go.Op.call { callee := Go.Callee.builtin Go.Builtin.append, args := #[Go.Operand.tmp 29, Go.Operand.tmp 31], argTypes := #[26, 26] }, type := 26, pos := "reader.go:42", after := #[{ on := 1, ground := Go.Ground.data }, { on := 3, ground := Go.Ground.data }, { on := 2, ground := Go.Ground.chain }], guard := Option.none }) rfl (fun K hK => ?_) AllReadyH.nil)
              try rw [if_pos (by rfl)]
              refine wp_append_own_at8 (.tmp 29) (.tmp 31) rfl W1.heap.size _ _ _ rfl HX6.out.lm.own ⟨z5.heap.size, 0, none⟩ 1 1 [.int .u8 ((tagO o).toNat : Int), .slice A2 m2 c2, .slice B2 n2 d2] rfl rfl HQ6.out HONE.out (by have := HKB.out; omega) HX6.out.sz ?_
              intro v7 z7 o7 g7 l7
              have hput := HX6.out.lm.put2 U.heap.size HLOO.out HXU.out.sz (HAT.out.own HN6.out (Nat.le_refl _)) o7 g7 l7
              obtain ⟨A7, c7, rfl⟩ := own_sliceO o7
              have HS7 := Lib.hid (HX6.out.step g7 hput)
              have HG7 := Lib.hid g7
              clear g7 o7 l7 hput
              refine hK.out _ _ trivial (fun hHeld2 => ?_)
              clear hK K hHeld
              have hHeld := hHeld2
              clear hHeld2
              try simp only [Act.put, List.setIfInBounds_toArray, List.set_cons_zero, List.set_cons_succ]
              refine wpAnyH_take (i := 5) (oi := { dst := Option.some 33, op := Go.Op.fieldAddr 28 (Go.Operand.tmp 3) 2, type := 0, pos := "reader.go:42", after := #[{ on := 0, ground := Go.Ground.phase }, { on := 1, ground := Go.Ground.phase }, { on := 2, ground := Go.Ground.phase }, { on := 3, ground := Go.Ground.phase }, { on := 4, ground := Go.Ground.phase }], guard := Option.none }) (v := ?_) rfl (by kernel_rfl) (by kernel_rfl) (by kernel_rfl) (fun _ _ _ h => h) (Or.inl ⟨by rfl, ?_⟩) hHeld ?_
              rotate_left
              · intro w hSw
                clear hSw
                go_simp
                try with_reducible rfl
              try simp only [Act.put, List.setIfInBounds_toArray, List.set_cons_zero, List.set_cons_succ]
              refine wpAnyH_ready (rs := [6]) (by kernel_rfl) (by simp) (AllReadyH.cons (o := { dst := Option.none, op := Go.Op.store 26 (Go.Operand.tmp 33) (Go.Operand.tmp 32), type := 0, pos := "reader.go:42", after := #[{ on := 5, ground := Go.Ground.data }, { on := 4, ground := Go.Ground.data }, { on := 4, ground := Go.Ground.chain }, { on := 0, ground := Go.Ground.phase }, { on := 1, ground := Go.Ground.phase }, { on := 2, ground := Go.Ground.phase }, { on := 3, ground := Go.Ground.phase }, { on := 4, ground := Go.Ground.phase }], guard := Option.none }) rfl (fun K hK => ?_) AllReadyH.nil)
              obtain ⟨⟨_, _, hf7⟩, _, _, hc7⟩ := facts3 HS7.out.1
              have hl7 := (Array.getElem?_eq_some_iff.1 HS7.out.1).1
              go_simp
              clear hf7 hc7 hl7
              refine hK.out _ _ trivial (fun hHeld2 => ?_)
              clear hK K hHeld hHeld2
              try simp only [Act.put, List.setIfInBounds_toArray, List.set_cons_zero, List.set_cons_succ]
              refine wpAnyH_done (by kernel_rfl) ?_ _
              have hbl := HX6.out.lm.own.lt
              have h77 := HVI.out
              have h78 := HWS.out
              have h79 := HXU.out.li
              have HX9 := Lib.hid HS7.out.2
              have HRI9 := Lib.hid (((HRD5.out.on HN6.out).keptr HG7.out (fun j hj => by have := (hbl j hj).1; exact ⟨by omega, by omega⟩)).kept (grown_setc z7 ⟨VB, 2, none⟩ (.slice A7 (kk + 1) c7)) (by have := HLO.out; show lo ≤ VB; omega) (by show I ≠ VB; omega))
              have HRD9 := Lib.hid ((((HRDU.out.kept HG5.out h77.2.2.1 (fun e => h77.2.2.2.1 e.symm)).on HN6.out).keptr HG7.out (fun j hj => by have := (hbl j hj).1; have := HGL.out; have := HLO.out; exact ⟨by omega, by omega⟩)).kept (grown_setc z7 ⟨VB, 2, none⟩ (.slice A7 (kk + 1) c7)) (by have := HLO.out; show lo ≤ VB; omega) (by have := HNEV.out; show g ≠ VB; omega))
              have HG9 := Lib.hid (grown_new ((grown_on (grown_new HGU.out HG5.out (by omega)) HN6.out).andThen HG7.out (fun j hj => .inl (by have := (hbl j hj).1; omega))) (grown_setc z7 ⟨VB, 2, none⟩ (.slice A7 (kk + 1) c7)) (by show w.heap.size ≤ VB; omega))
              have HR9 : RowKit.Hid ((z7.setCell ⟨VB, 2, none⟩ (.slice A7 (kk + 1) c7)).heap[w.heap.size]? = some (.cells #[.int .u8 0, .slice none 0 0, .slice none 0 0] 28 (0, 0))) := Lib.hid (by
                have q5 := row_on (row3_grown HRU.out HG5.out (by omega)) HN6.out
                rw [Below.heap_setCell _ _ _ _ (by show w.heap.size ≠ VB; omega), HG7.out.block w.heap.size (Array.getElem?_eq_some_iff.1 q5).1 (fun e => by have := (hbl _ e.symm).1; omega)]
                exact q5)
              clear hbl h77 h78 h79
              generalize World.setCell _ _ _ = z9 at HX9 HRI9 HRD9 HG9 HR9 ⊢
              obtain ⟨j, rfl⟩ : ∃ i, j = i + 1 := ⟨j - 1, by have h1 := HJ.out.1; rw [List.length_cons] at h1; omega⟩
              have hpl := prd_len _ _ _ _ HP5.out
              have HJ9 : RowKit.Hid (r5.length ≤ j ∧ 2 * (kk + 1) + r5.length ≤ n ∧ prs (prd k) k ct = (prs (prd k) j r5).map ((ts ++ [(o, Value.slice A2 m2 c2, Value.slice B2 n2 d2)]).map (·.1) ++ ·)) := Lib.hid (by
                have h1 := HJ.out.1
                have h2 := HJ.out.2.1
                refine ⟨by omega, by omega, ?_⟩
                rw [HJ.out.2.2, prs, HP5.out]
                show ((prs (prd k) j r5).map (o :: ·)).map _ = _
                cases prs (prd k) j r5 <;> simp)
              have HMS : RowKit.Hid (r5.length < (x :: q).length) := Lib.hid (by omega)
              clear hpl
              go_wp2_with fail
              exact ⟨⟨r5, _, A5, c5, _, _, kk + 1, j, HRI9, HJ9, HX9, HRD9, HG9, HR9⟩, by rw [HLF.out, lft_rdr HRI9.out]; exact HMS.out⟩
            · go_simp
              generalize hq : World.alloc z5 _ = z6
              have r6 : z6 = z5.alloc (.cells #[.int .u8 ((tagO o).toNat : Int), .slice A2 m2 c2, .slice B2 n2 d2] 28) := hq.symm
              have n6 : Below z5.heap.size z5 z6 := by rw [r6]; exact below_new _ _
              have HN6 := Lib.hid n6
              have HX6 := Lib.hid (HX5.out.on n6)
              have q6 : ∀ j u, ([.int .u8 ((tagO o).toNat : Int), .slice A2 m2 c2, .slice B2 n2 d2] : List Value)[j]? = some u → z6.cell? ((⟨z5.heap.size, 0, none⟩ : Addr).add j) = some u := by rw [r6]; exact cell_three_new _ _ _ _ _
              have HQ6 := Lib.hid q6
              clear hq r6 n6 q6
              refine hK.out _ _ trivial (fun hHeld2 => ?_)
              clear hK K hHeld
              have hHeld := hHeld2
              clear hHeld2
              try simp only [Act.put, List.setIfInBounds_toArray, List.set_cons_zero, List.set_cons_succ]
              refine wpAnyH_ready (rs := [1]) (by kernel_rfl) (by simp) (AllReadyH.cons (o := { dst := Option.some 29, op := Go.Op.load 26 (Go.Operand.tmp 28), type := 26, pos := "reader.go:42", after := #[{ on := 0, ground := Go.Ground.data }], guard := Option.none }) rfl (fun K hK => ?_) AllReadyH.nil)
              have hq2 := (facts3 HX6.out.rg).2.2.2
              go_simp
              clear hq2
              refine hK.out _ _ trivial (fun hHeld2 => ?_)
              clear hK K hHeld
              have hHeld := hHeld2
              clear hHeld2
              try simp only [Act.put, List.setIfInBounds_toArray, List.set_cons_zero, List.set_cons_succ]
              refine wpAnyH_ready (rs := [4]) (by kernel_rfl) (by simp) (AllReadyH.cons (o := { dst := Option.some 32, op := Go.Op.call { callee := Go.Callee.builtin Go.Builtin.append, args := #[Go.Operand.tmp 29, Go.Operand.tmp 31], argTypes := #[26, 26] }, type := 26, pos := "reader.go:42", after := #[{ on := 1, ground := Go.Ground.data }, { on := 3, ground := Go.Ground.data }, { on := 2, ground := Go.Ground.chain }], guard := Option.none }) rfl (fun K hK => ?_) AllReadyH.nil)
              try rw [if_pos (by rfl)]
              refine wp_append_own_at8 (.tmp 29) (.tmp 31) rfl W1.heap.size _ _ _ rfl HX6.out.lm.own ⟨z5.heap.size, 0, none⟩ 1 1 [.int .u8 ((tagO o).toNat : Int), .slice A2 m2 c2, .slice B2 n2 d2] rfl rfl HQ6.out HONE.out (by have := HKB.out; omega) HX6.out.sz ?_
              intro v7 z7 o7 g7 l7
              have hput := HX6.out.lm.put2 U.heap.size HLOO.out HXU.out.sz (HAT.out.own HN6.out (Nat.le_refl _)) o7 g7 l7
              obtain ⟨A7, c7, rfl⟩ := own_sliceO o7
              have HS7 := Lib.hid (HX6.out.step g7 hput)
              have HG7 := Lib.hid g7
              clear g7 o7 l7 hput
              refine hK.out _ _ trivial (fun hHeld2 => ?_)
              clear hK K hHeld
              have hHeld := hHeld2
              clear hHeld2
              try simp only [Act.put, List.setIfInBounds_toArray, List.set_cons_zero, List.set_cons_succ]
              refine wpAnyH_take (i := 5) (oi := { dst := Option.some 33, op := Go.Op.fieldAddr 28 (Go.Operand.tmp 3) 2, type := 0, pos := "reader.go:42", after := #[{ on := 0, ground := Go.Ground.phase }, { on := 1, ground := Go.Ground.phase }, { on := 2, ground := Go.Ground.phase }, { on := 3, ground := Go.Ground.phase }, { on := 4, ground := Go.Ground.phase }], guard := Option.none }) (v := ?_) rfl (by kernel_rfl) (by kernel_rfl) (by kernel_rfl) (fun _ _ _ h => h) (Or.inl ⟨by rfl, ?_⟩) hHeld ?_
              rotate_left
              · intro w hSw
                clear hSw
                go_simp
                try with_reducible rfl
              try simp only [Act.put, List.setIfInBounds_toArray, List.set_cons_zero, List.set_cons_succ]
              refine wpAnyH_ready (rs := [6]) (by kernel_rfl) (by simp) (AllReadyH.cons (o := { dst := Option.none, op := Go.Op.store 26 (Go.Operand.tmp 33) (Go.Operand.tmp 32), type := 0, pos := "reader.go:42", after := #[{ on := 5, ground := Go.Ground.data }, { on := 4, ground := Go.Ground.data }, { on := 4, ground := Go.Ground.chain }, { on := 0, ground := Go.Ground.phase }, { on := 1, ground := Go.Ground.phase }, { on := 2, ground := Go.Ground.phase }, { on := 3, ground := Go.Ground.phase }, { on := 4, ground := Go.Ground.phase }], guard := Option.none }) rfl (fun K hK => ?_) AllReadyH.nil)
              obtain ⟨⟨_, _, hf7⟩, _, _, hc7⟩ := facts3 HS7.out.1
              have hl7 := (Array.getElem?_eq_some_iff.1 HS7.out.1).1
              go_simp
              clear hf7 hc7 hl7
              refine hK.out _ _ trivial (fun hHeld2 => ?_)
              clear hK K hHeld hHeld2
              try simp only [Act.put, List.setIfInBounds_toArray, List.set_cons_zero, List.set_cons_succ]
              refine wpAnyH_done (by kernel_rfl) ?_ _
              have hbl := HX6.out.lm.own.lt
              have h77 := HVI.out
              have h78 := HWS.out
              have h79 := HXU.out.li
              have HX9 := Lib.hid HS7.out.2
              have HRI9 := Lib.hid (((HRD5.out.on HN6.out).keptr HG7.out (fun j hj => by have := (hbl j hj).1; exact ⟨by omega, by omega⟩)).kept (grown_setc z7 ⟨VB, 2, none⟩ (.slice A7 (kk + 1) c7)) (by have := HLO.out; show lo ≤ VB; omega) (by show I ≠ VB; omega))
              have HRD9 := Lib.hid ((((HRDU.out.kept HG5.out h77.2.2.1 (fun e => h77.2.2.2.1 e.symm)).on HN6.out).keptr HG7.out (fun j hj => by have := (hbl j hj).1; have := HGL.out; have := HLO.out; exact ⟨by omega, by omega⟩)).kept (grown_setc z7 ⟨VB, 2, none⟩ (.slice A7 (kk + 1) c7)) (by have := HLO.out; show lo ≤ VB; omega) (by have := HNEV.out; show g ≠ VB; omega))
              have HG9 := Lib.hid (grown_new ((grown_on (grown_new HGU.out HG5.out (by omega)) HN6.out).andThen HG7.out (fun j hj => .inl (by have := (hbl j hj).1; omega))) (grown_setc z7 ⟨VB, 2, none⟩ (.slice A7 (kk + 1) c7)) (by show w.heap.size ≤ VB; omega))
              have HR9 : RowKit.Hid ((z7.setCell ⟨VB, 2, none⟩ (.slice A7 (kk + 1) c7)).heap[w.heap.size]? = some (.cells #[.int .u8 0, .slice none 0 0, .slice none 0 0] 28 (0, 0))) := Lib.hid (by
                have q5 := row_on (row3_grown HRU.out HG5.out (by omega)) HN6.out
                rw [Below.heap_setCell _ _ _ _ (by show w.heap.size ≠ VB; omega), HG7.out.block w.heap.size (Array.getElem?_eq_some_iff.1 q5).1 (fun e => by have := (hbl _ e.symm).1; omega)]
                exact q5)
              clear hbl h77 h78 h79
              generalize World.setCell _ _ _ = z9 at HX9 HRI9 HRD9 HG9 HR9 ⊢
              obtain ⟨j, rfl⟩ : ∃ i, j = i + 1 := ⟨j - 1, by have h1 := HJ.out.1; rw [List.length_cons] at h1; omega⟩
              have hpl := prd_len _ _ _ _ HP5.out
              have HJ9 : RowKit.Hid (r5.length ≤ j ∧ 2 * (kk + 1) + r5.length ≤ n ∧ prs (prd k) k ct = (prs (prd k) j r5).map ((ts ++ [(o, Value.slice A2 m2 c2, Value.slice B2 n2 d2)]).map (·.1) ++ ·)) := Lib.hid (by
                have h1 := HJ.out.1
                have h2 := HJ.out.2.1
                refine ⟨by omega, by omega, ?_⟩
                rw [HJ.out.2.2, prs, HP5.out]
                show ((prs (prd k) j r5).map (o :: ·)).map _ = _
                cases prs (prd k) j r5 <;> simp)
              have HMS : RowKit.Hid (r5.length < (x :: q).length) := Lib.hid (by omega)
              clear hpl
              go_wp2_with fail
              exact ⟨⟨r5, _, A5, c5, _, _, kk + 1, j, HRI9, HJ9, HX9, HRD9, HG9, HR9⟩, by rw [HLF.out, lft_rdr HRI9.out]; exact HMS.out⟩
