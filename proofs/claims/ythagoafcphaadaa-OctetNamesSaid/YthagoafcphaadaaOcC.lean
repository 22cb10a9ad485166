/-
  THE WALK over layer 8's reference: Twin, at any value that is not too great. Written by wip/gen-oc2.py.
-/
import Derived.Test.YthagoafcphaadaaOcB
namespace Go.Proofs.Ythagoafcphaadaa
open Go.RowKit Sha Oc
set_option linter.unusedVariables false
set_option linter.unusedSimpArgs false
theorem srcAt_set {w : World} {A : Option Addr} {b : List UInt8} {X : Nat} (h : SrcAt A b w) (hne : ∀ ga oa, A = some ⟨ga, oa, none⟩ → ga ≠ X) (k : Nat) (vs : List Value) : SrcAt A b (w.setCells X k vs) := fun hb => by
  obtain ⟨g, o, e, hc⟩ := h hb
  refine ⟨g, o, e, fun j x hj => ?_⟩
  have hk := heap_setCells_other8 vs k w (hne g o e)
  have h1 := hc j x hj
  simp only [World.cell?, hk] at h1 ⊢
  exact h1
theorem rw_set {w : World} {b g X : Nat} (h : Rw b w g) (hne : g ≠ X) (k : Nat) (vs : List Value) : Rw b (w.setCells X k vs) g := by
  obtain ⟨h1, cs, t, h2⟩ := h
  exact ⟨h1, cs, t, (heap_setCells_other8 vs k w hne).trans h2⟩
theorem own_sliceO {w : World} {b n : Nat} {v : Value} {xs : List Value} (h : w.ownsRow b 28 3 v n xs) : ∃ A cap, v = .slice A n cap := by
  obtain ⟨h1, ⟨rfl, rfl⟩ | ⟨g, cap, cur, rfl, h3, h4, _⟩⟩ := h
  · exact ⟨none, 0, rfl⟩
  · exact ⟨_, cap, rfl⟩
theorem wp_append_own_at8 {w : World} {o : Oper} {a : Act} {K : Act → World → Prop} {Q : Exit → Act → World → Prop} (s x : Operand)
    (ho : o.op = .call { callee := .builtin .append, args := #[s, x], argTypes := #[26, 26] }) (base : Nat) (v : Value) (n : Nat) (xs : List Value) (hs : a.eval s = v) (hown : w.ownsRow base 28 3 v n xs)
    (ad : Addr) (m c : Nat) (news : List Value) (hx : a.eval x = .slice (some ad) m c) (hl : news.length = m * 3) (hnews : ∀ j u, news[j]? = some u → w.cell? (ad.add j) = some u) (h1 : ∀ u ∈ news, u.oneCell' = true) (h63 : n + m ≤ 1000000) (hbase : base ≤ w.heap.size)
    (h : ∀ v' w', w'.ownsRow base 28 3 v' (n + m) (xs ++ news) → w.grownBy w' v.ownBlock → (v'.ownBlock = v.ownBlock ∨ v'.ownBlock = some w.heap.size) → K (a.put o.dst v') w') : o.wp Try.prog a w K Q := by
  obtain ⟨i0, hi, hz0, hz1, hz2⟩ := info_parts Try.info_oct
  obtain ⟨v', w', hr, h2, h3, _, h4⟩ := run_append_own_at (P := Try.prog) w base 26 o.type 28 i0 (.agg #[.int .u8 0, .slice none 0 0, .slice none 0 0]) 3 56 Try.underlying26 hi hz0 hz1 hz2 rfl (by decide) v n xs hown ad m c news hl hnews h1 (by unfold maxLen; omega) (by omega) hbase
  unfold Oper.wp execOp
  simp only [ho, resolve, invoke, builtin, Sem.run_bind, Sem.run_pure, Result.andThen_ok, List.map_toArray, List.map_cons, List.map_nil, hs, hx, hr]
  exact h v' w' h2 h3 h4
/-- a copy in the making: its block SB, its list so far -/
structure TX (W1 : World) (SB : Nat) (t0 y0 : Value) (ts : List (Oct × Value × Value)) (B : Option Addr) (d k : Nat) (V : World) : Prop where
  os : V.os = W1.os
  tape : V.tape = W1.tape
  output : V.output = W1.output
  sz : W1.heap.size ≤ V.heap.size
  oth : ∀ b, b < W1.heap.size → b ≠ SB → V.heap[b]? = W1.heap[b]?
  lt : SB < W1.heap.size
  rg : V.heap[SB]? = some (.cells #[t0, y0, .slice B k d] 28 (0, 0))
  lm : Mk W1.heap.size ts (.slice B k d) k V
theorem TX.on {W1 V U : World} {SB d k : Nat} {t0 y0 : Value} {ts : List (Oct × Value × Value)} {B : Option Addr} (h : TX W1 SB t0 y0 ts B d k V) (hb : Below V.heap.size V U) : TX W1 SB t0 y0 ts B d k U :=
  ⟨hb.os.trans h.os, hb.tape.trans h.tape, hb.output.trans h.output, Nat.le_trans h.sz hb.size, fun b h1 h2 => (hb.block b (by have := h.sz; omega)).trans (h.oth b h1 h2), h.lt, row_on h.rg hb, h.lm.on hb⟩
theorem TX.below {W0 W1 V : World} {SB d k n : Nat} {t0 y0 : Value} {ts : List (Oct × Value × Value)} {B : Option Addr} (h : TX W1 SB t0 y0 ts B d k V) (hb : Below n W0 W1) (h1 : n ≤ W1.heap.size) (hn : n ≤ SB) : Below n W0 V :=
  ⟨h.os.trans hb.os, h.tape.trans hb.tape, h.output.trans hb.output, Nat.le_trans hb.size h.sz, fun b hlt => (h.oth b (by omega) (by omega)).trans (hb.block b hlt)⟩
/-- an element appended; the list put back into its block -/
theorem TX.step {W1 U V6 V7 : World} {SB d k d' : Nat} {t0 y0 : Value} {ts ts' : List (Oct × Value × Value)} {B B' : Option Addr} (h : TX W1 SB t0 y0 ts B d k U) (hb : Below U.heap.size U V6) (hg : V6.grownBy V7 (Value.ownBlock (.slice B k d))) (hlo : ∀ j, Value.ownBlock (.slice B k d) = some j → W1.heap.size ≤ j) (hm : Mk W1.heap.size ts' (.slice B' (k + 1) d') (k + 1) V7) :
    V7.heap[SB]? = some (.cells #[t0, y0, .slice B k d] 28 (0, 0)) ∧ TX W1 SB t0 y0 ts' B' d' (k + 1) (V7.setCell ⟨SB, 2, none⟩ (.slice B' (k + 1) d')) := by
  have h6 := h.on hb
  have hlt := h.lt
  have hb7 : ∀ b, b < W1.heap.size → V7.heap[b]? = V6.heap[b]? := fun b hbl => hg.block b (by have := h6.sz; omega) (fun e => by have := hlo b e.symm; omega)
  have hr7 : V7.heap[SB]? = some (.cells #[t0, y0, .slice B k d] 28 (0, 0)) := (hb7 SB hlt).trans h6.rg
  refine ⟨hr7, hg.os.trans h6.os, hg.tape.trans h6.tape, hg.output.trans h6.output, ?_, fun b h1 h2 => ?_, hlt, heap_setCell_same _ _ _ _ _ _ hr7, ?_⟩
  · have h3 := hg.size
    have h4 := h6.sz
    have h5 : (V7.setCell ⟨SB, 2, none⟩ (.slice B' (k + 1) d')).heap.size = V7.heap.size := by simp [World.setCell]
    omega
  · exact ((Below.heap_setCell _ _ _ _ h2).trans (hb7 b h1)).trans (h6.oth b h1 h2)
  · have hne : ∀ g, W1.heap.size ≤ g → (V7.setCell ⟨SB, 2, none⟩ (.slice B' (k + 1) d')).heap[g]? = V7.heap[g]? := fun g hgl => Below.heap_setCell _ _ _ _ (show g ≠ SB by omega)
    refine ⟨ownsRow_setCell_other (a := ⟨SB, 2, none⟩) hm.own (fun e => by have h1 : W1.heap.size ≤ SB := (hm.own.lt _ e).1; omega) _, hm.len, fun u hu => (hm.els u hu).to fun g p x hx hR => ?_⟩
    have hk := hne g hR.1.1
    obtain ⟨⟨h1, cs, t, h2⟩, h3⟩ := hR
    exact ⟨by simp only [World.cell?, hk] at hx ⊢; exact hx, ⟨h1, cs, t, hk.trans h2⟩, h3⟩
end Go.Proofs.Ythagoafcphaadaa
