/-
  THE WALK over the filling of blocks: a function value of the iterator's, which tells each block that is full.
-/
import Derived.Test.YthfgdgcdicacpaaDigE
import Derived.RangeFuncNested
import Derived.RangeFuncBound
import Derived.RangeFuncCalls
import Derived.RangeFuncLeaves
import Derived.Shelf.Abstract
import Derived.OwnWalkIn
import Derived.TacticsInMore
import Derived.LoopNIn
import Derived.LoopIn
import Derived.Laws.CopyOwn
import Derived.OneCell
namespace Go.Proofs.Ythfgdgcdicacpaa
open Go.RowKit Sha
set_option linter.unusedVariables false
set_option linter.unusedSimpArgs false
attribute [local go_sem] Oper.semAt_some
theorem wpListIn_copy_own {F : Fence} {n : Nat} {P : Program} {w : World} {ops : Array Oper} {rest : List Oper} {o : Oper} {a : Act} {Q : Exit → Act → World → Prop} (hgd : o.guard = none) (d s : Operand) (dT sT : TypeId)
    (ho : o.op = .call { callee := .builtin .copy, args := #[d, s], argTypes := #[dT, sT] }) (elem : TypeId) (hu : P.underlying dT = some (.slice elem)) (hsz : (P.info? elem).map (·.size) = some 1)
    (g off dLen dCap : Nat) (ad : Addr) (sLen sCap : Nat) (hd : a.eval d = .slice (some ⟨g, off, none⟩) dLen dCap) (hs : a.eval s = .slice (some ad) sLen sCap)
    (cur : Array Value) (t : TypeId) (hg : w.heap[g]? = some (.cells cur t (0, 0))) (cs : List Value) (hn : cs.length = Nat.min sLen dLen)
    (hsrc : ∀ j v, cs[j]? = some v → w.cell? (ad.add j) = some v) (hfit : off + cs.length ≤ cur.size) (h1 : ∀ v ∈ cs, v.oneCell' = true)
    (h : wpListIn F n P ops Q rest (a.put o.dst (goInt cs.length)) (w.setRow g (cur.toList.take off ++ cs ++ cur.toList.drop (off + cs.length)).toArray)) : wpListIn F n P ops Q (o :: rest) a w := by
  refine wpListIn_plain hgd fun K hK => ?_
  have hrun := run_copy_row (P := P) w dT sT o.type elem g off dLen dCap ad sLen sCap cur t cs hu hsz hg hn hsrc hfit h1
  unfold Oper.wpIn
  refine ⟨?_, ?_⟩
  · simp [Oper.about, ho, resolve, Target.leads, Sem.run_pure]
  · rw [Oper.semAt_plain F _ _ (by rw [ho]; intro c hc'; cases hc')]
    simp only [execOp, ho, resolve, invoke, builtin, Sem.run_bind, Sem.run_pure, Result.andThen_ok, List.map_toArray, List.map_cons, List.map_nil, hd, hs, hrun]
    exact hK _ _ h
theorem wpListIn_load_row {F : Fence} {n : Nat} {P : Program} {w : World} {ops : Array Oper} {rest : List Oper} {o : Oper} {a : Act} {Q : Exit → Act → World → Prop} (hgd : Region.wanted o (yielded ops a.tmps) = true) (ty : TypeId) (x : Operand) (ho : o.op = .load ty x)
    (g : Nat) (hx : a.eval x = .pointer (some ⟨g, 0, none⟩)) (t : TypeId) (cs : Array Value) (fr : Nat × Nat) (d : TypeDesc) (hg : w.heap[g]? = some (.cells cs t fr))
    (hu : P.underlying ty = some d) (hd : (match d with | .struct _ | .array _ _ => true | _ => false) = true) (hi : (P.info? ty).map (·.size) = some cs.size)
    (h : wpListIn F n P ops Q rest (a.put o.dst (.agg cs)) w) : wpListIn F n P ops Q (o :: rest) a w := by
  refine wpListIn_step fun K hK => ?_
  rw [if_pos hgd]
  unfold Oper.wpIn
  refine ⟨?_, ?_⟩
  · simp [Oper.about, ho]
  · rw [Oper.semAt_plain F _ _ (by rw [ho]; intro c hc'; cases hc')]
    simp only [execOp, ho, hx, Instr.loadAt, Instr.sureAddr, Sem.run_bind, Sem.run_pure, Result.andThen_ok, run_loadVar_row w g t ty cs fr d hg hu hd hi]
    exact hK _ _ h
/-- what a filling keeps -/
structure Keep (N : Nat) (V V' : World) : Prop where
  size : V.heap.size ≤ V'.heap.size
  same : ∀ b, N ≤ b → b < V.heap.size → V'.heap[b]? = V.heap[b]?
theorem Keep.refl (N : Nat) (V : World) : Keep N V V := ⟨Nat.le_refl _, fun _ _ _ => rfl⟩
theorem Keep.trans {N : Nat} {A B C : World} (h : Keep N A B) (k : Keep N B C) : Keep N A C :=
  ⟨Nat.le_trans h.size k.size, fun b h1 h2 => (k.same b h1 (Nat.lt_of_lt_of_le h2 h.size)).trans (h.same b h1 h2)⟩
/-- where a filling's bytes lie -/
def SrcAt (A : Option Addr) (lst : List UInt8) (V : World) : Prop := lst ≠ [] → ∃ g o, A = some ⟨g, o, none⟩ ∧ ∀ j x, lst[j]? = some x → V.cell? ⟨g, o + j, none⟩ = some (.int .u8 (x.toNat : Int))
/-- the bytes of one step, math -/
theorem part_full (T buf l : List UInt8) (p n : Nat) (hl : l = (T.drop p).take l.length) (hn : n ≤ l.length) (hu : p % 64 + n = 64) (hb : buf.length = 64) (hk : buf.take (p % 64) = (T.drop (64 * (p / 64))).take (p % 64)) :
    buf.take (p % 64) ++ l.take n ++ buf.drop (p % 64 + n) = (T.drop (64 * (p / 64))).take 64 := by
  rw [hu, List.drop_of_length_le (by omega), List.append_nil, hk, hl, List.take_take, Nat.min_eq_left hn]
  rw [show T.drop p = (T.drop (64 * (p / 64))).drop (p % 64) by rw [List.drop_drop]; congr 1; omega, ← List.take_add, hu]
theorem part_some (T buf l : List UInt8) (p n : Nat) (hl : l = (T.drop p).take l.length) (hn : n ≤ l.length) (hu : p % 64 + n ≤ 64) (hb : buf.length = 64) (hk : buf.take (p % 64) = (T.drop (64 * (p / 64))).take (p % 64)) :
    (buf.take (p % 64) ++ l.take n ++ buf.drop (p % 64 + n)).take (p % 64 + n) = (T.drop (64 * (p / 64))).take (p % 64 + n) := by
  have h1 : (buf.take (p % 64) ++ l.take n).length = p % 64 + n := by simp; omega
  rw [List.take_append_of_le_length (by omega), List.take_of_length_le (by omega), hk, hl, List.take_take, Nat.min_eq_left hn]
  rw [show T.drop p = (T.drop (64 * (p / 64))).drop (p % 64) by rw [List.drop_drop]; congr 1; omega, ← List.take_add]
theorem add_eq (g o j : Nat) : (⟨g, o, none⟩ : Addr).add j = ⟨g, o + j, none⟩ := by unfold Addr.add; split <;> simp_all
theorem slice_bytes (g o L C n : Nat) (hn : n ≤ L) (hC : L ≤ C) (h0 : 0 < n) : ∃ A2, (∀ w, (Instr.sliceAt 26 (.slice (some ⟨g, o, none⟩) L C) (some (.int .i64 (n : Int))) none none).run Try.prog w = .ok (.slice A2 (L - n) (C - n)) w) ∧ (n < L → A2 = some ⟨g, o + n, none⟩) := by
  refine ⟨if C = n then some ⟨g, o, none⟩ else some ⟨g, o + n, none⟩, fun w => ?_, fun h => by rw [if_neg (by omega)]⟩
  have hs : ∀ w, (sizeOf (Try.prog.elem 26)).run Try.prog w = .ok 1 w := fun _ => by kernel_rfl
  rw [run_sliceAt_slice _ _ _ _ _ _ (by kernel_rfl), run_slice_l _ _ _ _ _ (by kernel_rfl) .i64 (n : Int) (by omega) (by omega), hs]
  show Result.ok (sliced (some ⟨g, o, none⟩) (n : Int).toNat L C 1) w = _
  unfold sliced
  rw [Int.toNat_natCast, Nat.mul_one, Option.map_some]
  by_cases h : C = n
  · rw [if_pos h, if_pos h]
  · rw [if_neg h, if_neg h, add_eq]
theorem bcells_splice (buf m : List UInt8) (u n : Nat) : ((bcells buf).toList.take u ++ bvals m ++ (bcells buf).toList.drop (u + n)).toArray = bcells (buf.take u ++ m ++ buf.drop (u + n)) := by
  unfold bcells bvals
  simp
theorem func_one {w : World} {b : Nat} {v : Value} {t : TypeId} (h : w.heap[b]? = some (.cells #[v] t (0, 0))) : w.cell? ⟨b, 0, none⟩ = some v := cell_of_one h
end Go.Proofs.Ythfgdgcdicacpaa
