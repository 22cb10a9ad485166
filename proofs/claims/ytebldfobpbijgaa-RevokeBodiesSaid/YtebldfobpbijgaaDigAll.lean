import Derived.Test.YtebldfobpbijgaaDigKit
import Derived.RangeFuncNested
import Derived.RangeFuncBound
import Derived.RangeFuncCalls
import Derived.RangeFuncLeaves
import Derived.Shelf.Abstract
import Derived.OwnWalkIn
import Derived.TacticsInMore
import Derived.LoopNIn
import Derived.LoopIn
import Derived.Laws.CopyOwn
import Derived.OneCell
import Derived.RangeFuncBox
import Derived.Maps.AppendAt
import Derived.Lib.LaidU8
import Derived.Stop.LaidErr
import Derived.Deep.DeepLaidRun
import Derived.HandedShaped
import Derived.Shelf.Vars
import Derived.ChangeSlices
import Derived.ReadAgain
import Derived.Lib.SlBytesConst
namespace Go.Proofs.Ytebldfobpbijgaa
open Go.RowKit Sha
set_option linter.unusedVariables false
set_option linter.unusedSimpArgs false
theorem and31 : ∀ n : Fin 32, 1 ≤ n.val → bits .and .u64 (IntKind.u64.wrap (-(n.val : Int))) 31 = ((32 - n.val : Nat) : Int) := by decide +kernel
/-- in a region that only reads -/
theorem quiet_same {P : Program} {f : FuncId} {args : Array Value} {w : World} {n : Nat} {v : Value} (h : ∀ w, Calls P f args w fun e w' => e = .returned v ∧ w = w') :
    Calls P f args (w.drewN n) fun e w'' => e = .returned v ∧ ∃ m, w'' = w.drewN m := (h (w.drewN n)).mono fun _ _ ⟨he, hm⟩ => ⟨he, n, hm.symm⟩
end Go.Proofs.Ytebldfobpbijgaa
namespace Go.Proofs.Ytebldfobpbijgaa
open Go.RowKit Sha
set_option linter.unusedVariables false
set_option linter.unusedSimpArgs false
end Go.Proofs.Ytebldfobpbijgaa
namespace Go.Proofs.Ytebldfobpbijgaa
open Go.RowKit Sha
set_option linter.unusedVariables false
set_option linter.unusedSimpArgs false
end Go.Proofs.Ytebldfobpbijgaa
namespace Go.Proofs.Ytebldfobpbijgaa
open Go.RowKit Sha
set_option linter.unusedVariables false
set_option linter.unusedSimpArgs false
end Go.Proofs.Ytebldfobpbijgaa
namespace Go.Proofs.Ytebldfobpbijgaa
open Go.RowKit Sha
set_option linter.unusedVariables false
set_option linter.unusedSimpArgs false
theorem be8_at (n j : Nat) (hj : j < 8) : ((8 * (n : Int)) / 2 ^ (56 - 8 * j)) % 256 = (((be8 (8 * n)).getD j 0).toNat : Int) := by
  have h : ((be8 (8 * n)).getD j 0).toNat = 8 * n / 2 ^ (56 - 8 * j) % 256 := by
    obtain rfl | rfl | rfl | rfl | rfl | rfl | rfl | rfl : j = 0 ∨ j = 1 ∨ j = 2 ∨ j = 3 ∨ j = 4 ∨ j = 5 ∨ j = 6 ∨ j = 7 := by omega
    all_goals (unfold be8; simp [UInt8.toNat_ofNat'])
  rw [h, Int.natCast_emod, Int.natCast_ediv, Int.natCast_pow, Int.natCast_mul]
  rfl
theorem be8_len (n : Nat) : (be8 n).length = 8 := rfl
/-- a list of bytes as values -/
def bvals (l : List UInt8) : List Value := l.map fun x => .int .u8 (x.toNat : Int)
theorem bvals_len (l : List UInt8) : (bvals l).length = l.length := by simp [bvals]
theorem bvals_app (a b : List UInt8) : bvals (a ++ b) = bvals a ++ bvals b := by simp [bvals]
/-- the first bytes of an ending -/
def endK (n j : Nat) : List UInt8 := 128 :: (List.replicate ((119 - n % 64) % 64) 0 ++ (be8 (8 * n)).take j)
theorem endK_len (n j : Nat) (hj : j ≤ 8) : (endK n j).length = 1 + (119 - n % 64) % 64 + j := by
  unfold endK
  simp [be8_len]
  omega
theorem endK_step (n j : Nat) (hj : j < 8) : endK n (j + 1) = endK n j ++ [(be8 (8 * n)).getD j 0] := by
  unfold endK
  rw [List.take_succ_eq_append_getElem (by rw [be8_len]; exact hj)]
  have h : (be8 (8 * n))[j]?.getD 0 = (be8 (8 * n))[j]'(by rw [be8_len]; exact hj) := by rw [List.getElem?_eq_getElem]; rfl
  rw [List.getD_eq_getElem?_getD, h]
  simp
theorem endK_all (n : Nat) : endK n 8 = ending n := by
  unfold endK ending
  rw [List.take_of_length_le (by rw [be8_len]; omega)]
theorem own_step' {B : Nat} {w wr w1 : World} {o : Obj} {e size n : Nat} {v : Value} {xs : List Value} (hown : wr.ownsRow B e size v n xs) (hg : (wr.alloc o).grownBy w1 v.ownBlock) (hbel : Below B w wr) (hsz : B ≤ wr.heap.size) :
    Below B w w1 ∧ B ≤ w1.heap.size := by
  have hlt := hown.lt
  have h1 : Below B w (wr.alloc o) := hbel.alloc hsz o
  refine ⟨h1.grown hg (by simp; omega) (fun k hk => (hlt k hk).1), ?_⟩
  have := hg.size
  simp at this
  omega
theorem own_cells1 {w : World} {base : Nat} {e : TypeId} {v : Value} {n : Nat} {xs : List Value} (h : w.ownsRow base e 1 v n xs) (hn : 0 < n) :
    ∃ g cap, v = .slice (some ⟨g, 0, none⟩) n cap ∧ base ≤ g ∧ g < w.heap.size ∧ n ≤ cap ∧ cap ≤ maxLen ∧ ∀ (j : Nat) x, xs[j]? = some x → w.cell? ⟨g, j, none⟩ = some x := by
  obtain ⟨hl, h | ⟨g, cap, cur, rfl, hb, hg, hnc, hcm, hcs, ht⟩⟩ := h
  · omega
  · have hlt : g < w.heap.size := (Array.getElem?_eq_some_iff.1 hg).1
    refine ⟨g, cap, rfl, hb, hlt, hnc, hcm, fun j x hj => ?_⟩
    have hjn : j < n * 1 := by have := (List.getElem?_eq_some_iff.1 hj).1; omega
    have h1 : cur.toList[j]? = some x := by
      have h2 : (cur.toList.take (n * 1))[j]? = cur.toList[j]? := by rw [List.getElem?_take]; rw [if_pos hjn]
      rw [← h2, ht]
      exact hj
    simp only [World.cell?, hg]
    simpa using h1
theorem cells_one (W : World) (x : Value) (t : TypeId) : ∀ (j : Nat) u, [x][j]? = some u → (W.alloc (.cells #[x] t)).cell? ((⟨W.heap.size, 0, none⟩ : Addr).add j) = some u
  | 0, u, h => by
    simp at h
    subst h
    simp [Addr.add]
  | j + 1, u, h => by simp at h
theorem made73 : madeCells (Value.int .u8 0).cells (Int.toNat 73 * 1) = bcells (List.replicate 73 0) := by
  apply Array.ext'
  exact (toList_madeCells_one (.int .u8 0) 73).trans rfl
end Go.Proofs.Ytebldfobpbijgaa
namespace Go.Proofs.Ytebldfobpbijgaa
open Go.RowKit Sha
set_option linter.unusedVariables false
set_option linter.unusedSimpArgs false
attribute [local go_sem] Oper.semAt_some
theorem wpListIn_copy_own {F : Fence} {n : Nat} {P : Program} {w : World} {ops : Array Oper} {rest : List Oper} {o : Oper} {a : Act} {Q : Exit → Act → World → Prop} (hgd : o.guard = none) (d s : Operand) (dT sT : TypeId)
    (ho : o.op = .call { callee := .builtin .copy, args := #[d, s], argTypes := #[dT, sT] }) (elem : TypeId) (hu : P.underlying dT = some (.slice elem)) (hsz : (P.info? elem).map (·.size) = some 1)
    (g off dLen dCap : Nat) (ad : Addr) (sLen sCap : Nat) (hd : a.eval d = .slice (some ⟨g, off, none⟩) dLen dCap) (hs : a.eval s = .slice (some ad) sLen sCap)
    (cur : Array Value) (t : TypeId) (hg : w.heap[g]? = some (.cells cur t (0, 0))) (cs : List Value) (hn : cs.length = Nat.min sLen dLen)
    (hsrc : ∀ j v, cs[j]? = some v → w.cell? (ad.add j) = some v) (hfit : off + cs.length ≤ cur.size) (h1 : ∀ v ∈ cs, v.oneCell' = true)
    (h : wpListIn F n P ops Q rest (a.put o.dst (goInt cs.length)) (w.setRow g (cur.toList.take off ++ cs ++ cur.toList.drop (off + cs.length)).toArray)) : wpListIn F n P ops Q (o :: rest) a w := by
  refine wpListIn_plain hgd fun K hK => ?_
  have hrun := run_copy_row (P := P) w dT sT o.type elem g off dLen dCap ad sLen sCap cur t cs hu hsz hg hn hsrc hfit h1
  unfold Oper.wpIn
  refine ⟨?_, ?_⟩
  · simp [Oper.about, ho, resolve, Target.leads, Sem.run_pure]
  · rw [Oper.semAt_plain F _ _ (by rw [ho]; intro c hc'; cases hc')]
    simp only [execOp, ho, resolve, invoke, builtin, Sem.run_bind, Sem.run_pure, Result.andThen_ok, List.map_toArray, List.map_cons, List.map_nil, hd, hs, hrun]
    exact hK _ _ h
theorem wpListIn_load_row {F : Fence} {n : Nat} {P : Program} {w : World} {ops : Array Oper} {rest : List Oper} {o : Oper} {a : Act} {Q : Exit → Act → World → Prop} (hgd : Region.wanted o (yielded ops a.tmps) = true) (ty : TypeId) (x : Operand) (ho : o.op = .load ty x)
    (g : Nat) (hx : a.eval x = .pointer (some ⟨g, 0, none⟩)) (t : TypeId) (cs : Array Value) (fr : Nat × Nat) (d : TypeDesc) (hg : w.heap[g]? = some (.cells cs t fr))
    (hu : P.underlying ty = some d) (hd : (match d with | .struct _ | .array _ _ => true | _ => false) = true) (hi : (P.info? ty).map (·.size) = some cs.size)
    (h : wpListIn F n P ops Q rest (a.put o.dst (.agg cs)) w) : wpListIn F n P ops Q (o :: rest) a w := by
  refine wpListIn_step fun K hK => ?_
  rw [if_pos hgd]
  unfold Oper.wpIn
  refine ⟨?_, ?_⟩
  · simp [Oper.about, ho]
  · rw [Oper.semAt_plain F _ _ (by rw [ho]; intro c hc'; cases hc')]
    simp only [execOp, ho, hx, Instr.loadAt, Instr.sureAddr, Sem.run_bind, Sem.run_pure, Result.andThen_ok, run_loadVar_row w g t ty cs fr d hg hu hd hi]
    exact hK _ _ h
/-- what a filling keeps -/
structure Keep (N : Nat) (V V' : World) : Prop where
  size : V.heap.size ≤ V'.heap.size
  same : ∀ b, N ≤ b → b < V.heap.size → V'.heap[b]? = V.heap[b]?
theorem Keep.refl (N : Nat) (V : World) : Keep N V V := ⟨Nat.le_refl _, fun _ _ _ => rfl⟩
theorem Keep.trans {N : Nat} {A B C : World} (h : Keep N A B) (k : Keep N B C) : Keep N A C :=
  ⟨Nat.le_trans h.size k.size, fun b h1 h2 => (k.same b h1 (Nat.lt_of_lt_of_le h2 h.size)).trans (h.same b h1 h2)⟩
/-- where a filling's bytes lie -/
def SrcAt (A : Option Addr) (lst : List UInt8) (V : World) : Prop := lst ≠ [] → ∃ g o, A = some ⟨g, o, none⟩ ∧ ∀ j x, lst[j]? = some x → V.cell? ⟨g, o + j, none⟩ = some (.int .u8 (x.toNat : Int))
/-- the bytes of one step, math -/
theorem part_full (T buf l : List UInt8) (p n : Nat) (hl : l = (T.drop p).take l.length) (hn : n ≤ l.length) (hu : p % 64 + n = 64) (hb : buf.length = 64) (hk : buf.take (p % 64) = (T.drop (64 * (p / 64))).take (p % 64)) :
    buf.take (p % 64) ++ l.take n ++ buf.drop (p % 64 + n) = (T.drop (64 * (p / 64))).take 64 := by
  rw [hu, List.drop_of_length_le (by omega), List.append_nil, hk, hl, List.take_take, Nat.min_eq_left hn]
  rw [show T.drop p = (T.drop (64 * (p / 64))).drop (p % 64) by rw [List.drop_drop]; congr 1; omega, ← List.take_add, hu]
theorem part_some (T buf l : List UInt8) (p n : Nat) (hl : l = (T.drop p).take l.length) (hn : n ≤ l.length) (hu : p % 64 + n ≤ 64) (hb : buf.length = 64) (hk : buf.take (p % 64) = (T.drop (64 * (p / 64))).take (p % 64)) :
    (buf.take (p % 64) ++ l.take n ++ buf.drop (p % 64 + n)).take (p % 64 + n) = (T.drop (64 * (p / 64))).take (p % 64 + n) := by
  have h1 : (buf.take (p % 64) ++ l.take n).length = p % 64 + n := by simp; omega
  rw [List.take_append_of_le_length (by omega), List.take_of_length_le (by omega), hk, hl, List.take_take, Nat.min_eq_left hn]
  rw [show T.drop p = (T.drop (64 * (p / 64))).drop (p % 64) by rw [List.drop_drop]; congr 1; omega, ← List.take_add]
theorem add_eq (g o j : Nat) : (⟨g, o, none⟩ : Addr).add j = ⟨g, o + j, none⟩ := by unfold Addr.add; split <;> simp_all
theorem slice_bytes (g o L C n : Nat) (hn : n ≤ L) (hC : L ≤ C) (h0 : 0 < n) : ∃ A2, (∀ w, (Instr.sliceAt 31 (.slice (some ⟨g, o, none⟩) L C) (some (.int .i64 (n : Int))) none none).run Try.prog w = .ok (.slice A2 (L - n) (C - n)) w) ∧ (n < L → A2 = some ⟨g, o + n, none⟩) := by
  refine ⟨if C = n then some ⟨g, o, none⟩ else some ⟨g, o + n, none⟩, fun w => ?_, fun h => by rw [if_neg (by omega)]⟩
  have hs : ∀ w, (sizeOf (Try.prog.elem 31)).run Try.prog w = .ok 1 w := fun _ => by kernel_rfl
  rw [run_sliceAt_slice _ _ _ _ _ _ (by kernel_rfl), run_slice_l _ _ _ _ _ (by kernel_rfl) .i64 (n : Int) (by omega) (by omega), hs]
  show Result.ok (sliced (some ⟨g, o, none⟩) (n : Int).toNat L C 1) w = _
  unfold sliced
  rw [Int.toNat_natCast, Nat.mul_one, Option.map_some]
  by_cases h : C = n
  · rw [if_pos h, if_pos h]
  · rw [if_neg h, if_neg h, add_eq]
theorem bcells_splice (buf m : List UInt8) (u n : Nat) : ((bcells buf).toList.take u ++ bvals m ++ (bcells buf).toList.drop (u + n)).toArray = bcells (buf.take u ++ m ++ buf.drop (u + n)) := by
  unfold bcells bvals
  simp
theorem func_one {w : World} {b : Nat} {v : Value} {t : TypeId} (h : w.heap[b]? = some (.cells #[v] t (0, 0))) : w.cell? ⟨b, 0, none⟩ = some v := cell_of_one h
end Go.Proofs.Ytebldfobpbijgaa
namespace Go.Proofs.Ytebldfobpbijgaa
open Go.RowKit Sha
set_option linter.unusedVariables false
set_option linter.unusedSimpArgs false
/-- a list of slices of bytes behind a box -/
structure PIn (Pb : Nat) (PA : Option Addr) (pc : Nat) (S : Nat → Option Addr × Nat) (ps : List (List UInt8)) (V : World) : Prop where
  box : V.cell? ⟨Pb, 0, none⟩ = some (.slice PA ps.length pc)
  row : ∀ j l, ps[j]? = some l → ∃ pg po, PA = some ⟨pg, po, none⟩ ∧ V.cell? ⟨pg, po + j, none⟩ = some (.slice (S j).1 l.length (S j).2) ∧ SrcAt (S j).1 l V
theorem flat_take (ps : List (List UInt8)) (k : Nat) (l : List UInt8) (h : ps[k]? = some l) : (ps.take (k + 1)).flatten = (ps.take k).flatten ++ l := by
  rw [List.take_add_one, h]
  simp
theorem flat_part (ps : List (List UInt8)) (e : List UInt8) (k : Nat) (l : List UInt8) (h : ps[k]? = some l) :
    l = ((ps.flatten ++ e).drop (ps.take k).flatten.length).take l.length ∧ (ps.take k).flatten.length + l.length ≤ ps.flatten.length := by
  have h1 : ps = ps.take (k + 1) ++ ps.drop (k + 1) := (List.take_append_drop _ _).symm
  have h2 : ps.flatten = (ps.take k).flatten ++ (l ++ (ps.drop (k + 1)).flatten) := by
    conv => lhs; rw [h1]
    rw [List.flatten_append, flat_take ps k l h, List.append_assoc]
  constructor
  · rw [h2, List.append_assoc, List.drop_left, List.append_assoc, List.take_left]
  · rw [h2]; simp
theorem own_slice {w : World} {base : Nat} {v : Value} {F : List UInt8} (h : w.ownsRow base 5 1 v F.length (bvals F)) (hn : 0 < F.length) :
    ∃ g cap, v = .slice (some ⟨g, 0, none⟩) F.length cap ∧ base ≤ g ∧ g < w.heap.size ∧ F.length ≤ cap ∧ cap ≤ maxLen ∧ ∀ (j : Nat) x, F[j]? = some x → w.cell? ⟨g, j, none⟩ = some (.int .u8 (x.toNat : Int)) := by
  obtain ⟨g, cap, h1, h2, h3, h4, h5, h6⟩ := own_cells1 h hn
  refine ⟨g, cap, h1, h2, h3, h4, h5, fun j x hj => h6 j _ ?_⟩
  unfold bvals
  rw [List.getElem?_map, hj]
  rfl
theorem cell_of_heap2 {V V' : World} {b o : Nat} (h : V'.heap[b]? = V.heap[b]?) : V'.cell? ⟨b, o, none⟩ = V.cell? ⟨b, o, none⟩ := by
  simp only [World.cell?, h]
theorem ending_len (n : Nat) : 0 < (ending n).length ∧ (ending n).length ≤ 72 ∧ (n + (ending n).length) % 64 = 0 := by
  rw [← endK_all, endK_len n 8 (by omega)]
  omega
end Go.Proofs.Ytebldfobpbijgaa
namespace Go.Proofs.Ytebldfobpbijgaa
open Go.RowKit Sha
set_option linter.unusedVariables false
set_option linter.unusedSimpArgs false
attribute [local go_sem] Oper.semAt_some
/-- a range over a function whose rounds all go on, under the wide fence -/
theorem range_wide {P : Program} {n : Nat} {g : Operand} {ps : Array Tmp} {assign body : Code} {Q : Exit → Act → World → Prop} {a : Act} {w : World} {gf : Nat} {lb : Array Value}
    (hg : a.eval g = .func (.func gf) #[] lb) (eg : ∀ args w, (callFunc gf args).run P w = .ok (.enter gf args) w) (Z : World → Prop)
    (hcall : ∀ fn : FuncId, CallsIn Fence.wide (n - 1) P gf (#[.func (.yield (w.heap.size + 1)) #[] #[]] ++ lb)
      ((w.alloc (.deferred (some []))).alloc (.loop { state := .ready, pending := none, fn, tmps := a.tmps, params := ps, assign, body, defers := w.heap.size })) fun e V =>
        (∃ v, e = .returned v) ∧ V.heap[w.heap.size + 1]? = some (.loop { state := .ready, pending := none, fn, tmps := a.tmps, params := ps, assign, body, defers := w.heap.size }) ∧ Z V)
    (hdone : ∀ V o, Z V → Q .normal { a with defers := { target := .collected w.heap.size, args := #[] } :: a.defers } (V.putObj (w.heap.size + 1) o)) :
    (Code.rangeFunc g ps assign body).wpIn Fence.wide n P Q a w := by
  refine wpIn_rangeFunc ?_
  intro fn _
  have hro : Fence.wide.round = none := rfl
  rw [hro]
  have hc := hcall fn
  obtain ⟨r, hr⟩ : ∃ r : Loop, ({ state := .ready, pending := none, fn, tmps := a.tmps, params := ps, assign, body, defers := w.heap.size } : Loop) = r := ⟨_, rfl⟩
  have hen := run_enterLoop_outer (P := P) (w := w) fn a.tmps ps assign body
  have hst : r.state = .ready := by rw [← hr]
  have hpe : r.pending = none := by rw [← hr]
  rw [hr] at hc hen
  obtain ⟨W1, hW1⟩ : ∃ W1, (w.alloc (.deferred (some []))).alloc (.loop r) = W1 := ⟨_, rfl⟩
  rw [hW1] at hc hen
  refine ⟨w.heap.size + 1, [{ target := .collected w.heap.size, args := #[] }], W1, { target := .fn (.func gf) lb, args := #[.func (.yield (w.heap.size + 1)) #[] #[]] }, W1, gf,
    #[.func (.yield (w.heap.size + 1)) #[] #[]] ++ lb, W1, hen, ?_, ?_, ?_, ?_, ?_⟩
  · simp only [resolve, hg]
    simp [go_sem]
  · intro f' hf'; trivial
  · simp [invoke, go_sem, eg]
  · intro h; cases h
  · refine hc.mono ?_
    rintro e V ⟨⟨v, rfl⟩, hl, hz⟩
    have hend := run_endLoop (P := P) hl (by rw [hst]; simp)
    rw [hpe] at hend
    exact ⟨none, _, hend, hdone V _ hz⟩
/-- a round, out of its record -/
theorem yield_wide {P : Program} {m l : Nat} {args : Array Value} {V : World} {R : Ending → World → Prop} {r : Loop} (hl : V.heap[l]? = some (.loop r)) (hs : args.size = r.params.size)
    (h : r.assign.wpIn (Fence.wide.inRound l) m P (Exit.then (fun a₁ w₁ => ∃ w₂, (Instr.beginRound l).run P w₁ = .ok () w₂ ∧ r.body.wpIn (Fence.wide.inRound l) m P (roundPost P l R) a₁ w₂) (fun _ _ _ => False))
      { tmps := (r.params.zip args).foldl (fun tmps (t, a) => tmps.setIfInBounds t a) r.tmps, defers := [] } V) :
    YieldAt Fence.wide m P l args V R :=
  ⟨r.fn, _, r.assign, r.body, run_yield hl hs, roundIn_of_wpIn trivial h⟩
theorem below_putObj {n b : Nat} {u V : World} (h : Below n u V) (hb : n ≤ b) (o : Obj) : Below n u (V.putObj b o) :=
  h.trans ⟨rfl, rfl, rfl, by simp, fun k hk => World.putObj_heap_other (by omega)⟩
theorem wpListIn_store_row {F : Fence} {n : Nat} {P : Program} {w : World} {ops : Array Oper} {rest : List Oper} {o : Oper} {a : Act} {Q : Exit → Act → World → Prop} (hgd : o.guard = none) (ty : TypeId) (x y : Operand) (ho : o.op = .store ty x y)
    (g : Nat) (cells : Array Value) (hx : a.eval x = .pointer (some ⟨g, 0, none⟩)) (hy : a.eval y = .agg cells)
    (t : TypeId) (old : Array Value) (hg : w.heap[g]? = some (.cells old t (0, 0))) (hi : (P.info? ty).map (·.size) = some cells.size)
    (hold : old.size = cells.size) (h1 : cells.all (·.oneCell') = true)
    (h : wpListIn F n P ops Q rest (a.put o.dst undef) (w.setRow g cells)) : wpListIn F n P ops Q (o :: rest) a w := by
  refine wpListIn_plain hgd fun K hK => ?_
  unfold Oper.wpIn
  refine ⟨?_, ?_⟩
  · simp [Oper.about, ho]
  · rw [Oper.semAt_plain F _ _ (by rw [ho]; intro c hc'; cases hc')]
    simp only [execOp, ho, hx, hy, Instr.storeAt, Instr.sureAddr, Sem.run_bind, Sem.run_pure, Result.andThen_ok, run_storeVar_row w g t ty old cells hg hi hold h1]
    exact hK _ _ h
/-- a list of slices of bytes that came in -/
structure PRow (PA : Option Addr) (S : Nat → Option Addr × Nat) (ps : List (List UInt8)) (w : World) : Prop where
  row : ∀ j l, ps[j]? = some l → ∃ pg po, PA = some ⟨pg, po, none⟩ ∧ w.cell? ⟨pg, po + j, none⟩ = some (.slice (S j).1 l.length (S j).2) ∧ SrcAt (S j).1 l w
  cap : ∀ j l, ps[j]? = some l → l.length ≤ (S j).2 ∧ (S j).2 ≤ maxLen
theorem SrcAt.on {A : Option Addr} {l : List UInt8} {w V : World} (h : SrcAt A l w) (hb : Below w.heap.size w V) : SrcAt A l V := fun hne => by
  obtain ⟨g, o, e, hc⟩ := h hne
  refine ⟨g, o, e, fun j x hj => ?_⟩
  have h1 := hc j x hj
  rw [hb.cell (p := ⟨g, o + j, none⟩) (World.block_lt_of_cell? _ _ h1)]
  exact h1
theorem PRow.on {PA : Option Addr} {S : Nat → Option Addr × Nat} {ps : List (List UInt8)} {w V : World} (h : PRow PA S ps w) (hb : Below w.heap.size w V) : PRow PA S ps V := by
  refine ⟨fun j l hj => ?_, h.cap⟩
  obtain ⟨pg, po, e, hc, hs⟩ := h.row j l hj
  refine ⟨pg, po, e, ?_, hs.on hb⟩
  rw [hb.cell (p := ⟨pg, po + j, none⟩) (World.block_lt_of_cell? _ _ hc)]
  exact hc
end Go.Proofs.Ytebldfobpbijgaa
namespace Go.Proofs.Ytebldfobpbijgaa
open Go.RowKit Sha
set_option linter.unusedVariables false
set_option linter.unusedSimpArgs false
theorem slice_short (X : Nat) (w : World) : (Instr.sliceAt 99 (.pointer (some ⟨X, 0, none⟩)) none none none).run Try.prog w = .ok (.slice (some ⟨X, 0, none⟩) 16 16) w := by
  have ha : Try.prog.arrayLen 99 = 16 := by kernel_rfl
  have h := run_sliceAt_array_all (P := Try.prog) w 99 ⟨X, 0, none⟩ (by kernel_rfl)
  have hs : ∀ w, (sizeOf (Try.prog.elem 99)).run Try.prog w = .ok 1 w := fun _ => by kernel_rfl
  rw [h, hs, ha]
  rfl
end Go.Proofs.Ytebldfobpbijgaa
namespace Go.Proofs.Ytebldfobpbijgaa
open Go.RowKit Sha
set_option linter.unusedVariables false
set_option linter.unusedSimpArgs false
/-- the digits of K bits, W bits each, the first ones first; what is less than W bits is left -/
def dgs (W : Nat) : Nat → Nat → Nat → List Nat
  | 0, _, _ => []
  | f + 1, H, K => if W ≤ K then (H / 2 ^ (K - W)) % 2 ^ W :: dgs W f H (K - W) else []
/-- the digits of bytes, K bits with the value P being ahead -/
def dgB (W : Nat) : Nat → Nat → List UInt8 → List Nat
  | P, K, [] => if 0 < K then [(P * 2 ^ (W - K)) % 2 ^ W] else []
  | P, K, c :: r => dgs W 4 (P * 256 + c.toNat) (K + 8) ++ dgB W ((P * 256 + c.toNat) % 2 ^ ((K + 8) % W)) ((K + 8) % W) r
theorem mod_part (X H m a W : Nat) (h : X % 2 ^ m = H) (ha : a + W ≤ m) : X / 2 ^ a % 2 ^ W = H / 2 ^ a % 2 ^ W := by
  rw [← Nat.mod_mul_right_div_self, ← Nat.mod_mul_right_div_self, ← Nat.pow_add, ← h, Nat.mod_mod_of_dvd _ (Nat.pow_dvd_pow 2 ha)]
theorem mod_less (X H m a : Nat) (h : X % 2 ^ m = H) (ha : a ≤ m) : X % 2 ^ a = H % 2 ^ a := by
  rw [← h, Nat.mod_mod_of_dvd _ (Nat.pow_dvd_pow 2 ha)]
theorem takeIn_nat (h : UInt32) (c : UInt8) : (takeIn h c).toNat = (h.toNat * 256) % 4294967296 + c.toNat := by
  have h1 := c.toNat_lt
  have h2 := h.toNat_lt
  unfold takeIn
  rw [UInt32.toNat_or, UInt32.toNat_shiftLeft, UInt32.toNat_ofNat', Nat.mod_eq_of_lt (show c.toNat < 2 ^ 32 by omega)]
  rw [show (8 : UInt32).toNat % 32 = 8 from rfl, Nat.shiftLeft_eq]
  rw [show h.toNat * 2 ^ 8 % 2 ^ 32 = (h.toNat % 2 ^ 24) * 2 ^ 8 by omega]
  rw [← Nat.shiftLeft_eq, ← Nat.shiftLeft_add_eq_or_of_lt (show c.toNat < 2 ^ 8 by omega), Nat.shiftLeft_eq]
theorem takeIn_mod (h : UInt32) (c : UInt8) (k : Nat) (hk : k < 6) : (takeIn h c).toNat % 2 ^ (k + 8) = (h.toNat % 2 ^ k) * 256 + c.toNat := by
  rw [takeIn_nat]
  have h1 := c.toNat_lt
  obtain rfl | rfl | rfl | rfl | rfl | rfl : k = 0 ∨ k = 1 ∨ k = 2 ∨ k = 3 ∨ k = 4 ∨ k = 5 := by omega
  all_goals (simp only [Nat.reduceAdd, Nat.reducePow]; omega)
theorem dgs_less (W f H K : Nat) (h : K < W) : dgs W f H K = [] := by
  cases f with
  | zero => rfl
  | succ f => rw [dgs, if_neg (by omega)]
theorem low_and (a : UInt32) (k : Nat) (hk : k = 4 ∨ k = 6) : bits .and .u32 (u a) (2 ^ k - 1) = ((a.toNat % 2 ^ k : Nat) : Int) := by
  have h1 : ∀ m : UInt32, m.toNat = 2 ^ k - 1 → bits .and .u32 (u a) (u m) = ((a.toNat % 2 ^ k : Nat) : Int) := fun m hm => by
    rw [u_and]
    unfold u
    rw [UInt32.toNat_and, hm, Nat.and_two_pow_sub_one_eq_mod]
  obtain rfl | rfl := hk
  · exact h1 15 rfl
  · exact h1 63 rfl
/-- what a width's digits are in characters -/
def ch (al : ByteArray) (d : Nat) : UInt8 := al.data.toList.getD d 0
theorem run_index_char (al : ByteArray) (d : Nat) (h : d < al.size) (w : World) : (Instr.index 9 (.string al) (.int .u32 (d : Int))).run Try.prog w = .ok (.int .u8 ((ch al d).toNat : Int)) w := by
  have h0 : (0 : Int) ≤ (d : Int) := by omega
  have h1 : al[d]? = some (ch al d) := by
    rw [getElem?_pos al d h]
    unfold ch
    rw [List.getD_eq_getElem?_getD, List.getElem?_eq_getElem (by simpa using h)]
    rfl
  simp [Instr.index, asIntOf, run_underlying Try.underlying9, h1]
theorem dgB_len (W : Nat) (hW : W = 4 ∨ W = 6) : ∀ (b : List UInt8) (P K : Nat), K < W → (dgB W P K b).length ≤ 2 * b.length + 1
  | [], P, K, _ => by unfold dgB; split <;> simp
  | c :: r, P, K, hK => by
    have h1 : (dgs W 4 (P * 256 + c.toNat) (K + 8)).length ≤ 2 := by
      obtain rfl | rfl := hW
      · simp only [dgs]
        rw [if_pos (by omega), if_pos (by omega), if_neg (by omega)]
        simp
      · simp only [dgs]
        rw [if_pos (by omega)]
        split
        · rw [if_neg (by omega)]; simp
        · simp
    have h2 := dgB_len W hW r ((P * 256 + c.toNat) % 2 ^ ((K + 8) % W)) ((K + 8) % W) (Nat.mod_lt _ (by omega))
    rw [dgB, List.length_append, List.length_cons]
    omega
end Go.Proofs.Ytebldfobpbijgaa
namespace Go.Proofs.Ytebldfobpbijgaa
open Go.RowKit Sha
set_option linter.unusedVariables false
set_option linter.unusedSimpArgs false
def hexL : ByteArray := ⟨#[48, 49, 50, 51, 52, 53, 54, 55, 56, 57, 97, 98, 99, 100, 101, 102]⟩
def b64L : ByteArray := ⟨#[65, 66, 67, 68, 69, 70, 71, 72, 73, 74, 75, 76, 77, 78, 79, 80, 81, 82, 83, 84, 85, 86, 87, 88, 89, 90, 97, 98, 99, 100, 101, 102, 103, 104, 105, 106, 107, 108, 109, 110, 111, 112, 113, 114, 115, 116, 117, 118, 119, 120, 121, 122, 48, 49, 50, 51, 52, 53, 54, 55, 56, 57, 43, 47]⟩
/-- the string in hexadecimal -/
def hexS (b : List UInt8) : List UInt8 := (dgB 4 0 0 b).map (ch hexL)
/-- the characters of base64 without those that fill up -/
def b64D (b : List UInt8) : List UInt8 := (dgB 6 0 0 b).map (ch b64L)
def b64S (b : List UInt8) : List UInt8 := b64D b ++ List.replicate ((4 - (b64D b).length % 4) % 4) 61
def bs (l : List UInt8) : ByteArray := ⟨l.toArray⟩
theorem bs_size (l : List UInt8) : (bs l).size = l.length := rfl
theorem bs_app (a b : List UInt8) : bs (a ++ b) = bs a ++ bs b := by
  apply ByteArray.ext
  simp [bs]
theorem dgB6_three (a b c : UInt8) (r : List UInt8) : dgB 6 0 0 (a :: b :: c :: r) = [(a.toNat * 65536 + b.toNat * 256 + c.toNat) / 262144, (a.toNat * 65536 + b.toNat * 256 + c.toNat) / 4096 % 64, (a.toNat * 65536 + b.toNat * 256 + c.toNat) / 64 % 64, (a.toNat * 65536 + b.toNat * 256 + c.toNat) % 64] ++ dgB 6 0 0 r := by
  have ha := a.toNat_lt
  have hb := b.toNat_lt
  have hc := c.toNat_lt
  simp only [dgB, dgs, Nat.reduceAdd, Nat.reduceMod, Nat.reduceLeDiff, if_true, if_false, Nat.reduceSub, Nat.reducePow, Nat.zero_mul, Nat.zero_add, List.append_assoc, List.cons_append, List.nil_append, Nat.pow_zero, Nat.mod_one, Nat.div_one, Nat.le_refl]
  refine List.cons_eq_cons.2 ⟨by omega, List.cons_eq_cons.2 ⟨by omega, List.cons_eq_cons.2 ⟨by omega, List.cons_eq_cons.2 ⟨by omega, rfl⟩⟩⟩⟩
theorem dgB6_one (a : UInt8) : dgB 6 0 0 [a] = [a.toNat / 4, a.toNat % 4 * 16] := by
  have ha := a.toNat_lt
  simp only [dgB, dgs, Nat.reduceAdd, Nat.reduceMod, Nat.reduceLeDiff, if_true, if_false, Nat.reduceSub, Nat.reducePow, Nat.zero_mul, Nat.zero_add, List.append_assoc, List.cons_append, List.nil_append, Nat.pow_zero, Nat.mod_one, Nat.div_one, Nat.le_refl, Nat.lt_irrefl, Nat.reduceLT]
  refine List.cons_eq_cons.2 ⟨by omega, List.cons_eq_cons.2 ⟨by omega, rfl⟩⟩
theorem dgB6_two (a b : UInt8) : dgB 6 0 0 [a, b] = [a.toNat / 4, (a.toNat * 256 + b.toNat) / 16 % 64, b.toNat % 16 * 4] := by
  have ha := a.toNat_lt
  have hb := b.toNat_lt
  simp only [dgB, dgs, Nat.reduceAdd, Nat.reduceMod, Nat.reduceLeDiff, if_true, if_false, Nat.reduceSub, Nat.reducePow, Nat.zero_mul, Nat.zero_add, List.append_assoc, List.cons_append, List.nil_append, Nat.pow_zero, Nat.mod_one, Nat.div_one, Nat.le_refl, Nat.lt_irrefl, Nat.reduceLT]
  refine List.cons_eq_cons.2 ⟨by omega, List.cons_eq_cons.2 ⟨by omega, List.cons_eq_cons.2 ⟨by omega, rfl⟩⟩⟩
theorem dgB6_nil : dgB 6 0 0 [] = [] := rfl
/-- lists three by three -/
theorem three_rec {P : List UInt8 → Prop} (h0 : P []) (h1 : ∀ a, P [a]) (h2 : ∀ a b, P [a, b]) (h3 : ∀ a b c r, P r → P (a :: b :: c :: r)) : ∀ l, P l
  | [] => h0
  | [a] => h1 a
  | [a, b] => h2 a b
  | a :: b :: c :: r => h3 a b c r (three_rec h0 h1 h2 h3 r)
theorem b64_mod (b : List UInt8) : (dgB 6 0 0 b).length % 4 = (if b.length % 3 = 0 then 0 else b.length % 3 + 1) ∧ (dgB 6 0 0 b).length / 4 = b.length / 3 := by
  refine three_rec (P := fun b => (dgB 6 0 0 b).length % 4 = (if b.length % 3 = 0 then 0 else b.length % 3 + 1) ∧ (dgB 6 0 0 b).length / 4 = b.length / 3) ?_ ?_ ?_ ?_ b
  · exact ⟨rfl, rfl⟩
  · intro a; rw [dgB6_one]; exact ⟨by simp, by simp⟩
  · intro a b; rw [dgB6_two]; exact ⟨by simp, by simp⟩
  · intro a b c r ih
    rw [dgB6_three]
    simp only [List.length_append, List.length_cons, List.length_nil]
    split at ih <;> split <;> omega
theorem b64D_len (b : List UInt8) : (b64D b).length = (dgB 6 0 0 b).length := by unfold b64D; rw [List.length_map]
end Go.Proofs.Ytebldfobpbijgaa
namespace Go.Proofs.Ytebldfobpbijgaa
open Go.ChangeShapes Go.WideShapes Go.ChangeAt Go.RowKit Go.Joins
set_option linter.unusedVariables false
set_option maxRecDepth 100000
theorem Try.cellsByte : Try.prog.cellsOf 5 = 1 := by kernel_rfl
section
variable {H : Type} {enc : TypeId × Value → H} {w : World}
/-- bytes that came in -/
theorem open_bytes {r : Reach} {b0 : Nat} {v : Value} {d : DataW H} {p : List MemPlace} (hv : Value.okWide Try.prog w r b0 31 v) (h : DataW.Trod enc Try.prog w 0 (fun _ => true) true 31 v d p) :
    ∃ (A : Option Addr) (l : List UInt8) (c : Nat), v = .slice A l.length c ∧ l.length ≤ c ∧ c ≤ maxLen ∧ SrcAt A l w := by
  obtain ⟨a0, len, cap, rfl⟩ := okWide_slice Try.underlying31 hv
  obtain ⟨fuel, hf⟩ := h
  rcases open_ints Try.underlying31 Try.underlying5 Try.cellsByte hf with ⟨hcs, hx⟩ | ⟨a, len', cap', zs, hcs, _, hl, hm, hz, hx, hcell, hwz⟩
  · simp [Value.cells] at hcs
    obtain ⟨rfl, rfl, rfl⟩ := hcs
    exact ⟨none, [], 0, rfl, Nat.le_refl _, by decide, fun h => absurd rfl h⟩
  · simp [Value.cells] at hcs
    obtain ⟨rfl, rfl, rfl⟩ := hcs
    simp only [if_true] at hz
    refine ⟨some a, (zs.take len).map fun z => UInt8.ofNat z.toNat, cap, ?_, ?_, hm, ?_⟩
    · rw [List.length_map, List.length_take, hz, Nat.min_eq_left hl]
    · rw [List.length_map, List.length_take, hz]; omega
    · intro hne
      have hl0 : len ≠ 0 := by
        intro e
        subst e
        exact hne rfl
      obtain ⟨b, off, spot⟩ := a
      have hspot : spot = none := by simpa [Addr.add] using World.cell?_spot (hcell 0 (by omega))
      subst hspot
      refine ⟨b, off, rfl, fun j x hj => ?_⟩
      rw [List.getElem?_map] at hj
      obtain ⟨z, hz1, rfl⟩ := Option.map_eq_some_iff.1 hj
      have hjl : j < len := by
        have := (List.getElem?_eq_some_iff.1 hz1).1
        simp at this
        omega
      rw [List.getElem?_take, if_pos hjl] at hz1
      have hc := hcell j (by omega)
      rw [add_eq, List.getD_eq_getElem?_getD, hz1, Option.getD_some] at hc
      have hb := bounds_u8 (hwz z (List.mem_of_getElem? hz1))
      rw [hc]
      congr 2
      rw [UInt8.toNat_ofNat']
      omega
end
end Go.Proofs.Ytebldfobpbijgaa
namespace Go.Proofs.Ytebldfobpbijgaa
open Go.RowKit Sha
set_option linter.unusedVariables false
set_option linter.unusedSimpArgs false
theorem srcAt_row {w : World} {g : Nat} {l : List UInt8} {t : TypeId} {fr : Nat × Nat} (h : w.heap[g]? = some (.cells (bcells l) t fr)) : SrcAt (some ⟨g, 0, none⟩) l w := fun _ =>
  ⟨g, 0, rfl, fun j x hj => by
    obtain ⟨hlt, e⟩ := List.getElem?_eq_some_iff.1 hj
    rw [Nat.zero_add, cell_of_row w g j _ _ _ h, bcells_at _ _ hlt, List.getD_eq_getElem?_getD, hj]
    rfl⟩
theorem sha_len (l : List UInt8) : (sha l).length = 32 := hp_len _ _
/-- the chapter's examples, closed -/
def x0 : ByteArray := bs (hexS (sha []))
def x3 : ByteArray := bs (hexS (sha [97, 98, 99]))
theorem x0_size : x0.size = 64 := by unfold x0; rw [sha_nil]; rfl
theorem x3_size : x3.size = 64 := by unfold x3; rw [sha_abc]; rfl
theorem x0_head : ((x0.extract 0 16).toList == [101, 51, 98, 48, 99, 52, 52, 50, 57, 56, 102, 99, 49, 99, 49, 52]) = true := by unfold x0; rw [sha_nil]; decide +kernel
theorem x3_head : ((x3.extract 0 16).toList == [98, 97, 55, 56, 49, 54, 98, 102, 56, 102, 48, 49, 99, 102, 101, 97]) = true := by unfold x3; rw [sha_abc]; decide +kernel
theorem x_hex : bs (hexS [0, 255, 16]) = ⟨#[48, 48, 102, 102, 49, 48]⟩ := by
  have h : hexS [0, 255, 16] = [48, 48, 102, 102, 49, 48] := by decide +kernel
  rw [h]; rfl
theorem x_b64 : bs (b64S [0, 255, 16]) = ⟨#[65, 80, 56, 81]⟩ := by
  have h : b64S [0, 255, 16] = [65, 80, 56, 81] := by decide +kernel
  rw [h]; rfl
theorem conv_const (C : Array Value) (n : Nat) (V : World) : (convert 31 31 (.slice (some ⟨V.heap.size, 0, none⟩) n n)).run Try.prog (V.alloc (.cells C 5)) = .ok (.slice (some ⟨V.heap.size, 0, none⟩) n n) (V.alloc (.cells C 5 (C.size, C.size + 1))) :=
  Lib.run_convert_bytes_const V 31 5 C n n Try.underlying31 Try.underlying5
end Go.Proofs.Ytebldfobpbijgaa
