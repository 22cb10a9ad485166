/-
  THE WALK over the filling of blocks: a function value of the iterator's, which tells each block that is full.
-/
import Derived.Test.YtafolokkjpbieaaDoorDigE
import Derived.RangeFuncNested
import Derived.RangeFuncBound
import Derived.RangeFuncCalls
import Derived.RangeFuncLeaves
import Derived.Shelf.Abstract
import Derived.OwnWalkIn
import Derived.TacticsInMore
import Derived.LoopNIn
import Derived.LoopIn
import Derived.Laws.CopyOwn
import Derived.OneCell
namespace Go.Proofs.YtafolokkjpbieaaDoor
open Go.RowKit Sha
set_option linter.unusedVariables false
set_option linter.unusedSimpArgs false
attribute [local go_sem] Oper.semAt_some
theorem wpListIn_copy_own {F : Fence} {n : Nat} {P : Program} {w : World} {ops : Array Oper} {rest : List Oper} {o : Oper} {a : Act} {Q : Exit → Act → World → Prop} (hgd : o.guard = none) (d s : Operand) (dT sT : TypeId)
    (ho : o.op = .call { callee := .builtin .copy, args := #[d, s], argTypes := #[dT, sT] }) (elem : TypeId) (hu : P.underlying dT = some (.slice elem)) (hsz : (P.info? elem).map (·.size) = some 1)
    (g off dLen dCap : Nat) (ad : Addr) (sLen sCap : Nat) (hd : a.eval d = .slice (some ⟨g, off, none⟩) dLen dCap) (hs : a.eval s = .slice (some ad) sLen sCap)
    (cur : Array Value) (t : TypeId) (hg : w.heap[g]? = some (.cells cur t (0, 0))) (cs : List Value) (hn : cs.length = Nat.min sLen dLen)
    (hsrc : ∀ j v, cs[j]? = some v → w.cell? (ad.add j) = some v) (hfit : off + cs.length ≤ cur.size) (h1 : ∀ v ∈ cs, v.oneCell' = true)
    (h : wpListIn F n P ops Q rest (a.put o.dst (goInt cs.length)) (w.setRow g (cur.toList.take off ++ cs ++ cur.toList.drop (off + cs.length)).toArray)) : wpListIn F n P ops Q (o :: rest) a w := by
  refine wpListIn_plain hgd fun K hK => ?_
  have hrun := run_copy_row (P := P) w dT sT o.type elem g off dLen dCap ad sLen sCap cur t cs hu hsz hg hn hsrc hfit h1
  unfold Oper.wpIn
  refine ⟨?_, ?_⟩
  · simp [Oper.about, ho, resolve, Target.leads, Sem.run_pure]
  · rw [Oper.semAt_plain F _ _ (by rw [ho]; intro c hc'; cases hc')]
    simp only [execOp, ho, resolve, invoke, builtin, Sem.run_bind, Sem.run_pure, Result.andThen_ok, List.map_toArray, List.map_cons, List.map_nil, hd, hs, hrun]
    exact hK _ _ h
theorem wpListIn_load_row {F : Fence} {n : Nat} {P : Program} {w : World} {ops : Array Oper} {rest : List Oper} {o : Oper} {a : Act} {Q : Exit → Act → World → Prop} (hgd : Region.wanted o (yielded ops a.tmps) = true) (ty : TypeId) (x : Operand) (ho : o.op = .load ty x)
    (g : Nat) (hx : a.eval x = .pointer (some ⟨g, 0, none⟩)) (t : TypeId) (cs : Array Value) (fr : Nat × Nat) (d : TypeDesc) (hg : w.heap[g]? = some (.cells cs t fr))
    (hu : P.underlying ty = some d) (hd : (match d with | .struct _ | .array _ _ => true | _ => false) = true) (hi : (P.info? ty).map (·.size) = some cs.size)
    (h : wpListIn F n P ops Q rest (a.put o.dst (.agg cs)) w) : wpListIn F n P ops Q (o :: rest) a w := by
  refine wpListIn_step fun K hK => ?_
  rw [if_pos hgd]
  unfold Oper.wpIn
  refine ⟨?_, ?_⟩
  · simp [Oper.about, ho]
  · rw [Oper.semAt_plain F _ _ (by rw [ho]; intro c hc'; cases hc')]
    simp only [execOp, ho, hx, Instr.loadAt, Instr.sureAddr, Sem.run_bind, Sem.run_pure, Result.andThen_ok, run_loadVar_row w g t ty cs fr d hg hu hd hi]
    exact hK _ _ h
/-- what a filling keeps -/
structure Keep (N : Nat) (V V' : World) : Prop where
  size : V.heap.size ≤ V'.heap.size
  same : ∀ b, N ≤ b → b < V.heap.size → V'.heap[b]? = V.heap[b]?
theorem Keep.refl (N : Nat) (V : World) : Keep N V V := ⟨Nat.le_refl _, fun _ _ _ => rfl⟩
theorem Keep.trans {N : Nat} {A B C : World} (h : Keep N A B) (k : Keep N B C) : Keep N A C :=
  ⟨Nat.le_trans h.size k.size, fun b h1 h2 => (k.same b h1 (Nat.lt_of_lt_of_le h2 h.size)).trans (h.same b h1 h2)⟩
/-- p bytes of T are taken in: so many blocks are told, the rest lies in the block -/
structure FS (T : List UInt8) (N l : Nat) (J : Nat → World → Prop) (p : Nat) (V : World) : Prop where
  j : J (p / 64) V
  fn : V.heap[N]? = some (.cells #[.func (.yield l) #[] #[]] 98 (0, 0))
  bf : ∃ buf : List UInt8, V.heap[N + 1]? = some (.cells (bcells buf) 90 (0, 0)) ∧ buf.length = 64 ∧ buf.take (p % 64) = (T.drop (64 * (p / 64))).take (p % 64)
  us : V.heap[N + 2]? = some (.cells #[.int .i64 ((p % 64 : Nat) : Int)] 3 (0, 0))
/-- where a filling's bytes lie -/
def SrcAt (A : Option Addr) (lst : List UInt8) (V : World) : Prop := lst ≠ [] → ∃ g o, A = some ⟨g, o, none⟩ ∧ ∀ j x, lst[j]? = some x → V.cell? ⟨g, o + j, none⟩ = some (.int .u8 (x.toNat : Int))
/-- the bytes of one step, math -/
theorem part_full (T buf l : List UInt8) (p n : Nat) (hl : l = (T.drop p).take l.length) (hn : n ≤ l.length) (hu : p % 64 + n = 64) (hb : buf.length = 64) (hk : buf.take (p % 64) = (T.drop (64 * (p / 64))).take (p % 64)) :
    buf.take (p % 64) ++ l.take n ++ buf.drop (p % 64 + n) = (T.drop (64 * (p / 64))).take 64 := by
  rw [hu, List.drop_of_length_le (by omega), List.append_nil, hk, hl, List.take_take, Nat.min_eq_left hn]
  rw [show T.drop p = (T.drop (64 * (p / 64))).drop (p % 64) by rw [List.drop_drop]; congr 1; omega, ← List.take_add, hu]
theorem part_some (T buf l : List UInt8) (p n : Nat) (hl : l = (T.drop p).take l.length) (hn : n ≤ l.length) (hu : p % 64 + n ≤ 64) (hb : buf.length = 64) (hk : buf.take (p % 64) = (T.drop (64 * (p / 64))).take (p % 64)) :
    (buf.take (p % 64) ++ l.take n ++ buf.drop (p % 64 + n)).take (p % 64 + n) = (T.drop (64 * (p / 64))).take (p % 64 + n) := by
  have h1 : (buf.take (p % 64) ++ l.take n).length = p % 64 + n := by simp; omega
  rw [List.take_append_of_le_length (by omega), List.take_of_length_le (by omega), hk, hl, List.take_take, Nat.min_eq_left hn]
  rw [show T.drop p = (T.drop (64 * (p / 64))).drop (p % 64) by rw [List.drop_drop]; congr 1; omega, ← List.take_add]
theorem add_eq (g o j : Nat) : (⟨g, o, none⟩ : Addr).add j = ⟨g, o + j, none⟩ := by unfold Addr.add; split <;> simp_all
theorem slice_block (N u : Nat) (hu : u < 64) (w : World) : (Instr.sliceAt 90 (.pointer (some ⟨N, 0, none⟩)) (some (.int .i64 (u : Int))) none none).run Tryd.prog w = .ok (.slice (some ⟨N, u, none⟩) (64 - u) (64 - u)) w := by
  have ha : Tryd.prog.arrayLen 90 = 64 := by kernel_rfl
  have h := run_sliceAt_array_l (P := Tryd.prog) w 90 ⟨N, 0, none⟩ (by kernel_rfl) .i64 (u : Int) (by omega) (by rw [ha]; omega)
  have hs : ∀ w, (sizeOf (Tryd.prog.elem 90)).run Tryd.prog w = .ok 1 w := fun _ => by kernel_rfl
  rw [h, hs, ha]
  show Result.ok (slicedAt ⟨N, 0, none⟩ (u : Int).toNat 64 64 1) w = _
  unfold slicedAt
  rw [Int.toNat_natCast, Nat.mul_one, if_neg (by omega), add_eq, Nat.zero_add]
theorem slice_bytes (g o L C n : Nat) (hn : n ≤ L) (hC : L ≤ C) (h0 : 0 < n) : ∃ A2, (∀ w, (Instr.sliceAt 42 (.slice (some ⟨g, o, none⟩) L C) (some (.int .i64 (n : Int))) none none).run Tryd.prog w = .ok (.slice A2 (L - n) (C - n)) w) ∧ (n < L → A2 = some ⟨g, o + n, none⟩) := by
  refine ⟨if C = n then some ⟨g, o, none⟩ else some ⟨g, o + n, none⟩, fun w => ?_, fun h => by rw [if_neg (by omega)]⟩
  have hs : ∀ w, (sizeOf (Tryd.prog.elem 42)).run Tryd.prog w = .ok 1 w := fun _ => by kernel_rfl
  rw [run_sliceAt_slice _ _ _ _ _ _ (by kernel_rfl), run_slice_l _ _ _ _ _ (by kernel_rfl) .i64 (n : Int) (by omega) (by omega), hs]
  show Result.ok (sliced (some ⟨g, o, none⟩) (n : Int).toNat L C 1) w = _
  unfold sliced
  rw [Int.toNat_natCast, Nat.mul_one, Option.map_some]
  by_cases h : C = n
  · rw [if_pos h, if_pos h]
  · rw [if_neg h, if_neg h, add_eq]
theorem bcells_splice (buf m : List UInt8) (u n : Nat) : ((bcells buf).toList.take u ++ bvals m ++ (bcells buf).toList.drop (u + n)).toArray = bcells (buf.take u ++ m ++ buf.drop (u + n)) := by
  unfold bcells bvals
  simp
theorem func_one {w : World} {b : Nat} {v : Value} {t : TypeId} (h : w.heap[b]? = some (.cells #[v] t (0, 0))) : w.cell? ⟨b, 0, none⟩ = some v := cell_of_one h
set_option maxRecDepth 100000 in
set_option maxHeartbeats 4000000 in
theorem fill_in (T : List UInt8) (N l : Nat) (J : Nat → World → Prop) (hT : T.length ≤ 1000000)
    (hJ : ∀ k V V', J k V → Below N V V' → J k V')
    (hY : ∀ k V, 64 * (k + 1) ≤ T.length → J k V → N + 3 ≤ V.heap.size → YieldAt Fence.wide 1 Tryd.prog l #[.agg (bcells ((T.drop (64 * k)).take 64))] V fun e V' => e = .returned (.bool true) ∧ J (k + 1) V' ∧ Keep N V V')
    (p : Nat) (lst : List UInt8) (hl : lst = (T.drop p).take lst.length) (hp : p + lst.length ≤ T.length) (A : Option Addr) (C : Nat) (hC : lst.length ≤ C) (hC2 : C ≤ maxLen) (V : World) (hV : FS T N l J p V) (hNV : N + 3 ≤ V.heap.size)
    (hsrc : ∀ k V', J k V' → Keep (N + 3) V V' → SrcAt A lst V') :
    CallsIn Fence.wide 2 Tryd.prog 69 #[.slice A lst.length C, .pointer (some ⟨N + 1, 0, none⟩), .pointer (some ⟨N + 2, 0, none⟩), .pointer (some ⟨N, 0, none⟩)] V fun e V' =>
      e = .returned (.bool true) ∧ FS T N l J (p + lst.length) V' ∧ Keep (N + 3) V V' := by
  obtain ⟨L, hL⟩ : ∃ L, lst.length = L := ⟨_, rfl⟩
  rw [hL] at hl hp hC ⊢
  unfold maxLen at hC2
  have HT := Lib.hid hT
  have HJ := Lib.hid hJ
  have HY := Lib.hid hY
  have HL := Lib.hid hl
  have HP := Lib.hid hp
  have HV := Lib.hid hV
  have HS := Lib.hid hsrc
  have HLL := Lib.hid hL
  clear hT hJ hY hl hp hV hsrc hL
  refine callsIn_of_wp Tryd.func69 rfl trivial ?_ rfl
  simp only [Tryd.ntmps69, List.size_toArray, List.length_cons, List.length_nil, Nat.reduceAdd, Nat.reduceSub, Array.replicate_succ, Array.replicate_zero, List.push_toArray, List.append_toArray, List.nil_append, List.cons_append]
  gi_wp2
  gi_loopw [0] (fun v wr => ∃ (d : Nat) (A' : Option Addr), d ≤ L ∧ v = .slice A' (L - d) (C - d) ∧ (d < L → ∃ g o, A = some ⟨g, o, none⟩ ∧ A' = some ⟨g, o + d, none⟩) ∧ FS T N l J (p + d) wr ∧ Keep (N + 3) V wr ∧ N + 3 ≤ wr.heap.size) (fun v _ => match v with | .slice _ n _ => n | _ => 0)
  case atStart =>
    refine ⟨0, A, by omega, rfl, fun h0 => ?_, HV.out, Keep.refl _ _, hNV⟩
    obtain ⟨g, o, h1, _⟩ := HS.out _ _ HV.out.j (Keep.refl _ _) (by intro e; have := HLL.out; rw [e] at this; simp at this; omega)
    exact ⟨g, o, h1, h1⟩
  case round =>
    obtain ⟨d, A', hd, rfl, hA', hfs, hkp, hwz⟩ := hrel
    have HFS := Lib.hid hfs
    have HKP := Lib.hid hkp
    have HA := Lib.hid hA'
    clear hfs hkp hA'
    by_cases hlt : d < L
    · obtain ⟨g, o, h1, h2⟩ := HA.out hlt
      subst h2
      have hsr : ∀ j x, lst[j]? = some x → wr.cell? ⟨g, o + j, none⟩ = some (.int .u8 (x.toNat : Int)) := by
        obtain ⟨g', o', e1, e2⟩ := HS.out _ _ HFS.out.j HKP.out (by intro e; have := HLL.out; rw [e] at this; simp at this; omega)
        rw [h1] at e1
        obtain ⟨rfl, rfl⟩ : g = g' ∧ o = o' := by simpa using e1
        exact e2
      obtain ⟨q, hq⟩ : ∃ q, p + d = q := ⟨_, rfl⟩
      rw [hq] at HFS
      obtain ⟨buf, hb1, hb2, hb3⟩ := HFS.out.bf
      have husd := HFS.out.us
      obtain ⟨u, hu⟩ : ∃ u, q % 64 = u := ⟨_, rfl⟩
      have hu64 : u < 64 := by omega
      rw [hu] at husd hb3
      have c2 := cell_of_one husd
      have f2 := free_of_one husd
      obtain ⟨n, hn⟩ : ∃ n, Nat.min (L - d) (64 - u) = n := ⟨_, rfl⟩
      have hn0 : 1 ≤ n ∧ n ≤ L - d ∧ n ≤ 64 - u ∧ (n = L - d ∨ n = 64 - u) := by
        rw [← hn]
        show 1 ≤ min (L - d) (64 - u) ∧ min (L - d) (64 - u) ≤ L - d ∧ min (L - d) (64 - u) ≤ 64 - u ∧ (min (L - d) (64 - u) = L - d ∨ min (L - d) (64 - u) = 64 - u)
        omega
      have HN0 := Lib.hid hn0
      have HNN := Lib.hid hn
      have HU := Lib.hid hu
      have HQ := Lib.hid hq
      have HB1 := Lib.hid hb1
      have HB2 := Lib.hid hb2
      have HB3 := Lib.hid hb3
      have HUS := Lib.hid husd
      have HSR := Lib.hid hsr
      have H1 := Lib.hid h1
      have hLd : (0 : Int) < ((L - d : Nat) : Int) := by omega
      have hLd2 : 0 < L - d := by omega
      clear hb1 hb2 hb3 husd hu hn hn0 hq hsr h1
      have hsl := slice_block (N + 1) u hu64
      obtain ⟨A2, hs2, hA2⟩ := slice_bytes g (o + d) (L - d) (C - d) n HN0.out.2.1 (by omega) HN0.out.1
      have HA2 := Lib.hid hA2
      clear hA2
      obtain ⟨m, hm⟩ : ∃ m, (lst.drop d).take n = m := ⟨_, rfl⟩
      have hmn : m.length = n := by
        rw [← hm, List.length_take, List.length_drop, HLL.out]
        have := HN0.out
        omega
      have hcl : (bvals m).length = Nat.min (L - d) (64 - u) := by rw [bvals_len, hmn, HNN.out]
      have hcn : (bvals m).length = n := by rw [bvals_len, hmn]
      have hcs : ∀ j v, (bvals m)[j]? = some v → wr.cell? ((⟨g, o + d, none⟩ : Addr).add j) = some v := fun j v hj => by
        unfold bvals at hj
        rw [List.getElem?_map] at hj
        obtain ⟨x, hx, rfl⟩ := Option.map_eq_some_iff.1 hj
        rw [add_eq, Nat.add_assoc]
        refine HSR.out (d + j) x ?_
        rw [← hm, List.getElem?_take] at hx
        split at hx
        · rwa [List.getElem?_drop] at hx
        · cases hx
      have hfit : u + (bvals m).length ≤ (bcells buf).size := by rw [bcells_size, HB2.out, hcn]; have := HN0.out; omega
      have hone : ∀ v ∈ bvals m, v.oneCell' = true := fun v hv => by
        unfold bvals at hv
        obtain ⟨x, _, rfl⟩ := List.mem_map.1 hv
        rfl
      have hsz1 : (Tryd.prog.info? 5).map (·.size) = some 1 := by kernel_rfl
      have HM := Lib.hid hm
      have HMN := Lib.hid hmn
      have HCL := Lib.hid hcl
      have HCN := Lib.hid hcn
      have HCS := Lib.hid hcs
      have HFIT := Lib.hid hfit
      have HONE := Lib.hid hone
      have HSZ1 := Lib.hid hsz1
      clear hm hmn hcl hcn hcs hfit hone hsz1
      obtain ⟨blk, hblk⟩ : ∃ blk, buf.take u ++ m ++ buf.drop (u + n) = blk := ⟨_, rfl⟩
      have hblk64 : blk.length = 64 := by
        rw [← hblk]
        have h1 := HB2.out
        have h2 := HMN.out
        have h3 := HN0.out
        simp
        omega
      obtain ⟨w1, hw1⟩ : ∃ w1, wr.setRow (N + 1) (bcells blk) = w1 := ⟨_, rfl⟩
      have o1 : ∀ b, b ≠ N + 1 → w1.heap[b]? = wr.heap[b]? := fun b hb => by rw [← hw1]; exact setRow_other _ _ _ _ hb
      have g1 : w1.heap[N + 1]? = some (.cells (bcells blk) 90 (0, 0)) := by rw [← hw1]; exact setRow_heap _ _ _ _ _ _ HB1.out
      have z1 : w1.heap.size = wr.heap.size := by rw [← hw1]; simp
      have bl1 : Below N wr w1 := by rw [← hw1]; exact below_row (Below.refl _ _) (by omega) _
      have e2 : w1.heap[N + 2]? = some (.cells #[.int .i64 (u : Int)] 3 (0, 0)) := (o1 _ (by omega)).trans HUS.out
      have eN : w1.heap[N]? = some (.cells #[.func (.yield l) #[] #[]] 98 (0, 0)) := (o1 _ (by omega)).trans HFS.out.fn
      have hszb : (Tryd.prog.info? 90).map (·.size) = some (bcells blk).size := by rw [bcells_size, hblk64]; kernel_rfl
      have c21 := cell_of_one e2
      have f21 := free_of_one e2
      have cN1 := cell_of_one eN
      have hlt1 : N + 2 < w1.heap.size := (Array.getElem?_eq_some_iff.1 e2).1
      -- the world behind the store of the count
      have W2 : ∀ x : Value, Below N wr (w1.setCell ⟨N + 2, 0, none⟩ x) ∧ (w1.setCell ⟨N + 2, 0, none⟩ x).heap[N + 1]? = some (.cells (bcells blk) 90 (0, 0)) ∧ (w1.setCell ⟨N + 2, 0, none⟩ x).heap[N + 2]? = some (.cells #[x] 3 (0, 0)) ∧ (w1.setCell ⟨N + 2, 0, none⟩ x).heap[N]? = some (.cells #[.func (.yield l) #[] #[]] 98 (0, 0)) ∧ Keep (N + 3) wr (w1.setCell ⟨N + 2, 0, none⟩ x) ∧ (w1.setCell ⟨N + 2, 0, none⟩ x).heap.size = wr.heap.size := fun x => by
        have hs : (w1.setCell ⟨N + 2, 0, none⟩ x).heap.size = wr.heap.size := by rw [← z1]; simp [World.setCell]
        refine ⟨bl1.setCell (by show N ≤ N + 2; omega) _, ?_, one_setCell e2, ?_, ⟨Nat.le_of_eq hs.symm, fun b hb _ => ?_⟩, hs⟩
        · rw [Below.heap_setCell _ _ _ _ (by show N + 1 ≠ N + 2; omega)]; exact g1
        · rw [Below.heap_setCell _ _ _ _ (by show N ≠ N + 2; omega)]; exact eN
        · rw [Below.heap_setCell _ _ _ _ (by show b ≠ N + 2; omega)]; exact o1 b (by omega)
      have HW1 := Lib.hid hw1
      have HBLK := Lib.hid hblk
      have HBLK64 := Lib.hid hblk64
      have HSZB := Lib.hid hszb
      have HW2 := Lib.hid W2
      clear hw1 o1 g1 z1 bl1 e2 eN hblk hszb hblk64 W2
      have hn64 : n ≤ 64 := by have := HN0.out; omega
      have hml : m = (T.drop q).take n := by
        rw [← HM.out, HL.out, ← HQ.out, ← List.drop_drop]
        have := HN0.out
        rw [List.drop_take, List.take_take, Nat.min_eq_left (by omega)]
      have HML := Lib.hid hml
      clear hml
      by_cases hfull : u + n = 64
      · have hbt : blk = (T.drop (64 * (q / 64))).take 64 := by
          rw [← HBLK.out]
          have h := part_full T buf m q n (by rw [HMN.out]; exact HML.out) (by rw [HMN.out]; exact Nat.le_refl _) (by rw [HU.out]; exact hfull) HB2.out (by rw [HU.out]; exact HB3.out)
          have h5 : m.take n = m := List.take_of_length_le (by rw [HMN.out]; exact Nat.le_refl _)
          rw [HU.out, h5] at h
          exact h
        have hq1 : 64 * (q / 64 + 1) ≤ T.length := by
          have h1 := HP.out
          have h2 := HN0.out
          have h3 := HU.out
          have h4 := HQ.out
          omega
        obtain ⟨b1, b2, b3, b4, b5, b6⟩ := HW2.out (.int .i64 0)
        have hj2 := HJ.out _ _ _ HFS.out.j b1
        have hY2 := HY.out (q / 64) _ hq1 hj2 (by rw [b6]; exact hwz)
        rw [← hbt] at hY2
        obtain ⟨fn, tmps, assign, body, hy, hR⟩ := hY2
        have HR := Lib.hid hR
        have B2 := Lib.hid b2
        have B3 := Lib.hid b3
        have B4 := Lib.hid b4
        have B5 := Lib.hid b5
        have B6 := Lib.hid b6
        have HFU := Lib.hid hfull
        have HBT := Lib.hid hbt
        have HQ1 := Lib.hid hq1
        have hm0 : ((u : Int) + (n : Int)) % 64 = 0 := by omega
        clear hfull hbt hq1 b1 b2 b3 b4 b5 b6 hj2 hR
        gi_wp2_with (first | (refine wpListIn_copy_own rfl (.tmp 11) (.tmp 12) 42 42 rfl 5 Tryd.underlying42 HSZ1.out (N + 1) u (64 - u) (64 - u) ⟨g, o + d, none⟩ (L - d) (C - d) rfl rfl (bcells buf) 90 HB1.out (bvals m) HCL.out HCS.out HFIT.out HONE.out ?_; rw [HCN.out, bcells_splice, HBLK.out, HW1.out]) | (refine wpListIn_load_row rfl 90 (.tmp 1) rfl (N + 1) rfl 90 (bcells blk) (0, 0) _ B2.out Tryd.underlying90 rfl HSZB.out ?_))
        refine HR.out.mono ?_
        rintro e V2 ⟨rfl, hj3, hk3⟩
        have HJ3 := Lib.hid hj3
        have HK3 := Lib.hid hk3
        clear hj3 hk3 hy c2 f2 c21 f21 cN1
        gi_wp2_with fail
        have h1 := HN0.out
        have h2 := HFU.out
        have h3 := HU.out
        have h4 := HQ.out
        refine ⟨⟨d + n, A2, by omega, by rw [Nat.sub_sub, Nat.sub_sub], fun hlt2 => ?_, ?_, ?_, ?_⟩, ?_⟩
        · refine ⟨g, o, H1.out, ?_⟩
          rw [HA2.out (by omega), Nat.add_assoc]
        · have e1 : p + (d + n) = q + n := by omega
          have e2 : (q + n) / 64 = q / 64 + 1 := by omega
          have e3 : (q + n) % 64 = 0 := by omega
          rw [e1]
          refine ⟨by rw [e2]; exact HJ3.out, ?_, ⟨blk, ?_, HBLK64.out, by rw [e3]; rfl⟩, ?_⟩
          · rw [HK3.out.same N (Nat.le_refl _) (by rw [B6.out]; omega)]; exact B4.out
          · rw [HK3.out.same (N + 1) (by omega) (by rw [B6.out]; omega)]; exact B2.out
          · rw [HK3.out.same (N + 2) (by omega) (by rw [B6.out]; omega), e3]; exact B3.out
        · exact HKP.out.trans (B5.out.trans ⟨HK3.out.size, fun b hb1 hb2 => HK3.out.same b (by omega) hb2⟩)
        · have := HK3.out.size
          rw [B6.out] at this
          omega
        · show L - d - n < L - d
          omega
      · have hnf : n = L - d ∧ u + n < 64 := by have := HN0.out; omega
        have hq1 : (blk.take (u + n)) = (T.drop (64 * (q / 64))).take (u + n) := by
          rw [← HBLK.out]
          have h := part_some T buf m q n (by rw [HMN.out]; exact HML.out) (by rw [HMN.out]; exact Nat.le_refl _) (by rw [HU.out]; omega) HB2.out (by rw [HU.out]; exact HB3.out)
          have h5 : m.take n = m := List.take_of_length_le (by rw [HMN.out]; exact Nat.le_refl _)
          rw [HU.out, h5] at h
          exact h
        obtain ⟨b1, b2, b3, b4, b5, b6⟩ := HW2.out (.int .i64 ((u : Int) + (n : Int)))
        have hj2 := HJ.out _ _ _ HFS.out.j b1
        have HJ2 := Lib.hid hj2
        have B2 := Lib.hid b2
        have B3 := Lib.hid b3
        have B4 := Lib.hid b4
        have B5 := Lib.hid b5
        have B6 := Lib.hid b6
        have HNF := Lib.hid hnf
        have HQ1 := Lib.hid hq1
        have hm1 : ((u : Int) + (n : Int)) % 64 = (u : Int) + (n : Int) := by omega
        have hne : ((u : Int) + (n : Int) == 0) = false := by
          have := HN0.out
          rw [beq_eq_false_iff_ne]
          omega
        clear hfull hnf hq1 b1 b2 b3 b4 b5 b6 hj2
        gi_wp2_with (refine wpListIn_copy_own rfl (.tmp 11) (.tmp 12) 42 42 rfl 5 Tryd.underlying42 HSZ1.out (N + 1) u (64 - u) (64 - u) ⟨g, o + d, none⟩ (L - d) (C - d) rfl rfl (bcells buf) 90 HB1.out (bvals m) HCL.out HCS.out HFIT.out HONE.out ?_; rw [HCN.out, bcells_splice, HBLK.out, HW1.out])
        refine ⟨fun f hf => (by cases hf), ?_⟩
        refine ‹∀ (a : Act) (w : World), wpListIn _ _ _ _ _ _ a w → _› _ _ ?_
        gi_wp2_with fail
        have h1 := HN0.out
        have h2 := HNF.out
        have h3 := HU.out
        have h4 := HQ.out
        refine ⟨⟨d + n, A2, by omega, by rw [Nat.sub_sub, Nat.sub_sub], fun hlt2 => ?_, ?_, ?_, ?_⟩, ?_⟩
        · omega
        · have e1 : p + (d + n) = q + n := by omega
          have e2 : (q + n) / 64 = q / 64 := by omega
          have e3 : (q + n) % 64 = u + n := by omega
          rw [e1]
          refine ⟨by rw [e2]; exact HJ2.out, B4.out, ⟨blk, B2.out, HBLK64.out, by rw [e2, e3]; exact HQ1.out⟩, ?_⟩
          rw [e3]
          exact B3.out
        · exact HKP.out.trans B5.out
        · rw [B6.out]
          exact hwz
        · show L - d - n < L - d
          omega
    · have hdL : d = L := by omega
      subst hdL
      have hge : ¬ (0 < d - d) := by omega
      rw [Nat.sub_self]
      gi_wp2_with fail
      go_ret
      exact ⟨rfl, HFS.out, HKP.out⟩
end Go.Proofs.YtafolokkjpbieaaDoor
