import Derived.Test.YthfgdgcdicacpaaRoJ
import Derived.Test.YthfgdgcdicacpaaOcRFJ
namespace Go.Proofs.Ythfgdgcdicacpaa
namespace Ro
open Go.RowKit Sha Oc En Adr
set_option linter.unusedVariables false
set_option linter.unusedSimpArgs false
theorem Try.cellsOct14 : Try.prog.cellsOf 63 = 3 := by kernel_rfl
def rowA : List Ap → List Value
 | [] => []
 | x :: r => cE x ++ rowA r
theorem rowA_app : ∀ (l : List Ap) (x : Ap), rowA (l ++ [x]) = rowA l ++ cE x
 | [], x => by rw [List.nil_append, rowA, rowA, rowA, List.append_nil, List.nil_append]
 | y :: r, x => by rw [List.cons_append, rowA, rowA, rowA_app r x, List.append_assoc]
theorem rowA_at : ∀ (l : List Ap) (k : Nat) (x : Ap), l[k]? = some x → ∀ j v, (cE x)[j]? = some v → (rowA l)[k * 5 + j]? = some v
 | [], k, x, h, _, _, _ => by simp at h
 | y :: r, 0, x, h, j, v, hv => by
  obtain rfl := Option.some.inj h
  have hj := (List.getElem?_eq_some_iff.1 hv).1
  rw [rowA, List.getElem?_append_left (by simpa using hj), Nat.zero_mul, Nat.zero_add]
  exact hv
 | y :: r, k + 1, x, h, j, v, hv => by
  rw [rowA, List.getElem?_append_right (by simp; omega)]
  have e : (k + 1) * 5 + j - (cE y).length = k * 5 + j := by simp; omega
  rw [e]
  exact rowA_at r k x h j v hv
theorem aps_own {w : World} {base k : Nat} {A : Option Addr} {c : Nat} {l : List Ap} (h : w.ownsRow base 75 5 (.slice A k c) k (rowA l)) : (A = none → c = 0) ∧ Aps A l w := by
 obtain ⟨h1, ⟨h2, h3⟩ | ⟨g, cap, cur, h2, h3, h4, h5, h6, h7, h8⟩⟩ := h
 ·
  cases h2
  refine ⟨fun _ => rfl, ⟨fun i x hi => ?_⟩⟩
  cases l with
  | nil => simp at hi
  | cons y r => rw [h3, rowA] at h1; simp at h1
 ·
  cases h2
  refine ⟨(fun e => by cases e), ⟨fun i x hi => ⟨g, 0, rfl, fun j v hj => ?_⟩⟩⟩
  have hp := rowA_at l i x hi j v hj
  rw [cell_of_row _ _ _ _ _ _ h4, ← Array.getElem?_toList, Nat.zero_add]
  rw [← h8, List.getElem?_take] at hp
  split at hp
  ·
   exact hp
  ·
   cases hp
theorem own_slA {w : World} {b n : Nat} {v : Value} {xs : List Value} (h : w.ownsRow b 75 5 v n xs) : ∃ A cap, v = .slice A n cap := by
 obtain ⟨_, ⟨rfl, rfl⟩ | ⟨g, cap, cur, rfl, _⟩⟩ := h
 ·
  exact ⟨_, _, rfl⟩
 ·
  exact ⟨_, cap, rfl⟩
theorem Try.info_ap : (Try.prog.info? 75).map (fun i => (i.zero, i.size, i.bytes)) = some (some (.agg #[.int .u8 0, .int .u64 0, .int .u64 0, .int .i64 0, .int .i64 0]), 5, 40) := by kernel_rfl
theorem cell_five_new (w : World) (a b c d e : Value) (t : TypeId) : ∀ j u, ([a, b, c, d, e] : List Value)[j]? = some u → (w.alloc (.cells #[a, b, c, d, e] t)).cell? ((⟨w.heap.size, 0, none⟩ : Addr).add j) = some u := fun j u hj => by
 have h := heap_alloc_new w (.cells #[a, b, c, d, e] t)
 have e2 : (⟨w.heap.size, 0, none⟩ : Addr).add j = ⟨w.heap.size, j, none⟩ := by unfold Addr.add; split <;> simp_all
 rw [e2, cell_of_row _ _ _ _ _ _ h]
 simpa using hj
theorem f21 {V : World} {M : Nat} {a b : Value} {T : TypeId} (H : V.heap[M]? = some (.cells #[a, b] T (0, 0))) : V.frozen? ⟨M, 0, none⟩ = false ∧ V.frozen? ⟨M, 1, none⟩ = false := ⟨frozen_of_row _ _ _ _ _ H, frozen_of_row _ _ _ _ _ H⟩
theorem one2 (a b : Value) (h1 : a.oneCell' = true) (h2 : b.oneCell' = true) : (#[a, b] : Array Value).all (·.oneCell') = true := by
 rw [Array.all_eq_true_iff_forall_mem]
 intro v hv
 have : v = a ∨ v = b := by simpa using hv
 rcases this with rfl | rfl
 all_goals assumption
theorem own_on14 {w V : World} {base n k : Nat} {E : TypeId} {v : Value} {xs : List Value} (h : w.ownsRow base E k v n xs) (hb : Below w.heap.size w V) : V.ownsRow base E k v n xs :=
 h.kept (row := none) ⟨hb.os, hb.tape, hb.output, hb.size, fun k hk _ => hb.block k hk⟩ (by cases v.ownBlock <;> simp)
theorem aps_set {A : Option Addr} {l : List Ap} {w : World} (h : Aps A l w) {r : Nat} (hne : ∀ g o, A = some ⟨g, o, none⟩ → g ≠ r) (vs : List Value) : Aps A l (w.setCells r 0 vs) :=
 ⟨fun k x hk => by
  obtain ⟨g, o, e, hr⟩ := h.row k x hk
  exact ⟨g, o, e, World.rangeAt_setCells_apart hr r 0 vs (.inl (hne g o e))⟩⟩
theorem grown_set14 (w : World) (b o : Nat) (v : Value) : w.grownBy (w.setCell ⟨b, o, none⟩ v) (some b) := ⟨rfl, rfl, rfl, (KeepsOthers.setCell _ _ _).size, fun k _ hk => Below.heap_setCell _ _ _ _ (fun e => hk (by rw [e]))⟩
theorem grown_row {w w' : World} {v : Value} {base M : Nat} {o : Obj} {u : World} (hg : w.grownBy w' v.ownBlock) (hlt : ∀ k, v.ownBlock = some k → base ≤ k ∧ k < u.heap.size) (hM : w.heap[M]? = some o) (hb : M < base) : w'.heap[M]? = some o :=
 (hg.block M (Array.getElem?_eq_some_iff.1 hM).1 (fun e => by have := (hlt M e.symm).1; omega)).trans hM
theorem wpList_slice_fromO {ops : Array Oper} {rest : List Oper} {o : Oper} {a : Act} {w : World} {Q : Exit → Act → World → Prop} (hgd : o.guard = none) (x : Operand) (ho : o.op = .slice 61 x (some (.const (.int .i64 1))) none none)
  (g off m c : Nat) (hx : a.eval x = .slice (some ⟨g, off, none⟩) m c) (hm : 1 ≤ m) (hc : m ≤ c)
  (h : ∀ (A' : Option Addr) (c' : Nat), (A' = some ⟨g, off + 3, none⟩ ∨ m = 1) → wpList Try.prog ops Q rest (a.put o.dst (.slice A' (m - 1) c')) w) : wpList Try.prog ops Q (o :: rest) a w := by
 refine wpList_plain hgd fun K hK => ?_
 have t1 : (1 : Int) ≤ (m : Int) := by omega
 have t2 : (m : Int) ≤ (c : Int) := by omega
 by_cases hc1 : c = 1
 ·
  have hm1 : m = 1 := by omega
  subst hc1 hm1
  have h1 := h (some ⟨g, off, none⟩) 0 (.inr rfl)
  unfold Oper.wp execOp
  simp only [ho, hx, Option.map_some, Option.map_none]
  simp [Instr.sliceAt, Try.underlying61, go_sem]
  exact hK _ _ h1
 ·
  have hc2 : ¬ c - 1 = 0 := by omega
  have h1 := h (some ⟨g, off + 3, none⟩) (c - 1) (.inl rfl)
  unfold Oper.wp execOp
  simp only [ho, hx, Option.map_some, Option.map_none]
  simp [Instr.sliceAt, Try.underlying61, go_sem, t1, t2, hc2, Try.cellsOct14]
  rw [if_neg hc1]
  exact hK _ _ h1
def RdPost (v : Oct) (w : World) (e : Ending) (w' : World) : Prop := ∃ (a : Ra) (A : Option Addr) (c : Nat) (E : Int), e = .returned (.tuple #[.agg #[.int .u32 a.sy, .slice A a.ps.length c], .int .i64 E]) ∧ (E = 0 ↔ RaG v) ∧ (RaG v → a = raO v) ∧ (A = none → c = 0) ∧ (∀ g o, A = some ⟨g, o, none⟩ → w.heap.size ≤ g) ∧ Aps A a.ps w' ∧ Below w.heap.size w w'
theorem aps_nil (A : Option Addr) (w : World) : Aps A [] w := ⟨fun i x hi => by simp at hi⟩
theorem sz2r (a b : Value) : (Try.prog.info? 25).map (·.size) = some ([a, b] : List Value).length := by
 show _ = some 2
 kernel_rfl
set_option maxRecDepth 100000 in
set_option maxHeartbeats 4000000 in
theorem read_any (v : Oct) (hcn : cnt v ≤ 5000) (htt : tot v ≤ 100000) (w : World) (x y : Value) (hat : At (fun _ => True) w v x y) :
  Calls Try.prog 28 #[.agg (cell3 v x y)] w (RdPost v w) := by
 obtain ⟨i0, hi, hz0, hz1, hz2⟩ := info_parts Try.info_ap
 have HI := Lib.hid hi
 obtain ⟨t, b, l⟩ := v
 have HSM : RowKit.Hid (∀ o ∈ l, cnt o ≤ 5000 ∧ tot o ≤ 100000) := Lib.hid (fun o ho => by
  have h1 := cnt_le l o ho
  have h2 := tot_le l o ho
  rw [cnt] at hcn
  rw [tot] at htt
  omega)
 have HRQ := Lib.hid (fun (V : World) (hb : Below w.heap.size w V) => readseq_any t b l 128 1 101 hcn htt V x y (hat.on hb))
 obtain ⟨yes, hyes⟩ : ∃ yes, yes = rdQ t 128 b.length l.length 1 101 := ⟨_, rfl⟩
 have HYES := Lib.hid hyes
 rw [← hyes] at HRQ
 obtain ⟨L, hL⟩ : ∃ L, L = if yes = true then l else [] := ⟨_, rfl⟩
 have HL := Lib.hid hL
 have HLI : RowKit.Hid (RowKit.Hid (yes = true) → L = l ∧ 1 ≤ L.length ∧ L.length ≤ 101) := Lib.hid (fun hy => by
  have h2 := of_decide_eq_true (hyes.symm.trans hy.out)
  have e : L = l := by rw [hL, if_pos hy.out]
  exact ⟨e, by rw [e]; omega, by rw [e]; omega⟩)
 unfold RsPost at HRQ
 obtain ⟨A, m, c, B, n, d, rfl, rfl⟩ := hat.slices
 have HX0 := Lib.hid (heap_alloc2_oldR w (.cells #[.int .u8 ((tagO (Oct.mk t b l)).toNat : Int), .slice A m c, .slice B n d] 63) (.cells #[.int .u32 0, .slice none 0 0] 25))
 have HO0 := Lib.hid (heap_alloc2_newR w (.cells #[.int .u8 ((tagO (Oct.mk t b l)).toNat : Int), .slice A m c, .slice B n d] 63) (.cells #[.int .u32 0, .slice none 0 0] 25))
 have HB0 := Lib.hid ((below_new w (.cells #[.int .u8 ((tagO (Oct.mk t b l)).toNat : Int), .slice A m c, .slice B n d] 63)).alloc (by simp) (.cells #[.int .u32 0, .slice none 0 0] 25))
 unfold cell3 at HRQ ⊢
 generalize ((tagO (Oct.mk t b l)).toNat : Int) = tz at HX0 HO0 HB0 HRQ ⊢
 clear hyes hL hat hcn htt hi
 go_enter Try.func28, Try.ntmps28
 go_upto_region 1 with (fail)
 generalize hV : World.alloc (World.alloc w _) _ = V at HX0 HO0 HB0 ⊢
 clear hV
 obtain ⟨hlt, ⟨hf0, hf1, hf2⟩, c0, c1, c2⟩ := (show w.heap.size < V.heap.size ∧ _ from ⟨(Array.getElem?_eq_some_iff.1 HX0.out).1, facts3 HX0.out⟩)
 go_wp2_with fail
 refine (HRQ.out V HB0.out).mono ?_
 rintro e W0 ⟨v0, rfl, hat0, hb⟩
 have HBW0 := Lib.hid (chain HB0.out hb)
 have HOW0 := Lib.hid (row_on HO0.out hb)
 rw [← HL.out] at hat0
 obtain ⟨A0, c0', B0, d0, g, off, vb, vl, ea, rfl, _, _, _, _, _, hnd0, hdn0, hels⟩ := (hat0.any.lower (Nat.le_refl W0.heap.size)).elsR
 have HEL0 := Lib.hid hels
 have HND := Lib.hid hnd0
 obtain ⟨n0, hn0⟩ : ∃ n0, L.length = n0 := ⟨_, rfl⟩
 have HLN := Lib.hid hn0
 rw [hn0]
 obtain ⟨e0, he0⟩ : ∃ e0 : Int, (if yes = true then (0 : Int) else 12) = e0 := ⟨_, rfl⟩
 have HGA0 : RowKit.Hid (e0 = 0 ↔ yes = true) := Lib.hid (by
  rw [← he0]
  cases yes
  ·
   exact ⟨fun h => absurd h (by decide), fun h => absurd h (by decide)⟩
  ·
   exact ⟨fun _ => rfl, fun _ => rfl⟩)
 rw [he0]
 clear hb hat0 ea hels hn0 he0 hlt hf0 hf1 hf2 c0 c1 c2 hnd0 hdn0
 go_upto_region 2 with (fail)
 generalize hV1 : World.alloc W0 _ = V1
 obtain ⟨E, hE⟩ : ∃ E, W0.heap.size = E := ⟨_, rfl⟩
 have HEE := Lib.hid (show V1.heap[E]? = some (.cells #[.int .i64 e0] 28 (0, 0)) by rw [← hV1, ← hE]; exact heap_alloc_new _ _)
 have HV1 := Lib.hid (show Below W0.heap.size W0 V1 by rw [← hV1]; exact below_new _ _)
 have HEN := Lib.hid hE
 try simp only [hE]
 clear hV1 hE
 go_wp2_with fail
 refine (reader_any B0 n0 d0 E V1).mono ?_
 rintro e VR ⟨EB, VB, AT, rfl, r1, r2, r3, q1, q2, q3, q4, q5, hb⟩
 have HS0 : RowKit.Hid (Rst W0.heap.size W0 E EB VB AT (.slice B0 n0 d0) 0 e0 VR) := Lib.hid (by
  have hlt := (Array.getElem?_eq_some_iff.1 HEE.out).1
  have hen := HEN.out
  have hsz := HV1.out.size
  exact ⟨chain HV1.out hb, row_on HEE.out hb, r1, r2, r3, by omega, by omega, by omega, by omega, by omega, q4, q5⟩)
 clear r1 r2 r3 q1 q2 q3 q4 q5 hb HEE HV1
 go_wp2_with fail
 refine (next_any 4294967295 0 (by decide) HLN.out HEL0.out HS0.out HGA0.out (fun _ => rfl) (fun h => ⟨_, List.getElem?_eq_getElem (show 0 < L.length from (HLI.out (Lib.hid h)).2.1)⟩) HS0.out.bel.size).mono ?_
 rintro e V10 ⟨x0, k1, e1, rfl, hs, hga, hgb⟩
 have HS1 := Lib.hid hs
 have HGA1 := Lib.hid hga
 have HXX := Lib.hid (fun h => (hgb h).2)
 clear hs hga hgb
 go_upto_region 4 with (fail)
 obtain ⟨X, hX⟩ : ∃ X, x0 % 4294967296 = X := ⟨_, rfl⟩
 have HX := Lib.hid hX
 try simp only [hX]
 clear hX
 generalize hVM : World.alloc V10 _ = VM
 obtain ⟨M, hM⟩ : ∃ M, V10.heap.size = M := ⟨_, rfl⟩
 have HMM := Lib.hid (show VM.heap[M]? = some (.cells #[.int .u32 X, .slice none 0 0] 25 (0, 0)) by rw [← hVM, ← hM]; exact heap_alloc_new _ _)
 have HBM := Lib.hid (show Below V10.heap.size V10 VM by rw [← hVM]; exact below_new _ _)
 try simp only [hM]
 have HS2 := Lib.hid (HS1.out.on HS1.out.bel.size HBM.out)
 have HN0 := Lib.hid (Array.getElem?_eq_some_iff.1 HOW0.out).1
 have HMN := Lib.hid (show W0.heap.size ≤ M by rw [← hM]; exact HS1.out.bel.size)
 have HOM := Lib.hid (show VM.heap[w.heap.size + 1]? = some (.cells #[.int .u32 0, .slice none 0 0] 25 (0, 0)) from (HS2.out.bel.block _ HN0.out).trans HOW0.out)
 have HBWM := Lib.hid (below_low14 HBW0.out HBW0.out.size HS2.out.bel)
 clear hVM hM HBM
 have hcE := c10 HS2.out.rE
 have hlE := (Array.getElem?_eq_some_iff.1 HS2.out.rE).1
 by_cases h1 : e1 = 0
 rotate_left
 ·
  have i1 : (e1 != 0) = true := by rw [bne_iff_ne]; exact h1
  have H1 := Lib.hid h1
  have HNR : RowKit.Hid (¬ RaG (.mk t b l)) := Lib.hid (fun h => h1 (HGA1.out.2 (by
   have hy : yes = true := HYES.out.trans h.1
   exact ⟨hy, by rw [(HLI.out (Lib.hid hy)).1]; exact h.2.1⟩)))
  clear h1
  go_wp2_with fail
  clear hcE hlE
  have mkS : ∀ z, Below VM.heap.size VM z → (fun (z : World) => z.cell? ⟨E, 0, none⟩ = some (.int .i64 e1)) z := fun z hz => c10 (row_on HS2.out.rE hz)
  refine wp_region_held_drew (S := fun (z : World) => z.cell? ⟨E, 0, none⟩ = some (.int .i64 e1)) (by kernel_rfl) (mkS _ (Below.refl _ _).drew) (fun hHeld => ?_)
  generalize hU : World.drew VM = U5 at hHeld ⊢
  have HBC := Lib.hid (show Below VM.heap.size VM U5 by rw [← hU]; exact (Below.refl _ _).drew)
  clear hU
  refine wpAnyH_take (i := 0) (oi := { dst := some 25, op := .build 25 #[], type := 25, pos := "code.go:42", after := #[], guard := none }) (v := ?_) rfl (by kernel_rfl) (by kernel_rfl) (by kernel_rfl) (fun _ _ _ h => h) (Or.inl ⟨by rfl, ?_⟩) hHeld ?_
  rotate_left
  ·
   intro w hSw
   clear hSw
   go_simp
   try with_reducible rfl
  try simp only [Act.put, List.setIfInBounds_toArray, List.set_cons_zero, List.set_cons_succ]
  refine wpAnyH_take (i := 1) (oi := { dst := some 26, op := .load 28 (.tmp 5), type := 28, pos := "code.go:42", after := #[{ on := 2, ground := .gcOnly .lateStores }], guard := none }) (v := ?_) rfl (by kernel_rfl) (by kernel_rfl) (by kernel_rfl) (fun _ _ _ h => h) (Or.inl ⟨by rfl, ?_⟩) hHeld ?_
  rotate_left
  ·
   intro w hSw
   have hfc0 := hSw
   clear hSw
   go_simp
   try with_reducible rfl
  try simp only [Act.put, List.setIfInBounds_toArray, List.set_cons_zero, List.set_cons_succ]
  refine wpAnyH_ready (rs := [2]) (by kernel_rfl) (by simp) (AllReadyH.cons (o := { dst := none, op := .store 25 (.tmp 2) (.tmp 25), type := 0, pos := "code.go:42", after := #[{ on := 0, ground := .data }, { on := 0, ground := .phase }, { on := 1, ground := .textOnly .lateStores }], guard := none }) rfl (fun K hK => ?_) AllReadyH.nil)
  try rw [if_pos (by rfl)]
  have HO9 := Lib.hid (row_on HOM.out HBC.out)
  have HW9 := Lib.hid (chain HBWM.out HBC.out)
  obtain ⟨z3, hz3⟩ : ∃ z3, World.setCells U5 (w.heap.size + 1) 0 (#[.int .u32 0, .slice none 0 0] : Array Value).toList = z3 := ⟨_, rfl⟩
  refine wp_store_as 25 (.tmp 2) (.tmp 25) rfl (w.heap.size + 1) 0 #[.int .u32 0, .slice none 0 0] rfl rfl (there_row HO9.out 2 (show 2 ≤ 2 by decide)) (sz2r _ _) (one2 _ _ rfl rfl) z3 hz3 ?_
  have hrw := row_setCells HO9.out (cs := #[.int .u32 0, .slice none 0 0]) rfl
  have hbl := below_setCells (#[.int .u32 0, .slice none 0 0] : Array Value).toList 0 U5 HW9.out (show w.heap.size ≤ w.heap.size + 1 by omega)
  rw [hz3] at hrw hbl
  have HEZ := Lib.hid (keep_set hz3 (row_on HS2.out.rE HBC.out) (show E ≠ w.heap.size + 1 by have := HS2.out.nE; have := HN0.out; omega))
  refine hK.out _ _ (c10 HEZ.out) (fun hHeld2 => ?_)
  clear hK K hHeld
  have hHeld := hHeld2
  clear hHeld2
  try simp only [Act.put, List.setIfInBounds_toArray, List.set_cons_zero, List.set_cons_succ]
  refine wpAnyH_take (i := 3) (oi := { dst := some 3, op := .assign (.tmp 26), type := 28, pos := "code.go:42", after := #[{ on := 1, ground := .data }, { on := 2, ground := .chain }, { on := 0, ground := .phase }, { on := 1, ground := .phase }, { on := 2, ground := .phase }], guard := none }) (v := ?_) rfl (by kernel_rfl) (by kernel_rfl) (by kernel_rfl) (fun _ _ _ h => h) (Or.inl ⟨by rfl, ?_⟩) hHeld ?_
  rotate_left
  ·
   intro w hSw
   clear hSw
   go_simp
   try with_reducible rfl
  try simp only [Act.put, List.setIfInBounds_toArray, List.set_cons_zero, List.set_cons_succ]
  refine wpAnyH_done (by kernel_rfl) ?_ _
  have HRW := Lib.hid hrw
  have HBL := Lib.hid hbl
  clear hrw hbl hz3
  go_wp2_with fail
  refine bodyPost_ret (v := .tuple #[.agg #[.int .u32 0, .slice none 0 0], .int .i64 e1]) (results_ctr rfl _ _ (w.heap.size + 1) 25 _ (0, 0) _ rfl HRW.out Try.underlying25 rfl (sz2r _ _) _ rfl) rfl ?_
  exact ⟨ra0, none, 0, e1, rfl, ⟨fun h => absurd h H1.out, fun h => absurd h HNR.out⟩, fun h => absurd h HNR.out, fun _ => rfl, (fun g o e => by cases e), aps_nil _ _, HBL.out⟩
 ·
  have hg1 := HGA1.out.1 h1
  have hx0 := (HXX.out h1)
  subst h1
  have hli := HLI.out (Lib.hid hg1.1)
  have HLL := Lib.hid hli.1
  have hn1 : 1 ≤ n0 := by rw [← HLN.out]; exact hli.2.1
  have hn2 : n0 ≤ 101 := by rw [← HLN.out]; exact hli.2.2
  have hBB := (HEL0.out.hB (fun e => by rw [e] at hli; simp at hli)).1
  subst hBB
  have HG1 := Lib.hid hg1
  have HN1 := Lib.hid hn1
  have HN2 := Lib.hid hn2
  have HXV := Lib.hid (show X = (numX (L.getD 0 nilO) : Int) by
   have hb := (num_of hg1.2).2.1
   rw [← HX.out, hx0]
   have h0 : (0 : Int) ≤ (numX (L.getD 0 nilO) : Int) := Int.natCast_nonneg _
   omega)
  have hdn : n0 ≤ d0 := by rw [← HLN.out]; exact HND.out
  clear hg1 hx0 hli
  go_wp2_with (refine wpList_slice_fromO rfl (.tmp 27) rfl g off n0 d0 rfl hn1 hdn ?_; intro A7 c7 h7; have H7 := Lib.hid h7; clear h7)
  clear hcE hlE
  obtain ⟨m1, hm1⟩ : ∃ m1, n0 - 1 = m1 := ⟨_, rfl⟩
  have HM1 := Lib.hid hm1
  have hm2 : m1 ≤ 100 := by omega
  try simp only [hm1]
  clear hm1 hn1 hn2 hdn
  go_loopw [9, 10, 11, 30] (fun _ _ _ i wr => ∃ (k : Nat) (ys : List Ap) (va : Value), k ≤ m1 ∧ i = .int .i64 (k : Int) ∧ RowKit.Hid (ys = (L.tail.take k).map apO ∧ ys.length = k ∧ ∀ o ∈ L.tail.take k, ApG o) ∧ RowKit.Hid (wr.heap[M]? = some (.cells #[.int .u32 X, va] 25 (0, 0))) ∧ RowKit.Hid (wr.ownsRow VM.heap.size 75 5 va k (rowA ys)) ∧ RowKit.Hid (Below W0.heap.size W0 wr ∧ VM.heap.size ≤ wr.heap.size)) (fun _ _ _ i _ => m1 - (intOf i).toNat)
  case atStart => exact ⟨0, [], .slice none 0 0, by omega, rfl, Lib.hid ⟨by rw [List.take_zero]; rfl, rfl, fun o ho => by rw [List.take_zero] at ho; cases ho⟩, HMM, Lib.hid ⟨rfl, .inl ⟨rfl, rfl⟩⟩, Lib.hid ⟨HS2.out.bel, Nat.le_refl _⟩⟩
  case round =>
   obtain ⟨k, ys, va, hk, rfl, HYS, HM, HO, HB⟩ := hrel
   by_cases hlt : k < m1
   ·
    have hki : (k : Int) < (m1 : Int) := by omega
    have h7 : A7 = some ⟨g, off + 3, none⟩ := by
     rcases H7.out with h | h
     ·
      exact h
     ·
      have := HM1.out; omega
    subst h7
    obtain ⟨o, ho⟩ : ∃ o, L[k + 1]? = some o := ⟨_, List.getElem?_eq_getElem (by rw [HLN.out]; have := HM1.out; omega)⟩
    have htk : L.tail.take (k + 1) = L.tail.take k ++ [o] := by
     rw [List.take_add_one, List.getElem?_tail, ho]
     rfl
    have hV := HEL0.out.low HB.out.1
    have e0 := hV.h0 (k + 1) o ho
    have e1 := hV.h1 (k + 1) o ho
    have e2 := hV.h2 (k + 1) o ho
    have hat := hV.hr (k + 1) o ho
    have e3 : off + (k + 1) * 3 = off + 3 + k * 3 := by omega
    rw [e3] at e0 e1 e2
    obtain ⟨A1, m9, c1, B1, n9, d1, u1, u2⟩ := hat.slices
    rw [u1] at e1 hat
    rw [u2] at e2 hat
    have hsm := HSM.out o (by rw [← HLL.out]; exact List.mem_of_getElem? ho)
    have hre := fun (z : World) (hz : Below wr.heap.size wr z) => readel_any o hsm.1 hsm.2 z _ _ (hat.any.on hz)
    unfold RePost cell3 at hre
    have HRE := Lib.hid hre
    have HTK := Lib.hid htk
    have HLT := Lib.hid hlt
    generalize ((tagO o).toNat : Int) = t1 at HRE e0
    clear hre htk hV hat e3 u1 u2 hsm hlt
    go_wp2_with fail
    refine (HRE.out _ (below_new _ _)).mono ?_
    rintro e w2 ⟨⟨yf, yh, yl, yn, ym⟩, E2, rfl, h21, h22, hb2⟩
    have hbw : Below wr.heap.size wr w2 := (below_new wr _).trans (hb2.mono (by simp))
    have HBW := Lib.hid hbw
    have H21 := Lib.hid h21
    have H22 := Lib.hid h22
    have HOR := Lib.hid (show w2.heap[w.heap.size + 1]? = some (.cells #[.int .u32 0, .slice none 0 0] 25 (0, 0)) from row_on ((HB.out.1.block _ HN0.out).trans HOW0.out) hbw)
    have HMW := Lib.hid (row_on HM.out hbw)
    clear hb2 h21 h22 hbw e0 e1 e2
    by_cases h2 : E2 = 0
    ·
     have hap := H21.out.1 h2
     have hy := H22.out hap
     have HY := Lib.hid hy
     have HAP := Lib.hid hap
     subst h2
     clear hap hy
     obtain ⟨hltM, hM0, hM1⟩ := facts2 HMW.out
     go_wp2_with (at_builtin; go_loud (refine wpList_append_own_at _ rfl (.tmp 44) (.tmp 46) 23 rfl VM.heap.size 75 i0 (.agg #[.int .u8 0, .int .u64 0, .int .u64 0, .int .i64 0, .int .i64 0]) 5 40 Try.underlying23 HI.out hz0 hz1 hz2 rfl (by decide) _ _ _ rfl (((own_on14 HO.out HBW.out).alloc _).alloc _) ⟨w2.heap.size + 1, 0, none⟩ 1 1 [.int .u8 yf, .int .u64 yh, .int .u64 yl, .int .i64 yn, .int .i64 ym] rfl rfl (by have h9 := cell_five_new (w2.alloc (.cells #[.int .u8 yf, .int .u64 yh, .int .u64 yl, .int .i64 yn, .int .i64 ym] 75)) (.int .u8 yf) (.int .u64 yh) (.int .u64 yl) (.int .i64 yn) (.int .i64 ym) 75; simpa using h9) (by simp [Value.oneCell']) (by have := HLT.out; have := hm2; unfold maxLen; omega) (by have := HLT.out; have := hm2; omega) (by have h8 := HB.out.2; have h9 := HBW.out.size; simp; omega) ?_); intro v' w5 hown5 hgrow5 _ hloc5; obtain ⟨A5, c5, rfl⟩ := own_slA hown5; have HO5 := Lib.hid hown5; have HG5 := Lib.hid hgrow5; go_loud (have hM5 := grown_row hgrow5 (HO.out.lt) (row_on (row_on HMW.out (below_new _ _)) (below_new _ _)) (Array.getElem?_eq_some_iff.1 HMM.out).1); have HM5 := Lib.hid hM5; clear hown5 hgrow5 hloc5 hM0 hM1 hltM; go_loud (obtain ⟨hltM, hM0, hM1⟩ := facts2 hM5); have hMf1 := (f21 hM5).2; clear hM5)
     have hsz0 : W0.heap.size ≤ VM.heap.size := HS2.out.bel.size
     have hszr := HB.out.2
     have hlo := HO.out.lt
     have hszw := HBW.out.size
     have hbw5 := ((((HB.out.1.trans (HBW.out.mono HB.out.1.size)).alloc (by omega) (.cells #[.int .u8 yf, .int .u64 yh, .int .u64 yl, .int .i64 yn, .int .i64 ym] 75)).alloc (by simp; omega) (.cells #[.int .u8 yf, .int .u64 yh, .int .u64 yl, .int .i64 yn, .int .i64 ym] 75)).grown HG5.out (by simp; omega) (fun j hj => Nat.le_trans hsz0 (hlo j hj).1))
     have hsz5 : VM.heap.size ≤ w5.heap.size := by have := HG5.out.size; simp at this; omega
     have hMlt := (Array.getElem?_eq_some_iff.1 HMM.out).1
     have HMS : RowKit.Hid ((w5.setCell ⟨M, 1, none⟩ (.slice A5 (k + 1) c5)).heap[M]? = some (.cells #[.int .u32 X, .slice A5 (k + 1) c5] 25 (0, 0))) := Lib.hid (heap_setCell_same _ _ _ _ _ _ HM5.out)
     have HOS := Lib.hid (HO5.out.kept (row := some M) (grown_set14 w5 M 1 (.slice A5 (k + 1) c5)) (.inr (fun e => by have := (HO5.out.lt M e).1; omega)))
     have HBS : RowKit.Hid (Below W0.heap.size W0 (w5.setCell ⟨M, 1, none⟩ (.slice A5 (k + 1) c5)) ∧ VM.heap.size ≤ (w5.setCell ⟨M, 1, none⟩ (.slice A5 (k + 1) c5)).heap.size) := Lib.hid ⟨hbw5.setCell HMN.out _, by simp [World.setCell]; exact hsz5⟩
     clear hsz0 hszr hlo hszw hbw5 hsz5 hMlt hltM hM0 hM1 hMf1
     generalize World.setCell w5 _ _ = W9 at HMS HOS HBS ⊢
     go_wp2_with fail
     refine ⟨⟨k + 1, ys ++ [⟨yf, yh, yl, yn, ym⟩], _, by have := HLT.out; omega, by go_num, Lib.hid ⟨?_, ?_, ?_⟩, HMS, Lib.hid (by rw [rowA_app]; exact HOS.out), HBS⟩, by have := HLT.out; simp [intOf]; omega⟩
     ·
      rw [HTK.out, List.map_append, ← HYS.out.1, HY.out]
      rfl
     ·
      rw [List.length_append, HYS.out.2.1]
      rfl
     ·
      intro o' ho'
      rw [HTK.out] at ho'
      rcases List.mem_append.1 ho' with h | h
      ·
       exact HYS.out.2.2 o' h
      ·
       obtain rfl : o' = o := by simpa using h
       exact HAP.out
    ·
     have i2 : (E2 != 0) = true := by rw [bne_iff_ne]; exact h2
     have HE2 := Lib.hid h2
     have HNR : RowKit.Hid (¬ RaG (.mk t b l)) := Lib.hid (fun h => h2 (H21.out.2 (h.2.2 o (by
      have h9 : o ∈ L.tail := List.mem_of_getElem? (by rw [List.getElem?_tail]; exact ho)
      rw [HLL.out] at h9
      exact h9))))
     obtain ⟨hlR, r0, r1⟩ := facts2 HOR.out
     obtain ⟨f0, f1⟩ := f21 HOR.out
     clear h2
     go_wp2_with fail
     have hrw := row_setCells HOR.out (cs := #[.int .u32 0, .slice none 0 0]) rfl
     have hbl := below_setCells (#[.int .u32 0, .slice none 0 0] : Array Value).toList 0 w2 (below_low14 HBW0.out HBW0.out.size (HB.out.1.trans (HBW.out.mono HB.out.1.size))) (show w.heap.size ≤ w.heap.size + 1 by omega)
     have e9 : ∀ a b : Value, (w2.setCell ⟨w.heap.size + 1, 0, none⟩ a).setCell ⟨w.heap.size + 1, 1, none⟩ b = w2.setCells (w.heap.size + 1) 0 (#[a, b] : Array Value).toList := fun _ _ => rfl
     rw [e9]
     generalize World.setCells w2 _ _ _ = W9 at hrw hbl ⊢
     refine bodyPost_ret (v := .tuple #[.agg #[.int .u32 0, .slice none 0 0], .int .i64 E2]) (results_ctr rfl _ _ (w.heap.size + 1) 25 _ (0, 0) _ rfl (row_on hrw (below_new _ _)) Try.underlying25 rfl (sz2r _ _) _ rfl) rfl ?_
     exact ⟨ra0, none, 0, E2, rfl, ⟨fun h => absurd h HE2.out, fun h => absurd h HNR.out⟩, fun h => absurd h HNR.out, fun _ => rfl, (fun g o e => by cases e), aps_nil _ _, hbl.alloc hbl.size _⟩
   ·
    have hkk : k = m1 := by omega
    have hki : ¬ (k : Int) < (m1 : Int) := by omega
    obtain ⟨A5, c5, rfl⟩ := own_slA HO.out
    have HRA : RowKit.Hid (RaG (.mk t b l) ∧ (⟨X, ys⟩ : Ra) = raO (.mk t b l)) := Lib.hid (by
     have htl : L.tail.take k = L.tail := List.take_of_length_le (by rw [List.length_tail, HLN.out]; have := HM1.out; omega)
     have h1 := HYS.out.1
     have h3 := HYS.out.2.2
     rw [htl] at h1 h3
     have hy : yes = true := HG1.out.1
     have hq : SeqG 128 1 101 (.mk t b l) := by unfold SeqG; exact HYES.out.symm.trans hy
     have e : L = kids (.mk t b l) := HLL.out
     have hg := HG1.out.2
     refine ⟨⟨hq, ?_, ?_⟩, ?_⟩
     ·
      unfold kid
      rw [← e]
      exact hg
     ·
      rw [← e]
      exact h3
     ·
      unfold raO kid
      rw [← e, ← h1, HXV.out])
    have HLY := Lib.hid HYS.out.2.1
    have HOR := Lib.hid (show wr.heap[w.heap.size + 1]? = some (.cells #[.int .u32 0, .slice none 0 0] 25 (0, 0)) from (HB.out.1.block _ HN0.out).trans HOW0.out)
    obtain ⟨hlR, r0, r1⟩ := facts2 HOR.out
    obtain ⟨f0, f1⟩ := f21 HOR.out
    obtain ⟨hltM, hM0, hM1⟩ := facts2 HM.out
    clear hkk
    go_wp2_with fail
    have hrw := row_setCells HOR.out (cs := #[.int .u32 X, .slice A5 k c5]) rfl
    have hbl := below_setCells (#[.int .u32 X, .slice A5 k c5] : Array Value).toList 0 wr (below_low14 HBW0.out HBW0.out.size HB.out.1) (show w.heap.size ≤ w.heap.size + 1 by omega)
    have hap := aps_own HO.out
    have has := aps_set hap.2 (r := w.heap.size + 1) (fun g' o' e => by
     have h1 := (HO.out.lt g' (by rw [e]; rfl)).1
     have h2 := HN0.out
     have h3 := HS2.out.bel.size
     omega) (#[.int .u32 X, .slice A5 k c5] : Array Value).toList
    have e9 : ∀ a b : Value, (wr.setCell ⟨w.heap.size + 1, 0, none⟩ a).setCell ⟨w.heap.size + 1, 1, none⟩ b = wr.setCells (w.heap.size + 1) 0 (#[a, b] : Array Value).toList := fun _ _ => rfl
    rw [e9]
    generalize World.setCells wr _ _ _ = W9 at hrw hbl has ⊢
    refine bodyPost_ret (v := .tuple #[.agg #[.int .u32 X, .slice A5 k c5], .int .i64 0]) (results_ctr rfl _ _ (w.heap.size + 1) 25 _ (0, 0) _ rfl hrw Try.underlying25 rfl (sz2r _ _) _ rfl) rfl ?_
    exact ⟨⟨X, ys⟩, A5, c5, 0, by rw [HLY.out], ⟨fun _ => HRA.out.1, fun _ => rfl⟩, fun _ => HRA.out.2, hap.1, (fun g' o' e => by have h1 := (HO.out.lt g' (by rw [e]; rfl)).1; have h2 := HN0.out; have h3 := HS2.out.bel.size; omega), has, hbl⟩
end Ro
end Go.Proofs.Ythfgdgcdicacpaa
