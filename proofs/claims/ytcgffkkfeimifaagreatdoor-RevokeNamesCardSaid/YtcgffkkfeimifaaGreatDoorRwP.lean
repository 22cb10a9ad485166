import Derived.Test.YtcgffkkfeimifaaGreatDoorRwO
import Derived.Test.YtcgffkkfeimifaaGreatDoorRwQ
import Derived.Lib.MinMax
import Derived.Deep.RegionHeld3
namespace Go.Proofs.YtcgffkkfeimifaaGreatDoor
open Go.RowKit Sha Ots
set_option linter.unusedVariables false
set_option linter.unusedSimpArgs false
namespace Sg
open Oc Fast
def upto (k : Nat) : List Int := (List.range k).map fun (i : Nat) => (i : Int) + 1
theorem upto_succ (k : Nat) : upto (k + 1) = upto k ++ [(k : Int) + 1] := by
 unfold upto
 rw [List.range_succ, List.map_append]
 rfl
theorem upto_len (k : Nat) : (upto k).length = k := by
 unfold upto
 rw [List.length_map, List.length_range]
theorem upto_ok : rvC { exL with ser := upto 500 } = 0 := by kernel_rfl
theorem upto_many : rvC { exL with ser := upto 500 ++ [1000] } = 4 := by kernel_rfl
theorem ser_none : rvC { exL with ser := [] } = 0 := by decide
theorem ser_zero : rvC { exL with ser := [0] } = 8 := by decide
theorem ser_one : rvC { exL with ser := [1] } = 0 := by decide
theorem ser_down : rvC { exL with ser := [2, 1] } = 8 := by decide
theorem ser_same : rvC { exL with ser := [1, 1] } = 8 := by decide
theorem ser_most : rvC { exL with ser := [18446744073709551615] } = 0 := by decide
theorem wpList_append_u {w : World} {ops : Array Oper} {rest : List Oper} {o : Oper} {a : Act} {Q : Exit → Act → World → Prop} (hg : o.guard = none) (s x : Operand)
  (ho : o.op = .call { callee := .builtin .append, args := #[s, x], argTypes := #[22, 22] }) (base : Nat) (v : Value) (n : Nat) (xs : List Value) (hs : a.eval s = v) (hown : w.ownsRow base 23 1 v n xs)
  (Y : Nat) (X : Int) (hx : a.eval x = .slice (some ⟨Y, 0, none⟩) 1 1) (hc : w.cell? ⟨Y, 0, none⟩ = some (.int .u64 X)) (h63 : n < 5000) (hbase : base ≤ w.heap.size)
  (h : ∀ v' w', w'.ownsRow base 23 1 v' (n + 1) (xs ++ [.int .u64 X]) → w.grownBy w' v.ownBlock → wpList Tryz.prog ops Q rest (a.put o.dst v') w') : wpList Tryz.prog ops Q (o :: rest) a w :=
 wpList_plain hg fun K hK => wp_append_u s x ho base v n xs hs hown Y X hx hc h63 hbase (fun v' w' h1 h2 => hK _ _ (h v' w' h1 h2))
theorem wpList_append_uw {w : World} {ops : Array Oper} {rest : List Oper} {o : Oper} {a : Act} {Q : Exit → Act → World → Prop} (hw : Region.wanted o (yielded ops a.tmps) = true) (s x : Operand)
  (ho : o.op = .call { callee := .builtin .append, args := #[s, x], argTypes := #[22, 22] }) (base : Nat) (v : Value) (n : Nat) (xs : List Value) (hs : a.eval s = v) (hown : w.ownsRow base 23 1 v n xs)
  (Y : Nat) (X : Int) (hx : a.eval x = .slice (some ⟨Y, 0, none⟩) 1 1) (hc : w.cell? ⟨Y, 0, none⟩ = some (.int .u64 X)) (h63 : n < 5000) (hbase : base ≤ w.heap.size)
  (h : ∀ v' w', w'.ownsRow base 23 1 v' (n + 1) (xs ++ [.int .u64 X]) → w.grownBy w' v.ownBlock → wpList Tryz.prog ops Q rest (a.put o.dst v') w') : wpList Tryz.prog ops Q (o :: rest) a w :=
 wpList_step fun K hK => by
  simp only [hw, if_true]
  exact wp_append_u s x ho base v n xs hs hown Y X hx hc h63 hbase (fun v' w' h1 h2 => hK _ _ (h v' w' h1 h2))
theorem made34 : (madeCells (Value.agg (bcells (List.replicate 16 0))).cells (34 * 16)).toList = bvals ((List.replicate 34 (List.replicate 16 (0 : UInt8))).flatten) := by kernel_rfl
theorem nums_lit1 {w : World} {Y : Nat} {a : Int} {T : TypeId} {fr : Nat × Nat} (h : w.heap[Y]? = some (.cells #[.int .u64 a] T fr)) : Nums (some ⟨Y, 0, none⟩) [a] w := ⟨fun i x hi => ⟨Y, 0, rfl, by
 match i, hi with
 | 0, hi => obtain rfl := Option.some.inj hi; exact cell_of_row _ _ _ _ _ _ h
 | i + 1, hi => exact absurd hi (by simp)⟩⟩
theorem nums_lit2 {w : World} {Y : Nat} {a b : Int} {T : TypeId} {fr : Nat × Nat} (h : w.heap[Y]? = some (.cells #[.int .u64 a, .int .u64 b] T fr)) : Nums (some ⟨Y, 0, none⟩) [a, b] w := ⟨fun i x hi => ⟨Y, 0, rfl, by
 match i, hi with
 | 0, hi => obtain rfl := Option.some.inj hi; exact cell_of_row _ _ _ _ _ _ h
 | 1, hi => obtain rfl := Option.some.inj hi; exact cell_of_row _ _ _ _ _ _ h
 | i + 2, hi => exact absurd hi (by simp)⟩⟩
set_option maxRecDepth 100000 in
set_option maxHeartbeats 4000000 in
theorem names_any (w : World) (env : DEnv w) : Calls Tryz.prog 3 #[] w fun e w' => e = .returned (.bool true) ∧ Below w.heap.size w w' := by
 have HW := Lib.hid (fun (xs : List Int) (A : Option Addr) (c : Nat) (hl : xs.length ≤ 1000000) (V : World) (h : Nums A xs V) => with_any xs A c hl V h)
 have HEX := Lib.hid (fun (V : World) => example_any V)
 have HE := Lib.hid (fun (L : Rl) (m : Mp) (hz : L.iss.size ≤ maxLen) (hwf : Wf L) (h8 : rvC L = 8) (V : World) (h : RlAt L m V) => (show Calls Tryz.prog 9 #[.agg (rlC L m)] V (fun e w' => e = .returned (.tuple #[.slice none 0 0, .int .i64 8]) ∧ Below V.heap.size V w') from (encode_rev L m hz hwf V h).mono fun e z k => by
  rw [h8] at k
  obtain ⟨hb, ⟨h0, _⟩ | ⟨_, rfl⟩⟩ := k
  ·
   exact absurd h0 (by decide)
  ·
   exact ⟨rfl, hb⟩))
 have HR := Lib.hid (fun (L : Rl) (m : Mp) (hz : L.iss.size ≤ maxLen) (h8 : rvC L = 8) (V : World) (h : RlAt L m V) => (show Calls Tryz.prog 10 #[.agg (rlC L m), .int .u64 5] V (fun e w' => e = .returned (.tuple #[.bool false, .int .i64 8]) ∧ Below V.heap.size V w') from by
  have k := revoked_any L m 5 hz V h
  rw [h8, show rvB L 5 = false by unfold rvB; rw [h8]; rfl] at k
  exact k))
 have HC := Lib.hid (fun (L : Rl) (m : Mp) (hz : L.iss.size ≤ maxLen) (h8 : rvC L = 8) (V : World) (h : RlAt L m V) => (show Calls Tryz.prog 11 #[.agg (rlC L m)] V (fun e w' => e = .returned (.int .i64 8) ∧ Below V.heap.size V w') from by
  have k := lchk_any L m V hz h.ser
  rw [h8] at k
  exact k))
 have hz1 : exL.iss.size ≤ maxLen := by decide
 have hz0 : rl0.iss.size ≤ maxLen := by decide
 have hcs : ∀ (m : Mp) (V : World), RlAt exL m V → (m.SA = none → m.sc = 0) := fun m V h e => by
  obtain ⟨g, o, e2, _⟩ := h.ser.row 0 5 rfl
  rw [e] at e2
  cases e2
 have HKY0 := fun (V : World) (hb : Below w.heap.size w V) => key7_any rws7 rws7_16 0 (by decide) V (env.on hb)
 have HSG0 := fun (m : Mp) (V : World) (hb : Below w.heap.size w V) (h : RlAt exL m V) => (show Calls Tryz.prog 13 #[.agg (rlC exL m), .agg (bcells rws7), .int .i64 0, .int .i64 0] V (ScPost (nsL, 0) V) from by
  have k := sign_caps exL m hz1 exL_wf (hcs m V h) rws7 rws7_16 0 0 V h (env.on hb)
  rw [ns_sign] at k
  exact k)
 have HTW0 := fun (m : Mp) (V : World) (h : RlAt nsL m V) (hp : m.PA = none → m.pc = 0) => rtwin_cap nsL m V h ⟨(fun e => by
  obtain ⟨g, o, e2, _⟩ := h.ser.row 0 5 rfl
  rw [e] at e2
  cases e2), (fun e => by
  have hl : nsL.sg.cs.length = 35 := sgn35 _ _
  obtain ⟨g, o, e2, _⟩ := h.cs.row 0 (nsL.sg.cs[0]'(by omega)) (List.getElem?_eq_getElem (by omega))
  rw [e] at e2
  cases e2), hp⟩
 have HV10 := fun (m : Mp) (V : World) (h : RlAt nsL m V) (hb : Below w.heap.size w V) => (show Calls Tryz.prog 17 #[.agg (rlC nsL m), .agg (pkc (node rws7 0 0) 0)] V (fun e w' => e = .returned (.int .i64 0) ∧ Below V.heap.size V w') from by
  have k := verify_rev nsL m hz1 nsL_wf (node rws7 0 0) (node_len _ _ _) 0 V h (env.on hb)
  rw [nsL_verifies] at k
  exact k)
 have HV20 := fun (m : Mp) (V : World) (h : RlAt { nsL with ser := [5] } m V) (hb : Below w.heap.size w V) => (show Calls Tryz.prog 17 #[.agg (rlC { nsL with ser := [5] } m), .agg (pkc (node rws7 0 0) 0)] V (fun e w' => e = .returned (.int .i64 22) ∧ Below V.heap.size V w') from by
  have k := verify_rev nsK m hz1 nsK_wf (node rws7 0 0) (node_len _ _ _) 0 V h (env.on hb)
  rw [nsK_fails] at k
  exact k)
 have HS10 := fun (m : Mp) (V : World) (hb : Below w.heap.size w V) (h : RlAt exL m V) => (show Calls Tryz.prog 13 #[.agg (rlC exL m), .agg (bcells rws7), .int .i64 0, .int .i64 1] V (ScPost (rl0, 2) V) from by
  have k := sign_caps exL m hz1 exL_wf (hcs m V h) rws7 rws7_16 0 1 V h (env.on hb)
  rw [ns_bad1] at k
  exact k)
 have HS90 := fun (V : World) (hb : Below w.heap.size w V) => (show Calls Tryz.prog 13 #[.agg (rlC rl0 mp0), .agg (bcells rws7), .int .i64 9, .int .i64 9] V (ScPost (rl0, 8) V) from by
  have k := sign_caps rl0 mp0 hz0 rl0_wf (fun _ => rfl) rws7 rws7_16 9 9 V (rl0_at V) (env.on hb)
  rw [ns_bad9] at k
  exact k)
 have HDN := Lib.hid (fun (V : World) => (show Calls Tryz.prog 15 #[.slice none 0 0] V (RvdPost (rl0, 12) V) from by
  have k := rdecode_any [] (by decide) none 0 (by decide) (fun _ => rfl) V (fun hne => absurd rfl hne)
  rw [dec_nil] at k
  exact k))
 have HBO := Lib.hid (fun (V : World) (m : Mp) (h : RlAt exL m V) => (show Calls Tryz.prog 16 #[.agg (rlC exL m)] V (SlPost exB V) from (body_any exL m hz1 exL_wf V h).mono fun e z k => by
  rw [exL_ok] at k
  have := ebpost_ok k
  rw [exL_body] at this
  exact this))
 have HDB := Lib.hid (fun (V : World) (A : Option Addr) (c : Nat) (hc : 21 ≤ c) (hA : A = none → c = 0) (h : SrcAt A exB V) => (show Calls Tryz.prog 15 #[.slice A 21 c] V (RvdPost (rl0, 12) V) from by
  have k := rdecode_any exB (by decide) A c hc hA V h
  rw [dec_body] at k
  exact k))
 have HAL := Lib.hid (fun (V : World) => alive11_any V)
 have HV30 := fun (m : Mp) (V : World) (h : RlAt exL m V) (hb : Below w.heap.size w V) => (show Calls Tryz.prog 17 #[.agg (rlC exL m), .agg (pkc (node rws7 0 0) 0)] V (fun e w' => e = .returned (.int .i64 22) ∧ Below V.heap.size V w') from by
  have k := verify_rev exL m hz1 exL_wf (node rws7 0 0) (node_len _ _ _) 0 V h (env.on hb)
  rw [exL_fails] at k
  exact k)
 have HV40 := fun (V : World) (hb : Below w.heap.size w V) => (show Calls Tryz.prog 17 #[.agg (rlC rl0 mp0), .agg (pkc (node rws7 0 0) 0)] V (fun e w' => e = .returned (.int .i64 8) ∧ Below V.heap.size V w') from by
  have k := verify_rev rl0 mp0 hz0 rl0_wf (node rws7 0 0) (node_len _ _ _) 0 V (rl0_at V) (env.on hb)
  rw [rl0_fails] at k
  exact k)
 have HSZK := Lib.hid (sz17 (node rws7 0 0) 0 (node_len _ _ _))
 have HONE := Lib.hid (pkc_one (node rws7 0 0) 0)
 have HSOK := Lib.hid (show (17 : Nat) = (pkc (node rws7 0 0) 0).size from (pkc_size _ _ (node_len _ _ _)).symm)
 have HSL := Lib.hid (show nsL.ser.length = 2 from rfl)
 have HS5 := Lib.hid (show nsL.ser[0]? = some 5 from rfl)
 obtain ⟨s, hs⟩ : ∃ s, nsL = s := ⟨_, rfl⟩
 obtain ⟨PK, hPK⟩ : ∃ PK, pkc (node rws7 0 0) 0 = PK := ⟨_, rfl⟩
 rw [hs] at HSG0 HTW0 HV10 HV20 HSL HS5
 rw [hPK] at HV10 HV20 HV30 HV40 HSZK HONE HSOK
 have hky : ∀ (V : World), Below w.heap.size w V → Calls Tryz.prog 12 #[.agg (bcells rws7), .int .i64 0] V fun e w' => e = .returned (.tuple #[.agg PK, .int .i64 0]) ∧ Below V.heap.size V w' := fun V hb => by
  have k := HKY0 V hb
  rw [← hPK]
  exact k
 rw [rws7_cells] at hky HSG0 HS10 HS90
 have HKY := Lib.hid hky
 have HSG := Lib.hid HSG0
 have HTW := Lib.hid HTW0
 have HS1 := Lib.hid HS10
 have HS9 := Lib.hid HS90
 have HV1 := Lib.hid HV10
 have HV2 := Lib.hid HV20
 have HV3 := Lib.hid HV30
 have HV4 := Lib.hid HV40
 clear HV30 HV40 HS10 HS90 HKY0 HSG0 HTW0 HV10 HV20 hky hcs
 go_enter Tryz.func3, Tryz.ntmps3
 go_wp2_with fail
 go_loopw [1, 2] (fun sl i wr => ∃ (k : Nat) (A : Option Addr) (c : Nat), k ≤ 500 ∧ i = .int .u64 ((k : Int) + 1) ∧ sl = .slice A k c ∧ RowKit.Hid (wr.ownsRow w.heap.size 23 1 (.slice A k c) k (uvals (upto k))) ∧ RowKit.Hid (Below w.heap.size w wr)) (fun _ i _ => 501 - (intOf i).toNat)
 case atStart => exact ⟨0, none, 0, by decide, rfl, rfl, Lib.hid (show w.ownsRow w.heap.size 23 1 (.slice none 0 0) 0 (uvals []) from ⟨rfl, .inl ⟨rfl, rfl⟩⟩), Lib.hid (Below.refl _ _)⟩
 case round =>
  obtain ⟨k, A, c, hk, rfl, rfl, HO, HB⟩ := hrel
  by_cases hlt : k < 500
  ·
   have hki : (k : Int) + 1 ≤ 500 := by omega
   have HX := Lib.hid (show upto (k + 1) = upto k ++ [(k : Int) + 1] from upto_succ k)
   go_wp2_with (at_builtin; go_loud (refine wpList_append_u rfl (.tmp 30) (.tmp 32) rfl w.heap.size _ _ _ rfl (own_onB HO.out (below_new _ _)) wr.heap.size _ rfl (cell_of_one (heap_alloc_new _ _)) (by omega) (by have := HB.out.size; have := (below_new wr (.cells #[.int .u64 ((k : Int) + 1)] 23)).size; omega) ?_); intro v9 w9 ho9 hg9)
   obtain ⟨A9, c9, rfl⟩ := own_open ho9
   have hb9 : Below w.heap.size w w9 := (chain HB.out (below_new wr (.cells #[.int .u64 ((k : Int) + 1)] 23))).grown hg9 (by have := HB.out.size; have := (below_new wr (.cells #[.int .u64 ((k : Int) + 1)] 23)).size; omega) (fun j hj => (own_block (own_onB HO.out (below_new wr (.cells #[.int .u64 ((k : Int) + 1)] 23))) hj).1)
   have ho8 : w9.ownsRow w.heap.size 23 1 (.slice A9 (k + 1) c9) (k + 1) (uvals (upto (k + 1))) := by rw [HX.out, uvals_snoc]; exact ho9
   exact ⟨⟨k + 1, A9, c9, by omega, by go_num, rfl, Lib.hid ho8, Lib.hid hb9⟩, by simp [intOf]; omega⟩
  ·
   have hkk : k = 500 := by omega
   subst hkk
   have hki : ¬ ((500 : Nat) : Int) + 1 ≤ 500 := by omega
   have HOwr := HO
   have HBwr := HB
   clear HO HB
   go_wp2_with fail
   have hw := HW.out [] none 0 (by decide) wr ⟨fun i x hi => by simp at hi⟩
   rw [ser_none] at hw
   refine hw.mono ?_
   clear hw
   rintro e V1 ⟨rfl, hb⟩
   have HOV1 := Lib.hid (own_onB HOwr.out hb)
   have HBV1 := Lib.hid (chain HBwr.out hb)
   clear hb HOwr HBwr
   go_wp2_with fail
   have hr := heap_alloc_new V1 (.cells #[.int .u64 0] 23)
   have hb := below_new V1 (.cells #[.int .u64 0] 23)
   obtain ⟨Y, hY⟩ : ∃ q, V1.heap.size = q := ⟨_, rfl⟩
   rw [hY] at hr ⊢
   generalize World.alloc V1 _ = A1v at hr hb ⊢
   have HOA1v := Lib.hid (own_onB HOV1.out hb)
   have HBA1v := Lib.hid (chain HBV1.out hb)
   have hw := HW.out [0] (some ⟨Y, 0, none⟩) 1 (by decide) A1v (nums_lit1 hr)
   clear hb hr hY HOV1 HBV1
   rw [ser_zero] at hw
   refine hw.mono ?_
   clear hw
   rintro e A1w ⟨rfl, hb⟩
   have HOA1w := Lib.hid (own_onB HOA1v.out hb)
   have HBA1w := Lib.hid (chain HBA1v.out hb)
   clear hb HOA1v HBA1v
   go_wp2_with fail
   have hr := heap_alloc_new A1w (.cells #[.int .u64 1] 23)
   have hb := below_new A1w (.cells #[.int .u64 1] 23)
   obtain ⟨Y, hY⟩ : ∃ q, A1w.heap.size = q := ⟨_, rfl⟩
   rw [hY] at hr ⊢
   generalize World.alloc A1w _ = A2v at hr hb ⊢
   have HOA2v := Lib.hid (own_onB HOA1w.out hb)
   have HBA2v := Lib.hid (chain HBA1w.out hb)
   have hw := HW.out [1] (some ⟨Y, 0, none⟩) 1 (by decide) A2v (nums_lit1 hr)
   clear hb hr hY HOA1w HBA1w
   rw [ser_one] at hw
   refine hw.mono ?_
   clear hw
   rintro e A2w ⟨rfl, hb⟩
   have HOA2w := Lib.hid (own_onB HOA2v.out hb)
   have HBA2w := Lib.hid (chain HBA2v.out hb)
   clear hb HOA2v HBA2v
   go_wp2_with fail
   have hr := heap_alloc_new A2w (.cells #[.int .u64 2, .int .u64 1] 23)
   have hb := below_new A2w (.cells #[.int .u64 2, .int .u64 1] 23)
   obtain ⟨Y, hY⟩ : ∃ q, A2w.heap.size = q := ⟨_, rfl⟩
   rw [hY] at hr ⊢
   generalize World.alloc A2w _ = A3v at hr hb ⊢
   have HOA3v := Lib.hid (own_onB HOA2w.out hb)
   have HBA3v := Lib.hid (chain HBA2w.out hb)
   have hw := HW.out [2, 1] (some ⟨Y, 0, none⟩) 2 (by decide) A3v (nums_lit2 hr)
   clear hb hr hY HOA2w HBA2w
   rw [ser_down] at hw
   refine hw.mono ?_
   clear hw
   rintro e A3w ⟨rfl, hb⟩
   have HOA3w := Lib.hid (own_onB HOA3v.out hb)
   have HBA3w := Lib.hid (chain HBA3v.out hb)
   clear hb HOA3v HBA3v
   go_wp2_with fail
   have hr := heap_alloc_new A3w (.cells #[.int .u64 1, .int .u64 1] 23)
   have hb := below_new A3w (.cells #[.int .u64 1, .int .u64 1] 23)
   obtain ⟨Y, hY⟩ : ∃ q, A3w.heap.size = q := ⟨_, rfl⟩
   rw [hY] at hr ⊢
   generalize World.alloc A3w _ = A4v at hr hb ⊢
   have HOA4v := Lib.hid (own_onB HOA3w.out hb)
   have HBA4v := Lib.hid (chain HBA3w.out hb)
   have hw := HW.out [1, 1] (some ⟨Y, 0, none⟩) 2 (by decide) A4v (nums_lit2 hr)
   clear hb hr hY HOA3w HBA3w
   rw [ser_same] at hw
   refine hw.mono ?_
   clear hw
   rintro e A4w ⟨rfl, hb⟩
   have HOA4w := Lib.hid (own_onB HOA4v.out hb)
   have HBA4w := Lib.hid (chain HBA4v.out hb)
   clear hb HOA4v HBA4v
   go_wp2_with fail
   have hr := heap_alloc_new A4w (.cells #[.int .u64 18446744073709551615] 23)
   have hb := below_new A4w (.cells #[.int .u64 18446744073709551615] 23)
   obtain ⟨Y, hY⟩ : ∃ q, A4w.heap.size = q := ⟨_, rfl⟩
   rw [hY] at hr ⊢
   generalize World.alloc A4w _ = A5v at hr hb ⊢
   have HOA5v := Lib.hid (own_onB HOA4w.out hb)
   have HBA5v := Lib.hid (chain HBA4w.out hb)
   have hw := HW.out [18446744073709551615] (some ⟨Y, 0, none⟩) 1 (by decide) A5v (nums_lit1 hr)
   clear hb hr hY HOA4w HBA4w
   rw [ser_most] at hw
   refine hw.mono ?_
   clear hw
   rintro e A5w ⟨rfl, hb⟩
   have HOA5w := Lib.hid (own_onB HOA5v.out hb)
   have HBA5w := Lib.hid (chain HBA5v.out hb)
   clear hb HOA5v HBA5v
   go_wp2_with fail
   have hmn : Nums A (upto 500) A5w := by
    obtain ⟨A', c', e, _, hn⟩ := nums_own (v := .slice A 500 c) (by rw [upto_len]; exact HOA5w.out)
    injection e with e1 e2 e3
    subst e1
    exact hn
   have hw := HW.out (upto 500) A c (by rw [upto_len]; decide) A5w hmn
   rw [upto_len] at hw
   clear hmn
   rw [upto_ok] at hw
   refine hw.mono ?_
   clear hw
   rintro e VM ⟨rfl, hb⟩
   have HOVM := Lib.hid (own_onB HOA5w.out hb)
   have HBVM := Lib.hid (chain HBA5w.out hb)
   clear hb HOA5w HBA5w
   go_wp2_with (at_builtin; go_loud (refine wpList_append_uw (by rfl) (.tmp 67) (.tmp 68) rfl w.heap.size _ _ _ rfl (own_onB HOVM.out (below_new _ _)) VM.heap.size _ rfl (cell_of_one (heap_alloc_new _ _)) (by decide) (by have := HBVM.out.size; have := (below_new VM (.cells #[.int .u64 1000] 23)).size; omega) ?_); intro v9 w9 ho9 hg9)
   obtain ⟨A9, c9, rfl⟩ := own_open ho9
   have hb9 : Below w.heap.size w w9 := (chain HBVM.out (below_new VM (.cells #[.int .u64 1000] 23))).grown hg9 (by have := HBVM.out.size; have := (below_new VM (.cells #[.int .u64 1000] 23)).size; omega) (fun j hj => (own_block (own_onB HOVM.out (below_new VM (.cells #[.int .u64 1000] 23))) hj).1)
   have hmn : Nums A9 (upto 500 ++ [1000]) w9 := by
    obtain ⟨A', c', e, _, hn⟩ := nums_own (v := .slice A9 501 c9) (xs := upto 500 ++ [1000]) (b := w.heap.size) (w := w9) (by rw [List.length_append, upto_len, uvals_snoc]; exact ho9)
    injection e with e1 e2 e3
    subst e1
    exact hn
   have hw := HW.out (upto 500 ++ [1000]) A9 c9 (by rw [List.length_append, upto_len]; decide) w9 hmn
   have hl5 : (upto 500 ++ [1000]).length = 501 := by rw [List.length_append, upto_len]; rfl
   rw [hl5, upto_many] at hw
   have HB9 := Lib.hid hb9
   clear hmn hl5 ho9 hg9 hb9 HOVM HBVM
   go_wp2_with fail
   refine hw.mono ?_
   clear hw
   rintro e X0 ⟨rfl, hb⟩
   have HBX := Lib.hid (chain HB9.out hb)
   clear hb HB9
   go_wp2_with fail
   go_loopw [4, 5, 6, 7, 8, 9, 79, 82, 86, 90] (fun i _ _ _ _ _ _ _ _ _ wr => ∃ k : Nat, k ≤ 4 ∧ i = .int .i64 (k : Int) ∧ RowKit.Hid (Below w.heap.size w wr)) (fun i _ _ _ _ _ _ _ _ _ _ => 5 - (intOf i).toNat)
   case atStart => exact ⟨0, by decide, rfl, HBX⟩
   case round =>
    obtain ⟨k, hk, rfl, HBw⟩ := hrel
    by_cases hlt : k < 4
    ·
     have hki : (k : Int) < 4 := by omega
     go_wp2_with fail
     refine (HEX.out wr).mono ?_
     rintro e V1 ⟨m, rfl, hat, hb1⟩
     have HN1 := Lib.hid hat.ser
     have HB1 := Lib.hid (chain HBw.out hb1)
     clear hat hb1
     unfold rlC exL at HN1 ⊢
     dsimp only [List.length_cons, List.length_nil] at HN1 ⊢
     go_upto_region 11 with (fail)
     have HM2 := Lib.hid (heap_alloc_new V1 (.cells #[.string ⟨#[97]⟩, .int .u64 2, .int .i64 0, .int .i64 9, .slice m.SA 2 m.sc, .int .i64 0, .slice m.CA 0 m.cc, .slice m.PA 0 m.pc] 32))
     obtain ⟨M, hM⟩ : ∃ M, V1.heap.size = M := ⟨_, rfl⟩
     have HMW := Lib.hid (show w.heap.size ≤ M by have := HB1.out.size; omega)
     have HNM := Lib.hid (fun (g o : Nat) (e : m.SA = some ⟨g, o, none⟩) => show g < M from by have := nums_lt HN1.out (by decide) g o e; omega)
     rw [hM] at HM2 ⊢
     generalize hV2 : World.alloc V1 _ = V2 at HM2 ⊢
     have hb2 : Below V1.heap.size V1 V2 := by rw [← hV2]; exact below_new _ _
     have HB2 := Lib.hid (chain HB1.out hb2)
     have HN2 := Lib.hid (HN1.out.on hb2)
     clear hV2 hM HB1 HN1 hb2
     obtain ⟨hl0, f0, f1, f2, f3, f4, f5, f6, f7⟩ := facts8 HM2.out
     obtain ⟨z0, z1, z2, z3, z4, z5, z6, z7⟩ := free8 HM2.out
     rcases (show k = 0 ∨ k = 1 ∨ k = 2 ∨ k = 3 by omega) with rfl | rfl | rfl | rfl
     ·
      skip
      go_upto_region 20 with (fail)
      generalize hV3 : World.setCell _ _ _ = V3
      have HM3 := Lib.hid (show V3.heap[M]? = some (.cells #[.string ⟨#[97, 32, 98]⟩, .int .u64 2, .int .i64 0, .int .i64 9, .slice m.SA 2 m.sc, .int .i64 0, .slice m.CA 0 m.cc, .slice m.PA 0 m.pc] 32 (0, 0)) by rw [← hV3]; exact heap_setCell_same _ _ _ _ _ _ HM2.out)
      have ho : ∀ b, b ≠ M → V3.heap[b]? = V2.heap[b]? := fun b hb => by rw [← hV3]; exact Below.heap_setCell _ _ _ _ hb
      have HB3 := Lib.hid (show Below w.heap.size w V3 by rw [← hV3]; exact below_setCell HB2.out HMW.out)
      have HA3 := Lib.hid (show RlAt (⟨⟨#[97, 32, 98]⟩, 2, 0, 9, [5, 7], ⟨0, [], []⟩⟩ : Rl) m V3 from ⟨nums_keep9 HN2.out (fun g o e hne e2 => by have := HNM.out g o e; omega) ho, shs_nil rfl _ _, shs_nil rfl _ _, by decide, by decide, by decide⟩)
      clear ho hV3 hl0 f0 f1 f2 f3 f4 f5 f6 f7 z0 z1 z2 z3 z4 z5 z6 z7
      obtain ⟨hl0, f0, f1, f2, f3, f4, f5, f6, f7⟩ := facts8 HM3.out
      have h1 := HE.out (⟨⟨#[97, 32, 98]⟩, 2, 0, 9, [5, 7], ⟨0, [], []⟩⟩ : Rl) m (by show _ ≤ maxLen; decide) ⟨by decide, by decide, by decide, by decide⟩ (by decide)
      unfold rlC at h1
      go_wp2_with fail
      refine (h1 V3 HA3.out).mono ?_
      clear h1
      rintro e V4 ⟨rfl, hb⟩
      have HM4 := Lib.hid (row_on HM3.out hb)
      have HB4 := Lib.hid (chain HB3.out hb)
      have HA4 := Lib.hid (HA3.out.on hb)
      clear hb hl0 f0 f1 f2 f3 f4 f5 f6 f7 HM3 HB3 HA3
      obtain ⟨hl0, f0, f1, f2, f3, f4, f5, f6, f7⟩ := facts8 HM4.out
      have h2 := HR.out (⟨⟨#[97, 32, 98]⟩, 2, 0, 9, [5, 7], ⟨0, [], []⟩⟩ : Rl) m (by show _ ≤ maxLen; decide) (by decide)
      unfold rlC at h2
      go_wp2_with fail
      refine (h2 V4 HA4.out).mono ?_
      clear h2
      rintro e V5 ⟨rfl, hb⟩
      have HM5 := Lib.hid (row_on HM4.out hb)
      have HB5 := Lib.hid (chain HB4.out hb)
      have HA5 := Lib.hid (HA4.out.on hb)
      clear hb hl0 f0 f1 f2 f3 f4 f5 f6 f7 HM4 HB4 HA4
      obtain ⟨hl0, f0, f1, f2, f3, f4, f5, f6, f7⟩ := facts8 HM5.out
      have h3 := HC.out (⟨⟨#[97, 32, 98]⟩, 2, 0, 9, [5, 7], ⟨0, [], []⟩⟩ : Rl) m (by show _ ≤ maxLen; decide) (by decide)
      unfold rlC at h3
      go_wp2_with fail
      refine (h3 V5 HA5.out).mono ?_
      clear h3
      rintro e V6 ⟨rfl, hb⟩
      have HB6 := Lib.hid (chain HB5.out hb)
      clear hb hl0 f0 f1 f2 f3 f4 f5 f6 f7 HM5 HB5 HA5
      go_wp2_with fail
      exact ⟨⟨1, by decide, by go_num, HB6⟩, by simp [intOf]⟩
     ·
      skip
      go_upto_region 20 with (fail)
      generalize hV3 : World.setCell _ _ _ = V3
      have HM3 := Lib.hid (show V3.heap[M]? = some (.cells #[.string ⟨#[97]⟩, .int .u64 2, .int .i64 10, .int .i64 9, .slice m.SA 2 m.sc, .int .i64 0, .slice m.CA 0 m.cc, .slice m.PA 0 m.pc] 32 (0, 0)) by rw [← hV3]; exact heap_setCell_same _ _ _ _ _ _ HM2.out)
      have ho : ∀ b, b ≠ M → V3.heap[b]? = V2.heap[b]? := fun b hb => by rw [← hV3]; exact Below.heap_setCell _ _ _ _ hb
      have HB3 := Lib.hid (show Below w.heap.size w V3 by rw [← hV3]; exact below_setCell HB2.out HMW.out)
      have HA3 := Lib.hid (show RlAt (⟨⟨#[97]⟩, 2, 10, 9, [5, 7], ⟨0, [], []⟩⟩ : Rl) m V3 from ⟨nums_keep9 HN2.out (fun g o e hne e2 => by have := HNM.out g o e; omega) ho, shs_nil rfl _ _, shs_nil rfl _ _, by decide, by decide, by decide⟩)
      clear ho hV3 hl0 f0 f1 f2 f3 f4 f5 f6 f7 z0 z1 z2 z3 z4 z5 z6 z7
      obtain ⟨hl0, f0, f1, f2, f3, f4, f5, f6, f7⟩ := facts8 HM3.out
      have h1 := HE.out (⟨⟨#[97]⟩, 2, 10, 9, [5, 7], ⟨0, [], []⟩⟩ : Rl) m (by show _ ≤ maxLen; decide) ⟨by decide, by decide, by decide, by decide⟩ (by decide)
      unfold rlC at h1
      go_wp2_with fail
      refine (h1 V3 HA3.out).mono ?_
      clear h1
      rintro e V4 ⟨rfl, hb⟩
      have HM4 := Lib.hid (row_on HM3.out hb)
      have HB4 := Lib.hid (chain HB3.out hb)
      have HA4 := Lib.hid (HA3.out.on hb)
      clear hb hl0 f0 f1 f2 f3 f4 f5 f6 f7 HM3 HB3 HA3
      obtain ⟨hl0, f0, f1, f2, f3, f4, f5, f6, f7⟩ := facts8 HM4.out
      have h2 := HR.out (⟨⟨#[97]⟩, 2, 10, 9, [5, 7], ⟨0, [], []⟩⟩ : Rl) m (by show _ ≤ maxLen; decide) (by decide)
      unfold rlC at h2
      go_wp2_with fail
      refine (h2 V4 HA4.out).mono ?_
      clear h2
      rintro e V5 ⟨rfl, hb⟩
      have HM5 := Lib.hid (row_on HM4.out hb)
      have HB5 := Lib.hid (chain HB4.out hb)
      have HA5 := Lib.hid (HA4.out.on hb)
      clear hb hl0 f0 f1 f2 f3 f4 f5 f6 f7 HM4 HB4 HA4
      obtain ⟨hl0, f0, f1, f2, f3, f4, f5, f6, f7⟩ := facts8 HM5.out
      have h3 := HC.out (⟨⟨#[97]⟩, 2, 10, 9, [5, 7], ⟨0, [], []⟩⟩ : Rl) m (by show _ ≤ maxLen; decide) (by decide)
      unfold rlC at h3
      go_wp2_with fail
      refine (h3 V5 HA5.out).mono ?_
      clear h3
      rintro e V6 ⟨rfl, hb⟩
      have HB6 := Lib.hid (chain HB5.out hb)
      clear hb hl0 f0 f1 f2 f3 f4 f5 f6 f7 HM5 HB5 HA5
      go_wp2_with fail
      exact ⟨⟨2, by decide, by go_num, HB6⟩, by simp [intOf]⟩
     ·
      skip
      go_upto_region 20 with (fail)
      generalize hV3 : World.setCell _ _ _ = V3
      have HM3 := Lib.hid (show V3.heap[M]? = some (.cells #[.string ⟨#[97]⟩, .int .u64 2, .int .i64 0, .int .i64 9, .slice m.SA 2 m.sc, .int .i64 1, .slice m.CA 0 m.cc, .slice m.PA 0 m.pc] 32 (0, 0)) by rw [← hV3]; exact heap_setCell_same _ _ _ _ _ _ HM2.out)
      have ho : ∀ b, b ≠ M → V3.heap[b]? = V2.heap[b]? := fun b hb => by rw [← hV3]; exact Below.heap_setCell _ _ _ _ hb
      have HB3 := Lib.hid (show Below w.heap.size w V3 by rw [← hV3]; exact below_setCell HB2.out HMW.out)
      have HA3 := Lib.hid (show RlAt (⟨⟨#[97]⟩, 2, 0, 9, [5, 7], ⟨1, [], []⟩⟩ : Rl) m V3 from ⟨nums_keep9 HN2.out (fun g o e hne e2 => by have := HNM.out g o e; omega) ho, shs_nil rfl _ _, shs_nil rfl _ _, by decide, by decide, by decide⟩)
      clear ho hV3 hl0 f0 f1 f2 f3 f4 f5 f6 f7 z0 z1 z2 z3 z4 z5 z6 z7
      obtain ⟨hl0, f0, f1, f2, f3, f4, f5, f6, f7⟩ := facts8 HM3.out
      have h1 := HE.out (⟨⟨#[97]⟩, 2, 0, 9, [5, 7], ⟨1, [], []⟩⟩ : Rl) m (by show _ ≤ maxLen; decide) ⟨by decide, by decide, by decide, by decide⟩ (by decide)
      unfold rlC at h1
      go_wp2_with fail
      refine (h1 V3 HA3.out).mono ?_
      clear h1
      rintro e V4 ⟨rfl, hb⟩
      have HM4 := Lib.hid (row_on HM3.out hb)
      have HB4 := Lib.hid (chain HB3.out hb)
      have HA4 := Lib.hid (HA3.out.on hb)
      clear hb hl0 f0 f1 f2 f3 f4 f5 f6 f7 HM3 HB3 HA3
      obtain ⟨hl0, f0, f1, f2, f3, f4, f5, f6, f7⟩ := facts8 HM4.out
      have h2 := HR.out (⟨⟨#[97]⟩, 2, 0, 9, [5, 7], ⟨1, [], []⟩⟩ : Rl) m (by show _ ≤ maxLen; decide) (by decide)
      unfold rlC at h2
      go_wp2_with fail
      refine (h2 V4 HA4.out).mono ?_
      clear h2
      rintro e V5 ⟨rfl, hb⟩
      have HM5 := Lib.hid (row_on HM4.out hb)
      have HB5 := Lib.hid (chain HB4.out hb)
      have HA5 := Lib.hid (HA4.out.on hb)
      clear hb hl0 f0 f1 f2 f3 f4 f5 f6 f7 HM4 HB4 HA4
      obtain ⟨hl0, f0, f1, f2, f3, f4, f5, f6, f7⟩ := facts8 HM5.out
      have h3 := HC.out (⟨⟨#[97]⟩, 2, 0, 9, [5, 7], ⟨1, [], []⟩⟩ : Rl) m (by show _ ≤ maxLen; decide) (by decide)
      unfold rlC at h3
      go_wp2_with fail
      refine (h3 V5 HA5.out).mono ?_
      clear h3
      rintro e V6 ⟨rfl, hb⟩
      have HB6 := Lib.hid (chain HB5.out hb)
      clear hb hl0 f0 f1 f2 f3 f4 f5 f6 f7 HM5 HB5 HA5
      go_wp2_with fail
      exact ⟨⟨3, by decide, by go_num, HB6⟩, by simp [intOf]⟩
     ·
      skip
      obtain ⟨i0, hi, hz0, hz1, hz2⟩ := info_parts Tryz.info_short
      have HI := Lib.hid hi
      clear hi hl0 f0 f1 f2 f3 f4 f5 f6 f7 z0 z1 z2 z3 z4 z5 z6 z7
      go_upto_region 20 with (at_make; go_loud (refine wpList_make_full _ rfl (.const (.int .i64 34)) (.const (.int .i64 34)) 28 rfl w.heap.size 41 i0 (.agg (bcells (List.replicate 16 0))) 16 Tryz.underlying28 HI.out hz0 hz1 .i64 .i64 34 34 34 rfl rfl rfl rfl (by rw [hz2]; decide) (by decide) (by have := HB2.out.size; omega) ?_); intro w9 ho9 hb9; go_loud (have hr9 := (hb9.block M (Array.getElem?_eq_some_iff.1 HM2.out).1 (by simp)).trans HM2.out); go_loud (obtain ⟨hl0, f0, f1, f2, f3, f4, f5, f6, f7⟩ := facts8 hr9); go_loud (obtain ⟨z0, z1, z2, z3, z4, z5, z6, z7⟩ := free8 hr9))
      obtain ⟨Y, hY⟩ : ∃ q, V2.heap.size = q := ⟨_, rfl⟩
      rw [hY] at ho9 ⊢
      have hsh : Shs (some ⟨Y, 0, none⟩) (List.replicate 34 (List.replicate 16 0)) w9 := by
       obtain ⟨A', c', e, _, _, hn⟩ := shorts_own (ls := List.replicate 34 (List.replicate 16 0)) (v := .slice (some ⟨Y, 0, none⟩) 34 34) (b := w.heap.size) (w := w9) (fun l hl => by rw [List.eq_of_mem_replicate hl]; rfl) (by rw [← made34]; exact ho9)
       injection e with e1 e2 e3
       subst e1
       exact hn
      generalize hV3 : World.setCell _ _ _ = V3
      have HM3 := Lib.hid (show V3.heap[M]? = some (.cells #[.string ⟨#[97]⟩, .int .u64 2, .int .i64 0, .int .i64 9, .slice m.SA 2 m.sc, .int .i64 0, .slice (some ⟨Y, 0, none⟩) 34 34, .slice m.PA 0 m.pc] 32 (0, 0)) by rw [← hV3]; exact heap_setCell_same _ _ _ _ _ _ hr9)
      have ho : ∀ b, b ≠ M → V3.heap[b]? = w9.heap[b]? := fun b hb => by rw [← hV3]; exact Below.heap_setCell _ _ _ _ hb
      have hb29 : Below V2.heap.size V2 w9 := ⟨hb9.os, hb9.tape, hb9.output, hb9.size, fun k hk => hb9.block k hk (by simp)⟩
      have HB3 := Lib.hid (show Below w.heap.size w V3 by rw [← hV3]; exact below_setCell (chain HB2.out hb29) HMW.out)
      have HA3 := Lib.hid (show RlAt (⟨⟨#[97]⟩, 2, 0, 9, [5, 7], ⟨0, List.replicate 34 (List.replicate 16 0), []⟩⟩ : Rl) ⟨m.SA, m.sc, some ⟨Y, 0, none⟩, 34, m.PA, m.pc⟩ V3 from ⟨nums_keep9 (HN2.out.on hb29) (fun g o e hne e2 => by have := HNM.out g o e; omega) ho, shs_keep hsh hr9 (show 8 < 16 by decide) ho, shs_nil rfl _ _, by decide, by decide, by decide⟩)
      clear ho hV3 hl0 f0 f1 f2 f3 f4 f5 f6 f7 z0 z1 z2 z3 z4 z5 z6 z7 hsh ho9 hb9 hr9 hb29 hY hz0 hz1 hz2 HI
      obtain ⟨hl0, f0, f1, f2, f3, f4, f5, f6, f7⟩ := facts8 HM3.out
      have h1 := HE.out (⟨⟨#[97]⟩, 2, 0, 9, [5, 7], ⟨0, List.replicate 34 (List.replicate 16 0), []⟩⟩ : Rl) ⟨m.SA, m.sc, some ⟨Y, 0, none⟩, 34, m.PA, m.pc⟩ (by show _ ≤ maxLen; decide) ⟨by decide, by decide, fun x hx => by rw [List.eq_of_mem_replicate hx]; rfl, fun x hx => by cases hx⟩ (by decide)
      unfold rlC at h1
      dsimp only [List.length_replicate, List.length_cons, List.length_nil] at h1
      go_wp2_with fail
      refine (h1 V3 HA3.out).mono ?_
      clear h1
      rintro e V4 ⟨rfl, hb⟩
      have HM4 := Lib.hid (row_on HM3.out hb)
      have HB4 := Lib.hid (chain HB3.out hb)
      have HA4 := Lib.hid (HA3.out.on hb)
      clear hb hl0 f0 f1 f2 f3 f4 f5 f6 f7 HM3 HB3 HA3
      obtain ⟨hl0, f0, f1, f2, f3, f4, f5, f6, f7⟩ := facts8 HM4.out
      have h2 := HR.out (⟨⟨#[97]⟩, 2, 0, 9, [5, 7], ⟨0, List.replicate 34 (List.replicate 16 0), []⟩⟩ : Rl) ⟨m.SA, m.sc, some ⟨Y, 0, none⟩, 34, m.PA, m.pc⟩ (by show _ ≤ maxLen; decide) (by decide)
      unfold rlC at h2
      dsimp only [List.length_replicate, List.length_cons, List.length_nil] at h2
      go_wp2_with fail
      refine (h2 V4 HA4.out).mono ?_
      clear h2
      rintro e V5 ⟨rfl, hb⟩
      have HM5 := Lib.hid (row_on HM4.out hb)
      have HB5 := Lib.hid (chain HB4.out hb)
      have HA5 := Lib.hid (HA4.out.on hb)
      clear hb hl0 f0 f1 f2 f3 f4 f5 f6 f7 HM4 HB4 HA4
      obtain ⟨hl0, f0, f1, f2, f3, f4, f5, f6, f7⟩ := facts8 HM5.out
      have h3 := HC.out (⟨⟨#[97]⟩, 2, 0, 9, [5, 7], ⟨0, List.replicate 34 (List.replicate 16 0), []⟩⟩ : Rl) ⟨m.SA, m.sc, some ⟨Y, 0, none⟩, 34, m.PA, m.pc⟩ (by show _ ≤ maxLen; decide) (by decide)
      unfold rlC at h3
      dsimp only [List.length_replicate, List.length_cons, List.length_nil] at h3
      go_wp2_with fail
      refine (h3 V5 HA5.out).mono ?_
      clear h3
      rintro e V6 ⟨rfl, hb⟩
      have HB6 := Lib.hid (chain HB5.out hb)
      clear hb hl0 f0 f1 f2 f3 f4 f5 f6 f7 HM5 HB5 HA5
      go_wp2_with fail
      exact ⟨⟨4, by decide, by go_num, HB6⟩, by simp [intOf]⟩
    ·
     have hkk : k = 4 := by omega
     subst hkk
     have hki : ¬ ((4 : Nat) : Int) < 4 := by omega
     have HBU0 := HBw
     go_wp2_with fail
     refine (HKY.out wr HBU0.out).mono ?_
     rintro e U1 ⟨rfl, hb⟩
     have HBU1 := Lib.hid (chain HBU0.out hb)
     clear hb HBU0
     go_upto_region 25 with (refine wpList_store_row rfl 43 (.tmp 10) (.tmp 119) rfl U1.heap.size PK rfl rfl 43 _ (heap_alloc_new _ _) HSZK.out HSOK.out HONE.out ?_)
     rw [World.setRow_alloc_new]
     generalize hV : World.alloc U1 _ = U2
     have hb : Below U1.heap.size U1 U2 := by rw [← hV]; exact below_new _ _
     have HKU2 : RowKit.Hid (U2.heap[U1.heap.size]? = some (.cells PK 43 (0, 0))) := Lib.hid (by rw [← hV]; exact heap_alloc_new _ _)
     obtain ⟨KB, hKB⟩ : ∃ KB, U1.heap.size = KB := ⟨_, rfl⟩
     rw [hKB] at HKU2
     try simp only [hKB]
     clear hV hKB
     have HBU2 := Lib.hid (chain HBU1.out hb)
     clear hb  HBU1
     go_wp2_with fail
     refine (HEX.out U2).mono ?_
     rintro e U3 ⟨m1, rfl, hat, hb⟩
     have HEU3 := Lib.hid hat
     clear hat
     have HKU3 := Lib.hid (row_on HKU2.out hb)
     have HBU3 := Lib.hid (chain HBU2.out hb)
     clear hb HKU2 HBU2
     unfold rlC exL
     dsimp only [List.length_cons, List.length_nil]
     have h := HSG.out m1 U3 HBU3.out HEU3.out
     unfold rlC exL at h
     go_wp2_with fail
     refine h.mono ?_
     clear h
     rintro e U4 ⟨m4, rfl, hat, hpn, hb⟩
     have HAU4 := Lib.hid hat
     have HPN := Lib.hid hpn
     clear hat hpn HEU3
     have HKU4 := Lib.hid (row_on HKU3.out hb)
     have HBU4 := Lib.hid (chain HBU3.out hb)
     clear hb HKU3 HBU3
     unfold rlC
     dsimp only
     rw [HSL.out]
     go_upto_region 26 with (fail)
     have HXU5 := Lib.hid (heap_alloc_new U4 (.cells #[Value.string s.iss, .int .u64 s.num, .int .i64 s.fr, .int .i64 s.tt, .slice m4.SA 2 m4.sc, .int .i64 s.sg.idx, .slice m4.CA s.sg.cs.length m4.cc, .slice m4.PA s.sg.ps.length m4.pc] 32))
     obtain ⟨M12, hM⟩ : ∃ q, U4.heap.size = q := ⟨_, rfl⟩
     rw [hM] at HXU5 ⊢
     generalize hV : World.alloc U4 _ = U5 at HXU5 ⊢
     have hb : Below U4.heap.size U4 U5 := by rw [← hV]; exact below_new _ _
     clear hV hM
     have HKU5 := Lib.hid (row_on HKU4.out hb)
     have HAU5 := Lib.hid (HAU4.out.on hb)
     have HBU5 := Lib.hid (chain HBU4.out hb)
     clear hb HKU4 HAU4 HBU4
     obtain ⟨hl0, f0, f1, f2, f3, f4, f5, f6, f7⟩ := facts8 HXU5.out
     have h := HTW.out m4 U5 HAU5.out HPN.out
     unfold rlC at h
     rw [HSL.out] at h
     go_wp2_with fail
     refine h.mono ?_
     clear h
     rintro e U6 ⟨m5, rfl, hat, hcap, hb⟩
     have HTU6 := Lib.hid hat
     obtain ⟨g5, o5, hsa, _⟩ := hat.ser.row 0 5 HS5.out
     clear hat hl0 f0 f1 f2 f3 f4 f5 f6 f7
     have HKU6 := Lib.hid (row_on HKU5.out hb)
     have HXU6 := Lib.hid (row_on HXU5.out hb)
     have HAU6 := Lib.hid (HAU5.out.on hb)
     have HBU6 := Lib.hid (chain HBU5.out hb)
     clear hb HKU5 HXU5 HAU5 HBU5
     obtain ⟨SA5, sc5, CA5, cc5, PA5, pc5⟩ := m5
     dsimp only at hsa hcap
     subst hsa
     rw [HSL.out] at hcap
     unfold rlC
     dsimp only
     rw [HSL.out]
     go_upto_region 27 with (fail)
     have HYU7 := Lib.hid (heap_alloc_new U6 (.cells #[Value.string s.iss, .int .u64 s.num, .int .i64 s.fr, .int .i64 s.tt, .slice (some ⟨g5, o5, none⟩) 2 sc5, .int .i64 s.sg.idx, .slice CA5 s.sg.cs.length cc5, .slice PA5 s.sg.ps.length pc5] 32))
     obtain ⟨M14, hM⟩ : ∃ q, U6.heap.size = q := ⟨_, rfl⟩
     rw [hM] at HYU7 ⊢
     generalize hV : World.alloc U6 _ = U7 at HYU7 ⊢
     have hb : Below U6.heap.size U6 U7 := by rw [← hV]; exact below_new _ _
     have hM14 : U6.heap.size = M14 := hM
     clear hV hM
     have HNT := Lib.hid (fun (g o : Nat) (e : (some ⟨g5, o5, none⟩ : Option Addr) = some ⟨g, o, none⟩) => show g < M14 from by have := nums_lt HTU6.out.ser (fun e3 => by have h3 := HS5.out; rw [e3] at h3; simp at h3) g o e; have := hb.size; have := hM14; omega)
     have HNA := Lib.hid (fun (g o : Nat) (e : m4.SA = some ⟨g, o, none⟩) => show g < M14 from by have := nums_lt HAU6.out.ser (fun e3 => by have h3 := HS5.out; rw [e3] at h3; simp at h3) g o e; have := hM14; omega)
     have HLT := Lib.hid (show M12 < M14 from by have := (Array.getElem?_eq_some_iff.1 HXU6.out).1; have := hM14; omega)
     have HMX := Lib.hid (show w.heap.size ≤ M14 from by have := HBU6.out.size; have := hM14; omega)
     clear hM14
     have HKU7 := Lib.hid (row_on HKU6.out hb)
     have HXU7 := Lib.hid (row_on HXU6.out hb)
     have HAU7 := Lib.hid (HAU6.out.on hb)
     have HTU7 := Lib.hid (HTU6.out.on hb)
     have HBU7 := Lib.hid (chain HBU6.out hb)
     clear hb HKU6 HXU6 HAU6 HTU6 HBU6
     obtain ⟨hl0, f0, f1, f2, f3, f4, f5, f6, f7⟩ := facts8 HYU7.out
     obtain ⟨z0, z1, z2, z3, z4, z5, z6, z7⟩ := free8 HYU7.out
     have i1 : (1 : Int) ≤ (sc5 : Int) := by omega
     go_upto_region 28 with (fail)
     generalize hV8 : World.setCell _ _ _ = U8
     have HYU8 := Lib.hid (show U8.heap[M14]? = some (.cells #[Value.string s.iss, .int .u64 s.num, .int .i64 s.fr, .int .i64 s.tt, .slice (some ⟨g5, o5, none⟩) 1 sc5, .int .i64 s.sg.idx, .slice CA5 s.sg.cs.length cc5, .slice PA5 s.sg.ps.length pc5] 32 (0, 0)) by rw [← hV8]; exact heap_setCell8 HYU7.out)
     have ho : ∀ b, b ≠ M14 → U8.heap[b]? = U7.heap[b]? := fun b hb => by rw [← hV8]; exact Below.heap_setCell _ _ _ _ hb
     have HMW := Lib.hid (show w.heap.size ≤ M14 from HMX.out)
     have HBU8 := Lib.hid (show Below w.heap.size w U8 by rw [← hV8]; exact below_setCell HBU7.out HMW.out)
     have HKU8 := Lib.hid ((ho KB (fun e2 => typed_ne HKU7.out HYU7.out (by decide) e2)).trans HKU7.out)
     have HXU8 := Lib.hid ((ho M12 (by have := HLT.out; omega)).trans HXU7.out)
     have HAU8 := Lib.hid (show RlAt s m4 U8 from ⟨nums_keep9 HAU7.out.ser (fun g o e hne e2 => by have h1 := HNA.out g o e; omega) ho, shs_keep HAU7.out.cs HYU7.out (show 8 < 16 by decide) ho, shs_keep HAU7.out.ps HYU7.out (show 8 < 16 by decide) ho, HAU7.out.ls, HAU7.out.lc, HAU7.out.lp⟩)
     have HQU8 := Lib.hid (show RlAt { s with ser := [5] } ⟨some ⟨g5, o5, none⟩, sc5, CA5, cc5, PA5, pc5⟩ U8 from ⟨⟨fun i x hi => by
      match i, hi with
      | 0, hi =>
       obtain rfl := Option.some.inj hi
       have hh := (nums_keep9 HTU7.out.ser (fun g o e hne e2 => by have h1 := HNT.out g o e; omega) ho).row 0 5 HS5.out
       exact hh
      | i + 1, hi => exact absurd hi (by simp)⟩, shs_keep HTU7.out.cs HYU7.out (show 8 < 16 by decide) ho, shs_keep HTU7.out.ps HYU7.out (show 8 < 16 by decide) ho, by show 1 ≤ _; decide, HTU7.out.lc, HTU7.out.lp⟩)
     clear ho hV8 hl0 f0 f1 f2 f3 f4 f5 f6 f7 z0 z1 z2 z3 z4 z5 z6 z7 i1 HYU7 HBU7 HKU7 HXU7 HAU7 HTU7
     go_wp2_with fail
     refine (HEX.out U8).mono ?_
     rintro e U9 ⟨m6, rfl, hat, hb⟩
     have HEU9 := Lib.hid hat
     clear hat
     have HKU9 := Lib.hid (row_on HKU8.out hb)
     have HXU9 := Lib.hid (row_on HXU8.out hb)
     have HYU9 := Lib.hid (row_on HYU8.out hb)
     have HAU9 := Lib.hid (HAU8.out.on hb)
     have HQU9 := Lib.hid (HQU8.out.on hb)
     have HBU9 := Lib.hid (chain HBU8.out hb)
     clear hb HKU8 HXU8 HYU8 HAU8 HQU8 HBU8
     unfold rlC exL
     dsimp only [List.length_cons, List.length_nil]
     have h := HS1.out m6 U9 HBU9.out HEU9.out
     unfold rlC exL at h
     go_wp2_with fail
     refine h.mono ?_
     clear h
     rintro e U10 ⟨mb, rfl, hat, hpn, hb⟩
     clear hat hpn HEU9
     have HKU10 := Lib.hid (row_on HKU9.out hb)
     have HXU10 := Lib.hid (row_on HXU9.out hb)
     have HYU10 := Lib.hid (row_on HYU9.out hb)
     have HAU10 := Lib.hid (HAU9.out.on hb)
     have HQU10 := Lib.hid (HQU9.out.on hb)
     have HBU10 := Lib.hid (chain HBU9.out hb)
     clear hb HKU9 HXU9 HYU9 HAU9 HQU9 HBU9
     unfold rlC
     dsimp only [List.length_nil]
     go_upto_region 29 with (fail)
     generalize hV : World.alloc U10 _ = U11
     have hb : Below U10.heap.size U10 U11 := by rw [← hV]; exact below_new _ _
     clear hV
     have HKU11 := Lib.hid (row_on HKU10.out hb)
     have HXU11 := Lib.hid (row_on HXU10.out hb)
     have HYU11 := Lib.hid (row_on HYU10.out hb)
     have HAU11 := Lib.hid (HAU10.out.on hb)
     have HQU11 := Lib.hid (HQU10.out.on hb)
     have HBU11 := Lib.hid (chain HBU10.out hb)
     clear hb HKU10 HXU10 HYU10 HAU10 HQU10 HBU10
     have h := HS9.out U11 HBU11.out
     unfold rlC at h
     dsimp only [List.length_nil] at h
     go_wp2_with fail
     refine h.mono ?_
     clear h
     rintro e U12 ⟨mb2, rfl, hat, hpn, hb⟩
     clear hat hpn
     have HKU12 := Lib.hid (row_on HKU11.out hb)
     have HXU12 := Lib.hid (row_on HXU11.out hb)
     have HYU12 := Lib.hid (row_on HYU11.out hb)
     have HAU12 := Lib.hid (HAU11.out.on hb)
     have HQU12 := Lib.hid (HQU11.out.on hb)
     have HBU12 := Lib.hid (chain HBU11.out hb)
     clear hb HKU11 HXU11 HYU11 HAU11 HQU11 HBU11
     unfold rlC
     dsimp only [List.length_nil]
     go_upto_region 30 with (fail)
     generalize hV : World.alloc U12 _ = U13
     have hb : Below U12.heap.size U12 U13 := by rw [← hV]; exact below_new _ _
     clear hV
     have HKU13 := Lib.hid (row_on HKU12.out hb)
     have HXU13 := Lib.hid (row_on HXU12.out hb)
     have HYU13 := Lib.hid (row_on HYU12.out hb)
     have HAU13 := Lib.hid (HAU12.out.on hb)
     have HQU13 := Lib.hid (HQU12.out.on hb)
     have HBU13 := Lib.hid (chain HBU12.out hb)
     clear hb HKU12 HXU12 HYU12 HAU12 HQU12 HBU12
     have h := HDN.out U13
     go_wp2_with fail
     refine h.mono ?_
     clear h
     rintro e U14 ⟨mb3, rfl, hat, hb⟩
     clear hat
     have HKU14 := Lib.hid (row_on HKU13.out hb)
     have HXU14 := Lib.hid (row_on HXU13.out hb)
     have HYU14 := Lib.hid (row_on HYU13.out hb)
     have HAU14 := Lib.hid (HAU13.out.on hb)
     have HQU14 := Lib.hid (HQU13.out.on hb)
     have HBU14 := Lib.hid (chain HBU13.out hb)
     clear hb HKU13 HXU13 HYU13 HAU13 HQU13 HBU13
     unfold rlC
     dsimp only [List.length_nil]
     go_upto_region 31 with (fail)
     generalize hV : World.alloc U14 _ = U15
     have hb : Below U14.heap.size U14 U15 := by rw [← hV]; exact below_new _ _
     clear hV
     have HKU15 := Lib.hid (row_on HKU14.out hb)
     have HXU15 := Lib.hid (row_on HXU14.out hb)
     have HYU15 := Lib.hid (row_on HYU14.out hb)
     have HAU15 := Lib.hid (HAU14.out.on hb)
     have HQU15 := Lib.hid (HQU14.out.on hb)
     have HBU15 := Lib.hid (chain HBU14.out hb)
     clear hb HKU14 HXU14 HYU14 HAU14 HQU14 HBU14
     go_wp2_with fail
     refine (HEX.out U15).mono ?_
     rintro e U16 ⟨m7, rfl, hat, hb⟩
     have HEU16 := Lib.hid hat
     clear hat
     have HKU16 := Lib.hid (row_on HKU15.out hb)
     have HXU16 := Lib.hid (row_on HXU15.out hb)
     have HYU16 := Lib.hid (row_on HYU15.out hb)
     have HAU16 := Lib.hid (HAU15.out.on hb)
     have HQU16 := Lib.hid (HQU15.out.on hb)
     have HBU16 := Lib.hid (chain HBU15.out hb)
     clear hb HKU15 HXU15 HYU15 HAU15 HQU15 HBU15
     unfold rlC exL
     dsimp only [List.length_cons, List.length_nil]
     have h := HBO.out U16 m7 HEU16.out
     unfold rlC exL at h
     go_wp2_with fail
     refine h.mono ?_
     clear h
     rintro e U17 ⟨A8, c8, rfl, hc8, hn8, hs8, hb⟩
     have HD8 := Lib.hid (show 21 ≤ c8 ∧ (A8 = none → c8 = 0) ∧ SrcAt A8 exB U17 from ⟨hc8, hn8, hs8⟩)
     clear hc8 hn8 hs8 HEU16
     rw [show exB.length = 21 from rfl]
     have HKU17 := Lib.hid (row_on HKU16.out hb)
     have HXU17 := Lib.hid (row_on HXU16.out hb)
     have HYU17 := Lib.hid (row_on HYU16.out hb)
     have HAU17 := Lib.hid (HAU16.out.on hb)
     have HQU17 := Lib.hid (HQU16.out.on hb)
     have HBU17 := Lib.hid (chain HBU16.out hb)
     clear hb HKU16 HXU16 HYU16 HAU16 HQU16 HBU16
     have h := HDB.out U17 A8 c8 HD8.out.1 HD8.out.2.1 HD8.out.2.2
     go_wp2_with fail
     refine h.mono ?_
     clear h
     rintro e U18 ⟨mb4, rfl, hat, hb⟩
     clear hat
     have HKU18 := Lib.hid (row_on HKU17.out hb)
     have HXU18 := Lib.hid (row_on HXU17.out hb)
     have HYU18 := Lib.hid (row_on HYU17.out hb)
     have HAU18 := Lib.hid (HAU17.out.on hb)
     have HQU18 := Lib.hid (HQU17.out.on hb)
     have HBU18 := Lib.hid (chain HBU17.out hb)
     clear hb HKU17 HXU17 HYU17 HAU17 HQU17 HBU17
     unfold rlC
     dsimp only [List.length_nil]
     go_upto_region 33 with (fail)
     generalize hV : World.alloc U18 _ = U19
     have hb : Below U18.heap.size U18 U19 := by rw [← hV]; exact below_new _ _
     clear hV
     have HKU19 := Lib.hid (row_on HKU18.out hb)
     have HXU19 := Lib.hid (row_on HXU18.out hb)
     have HYU19 := Lib.hid (row_on HYU18.out hb)
     have HAU19 := Lib.hid (HAU18.out.on hb)
     have HQU19 := Lib.hid (HQU18.out.on hb)
     have HBU19 := Lib.hid (chain HBU18.out hb)
     clear hb HKU18 HXU18 HYU18 HAU18 HQU18 HBU18
     obtain ⟨PKL, hPKL⟩ : ∃ q : List Value, q.toArray = PK := ⟨PK.toList, by simp⟩
     subst hPKL
     have HSZL := Lib.hid (show (Tryz.prog.info? 43).map (·.size) = some PKL.length by have := HSZK.out; simpa using this)
     obtain ⟨U, hU⟩ : ∃ U, U19.drew = U := ⟨_, rfl⟩
     have hbU : Below U19.heap.size U19 U := by rw [← hU]; exact (Below.refl _ _).drew
     have HBD := Lib.hid hbU
     have HBW := Lib.hid (chain HBU19.out hbU)
     have HFU := Lib.hid (Below.refl U.heap.size U)
     have mkS : ∀ z : World, Below U.heap.size U z → (fun (z : World) => z.rangeAt M12 0 [Value.string s.iss, .int .u64 s.num, .int .i64 s.fr, .int .i64 s.tt, .slice m4.SA 2 m4.sc, .int .i64 s.sg.idx, .slice m4.CA s.sg.cs.length m4.cc, .slice m4.PA s.sg.ps.length m4.pc] ∧ z.rangeAt M14 0 [Value.string s.iss, .int .u64 s.num, .int .i64 s.fr, .int .i64 s.tt, .slice (some ⟨g5, o5, none⟩) 1 sc5, .int .i64 s.sg.idx, .slice CA5 s.sg.cs.length cc5, .slice PA5 s.sg.ps.length pc5] ∧ z.rangeAt KB 0 PKL) z := fun z hz => ⟨row_range (cs := [Value.string s.iss, .int .u64 s.num, .int .i64 s.fr, .int .i64 s.tt, .slice m4.SA 2 m4.sc, .int .i64 s.sg.idx, .slice m4.CA s.sg.cs.length m4.cc, .slice m4.PA s.sg.ps.length m4.pc]) (row_on HXU19.out (chain hbU hz)), row_range (cs := [Value.string s.iss, .int .u64 s.num, .int .i64 s.fr, .int .i64 s.tt, .slice (some ⟨g5, o5, none⟩) 1 sc5, .int .i64 s.sg.idx, .slice CA5 s.sg.cs.length cc5, .slice PA5 s.sg.ps.length pc5]) (row_on HYU19.out (chain hbU hz)), row_range (cs := PKL) (row_on HKU19.out (chain hbU hz))⟩
     have hS0 : (fun (z : World) => z.rangeAt M12 0 [Value.string s.iss, .int .u64 s.num, .int .i64 s.fr, .int .i64 s.tt, .slice m4.SA 2 m4.sc, .int .i64 s.sg.idx, .slice m4.CA s.sg.cs.length m4.cc, .slice m4.PA s.sg.ps.length m4.pc] ∧ z.rangeAt M14 0 [Value.string s.iss, .int .u64 s.num, .int .i64 s.fr, .int .i64 s.tt, .slice (some ⟨g5, o5, none⟩) 1 sc5, .int .i64 s.sg.idx, .slice CA5 s.sg.cs.length cc5, .slice PA5 s.sg.ps.length pc5] ∧ z.rangeAt KB 0 PKL) U19.drew := by rw [hU]; exact mkS _ HFU.out
     clear hbU
     refine wp_region_held_drew (S := fun (z : World) => z.rangeAt M12 0 [Value.string s.iss, .int .u64 s.num, .int .i64 s.fr, .int .i64 s.tt, .slice m4.SA 2 m4.sc, .int .i64 s.sg.idx, .slice m4.CA s.sg.cs.length m4.cc, .slice m4.PA s.sg.ps.length m4.pc] ∧ z.rangeAt M14 0 [Value.string s.iss, .int .u64 s.num, .int .i64 s.fr, .int .i64 s.tt, .slice (some ⟨g5, o5, none⟩) 1 sc5, .int .i64 s.sg.idx, .slice CA5 s.sg.cs.length cc5, .slice PA5 s.sg.ps.length pc5] ∧ z.rangeAt KB 0 PKL) (by kernel_rfl) hS0 (fun hHeld => ?_)
     rw [hU] at hHeld ⊢
     clear hS0 hU
     refine wpAnyH_take (i := 0) (oi := { dst := some 163, op := .move (.tmp 11), type := 24, pos := "law.go:124", after := #[], guard := none }) (v := ?_) rfl (by kernel_rfl) (by kernel_rfl) (by kernel_rfl) (fun _ _ _ h => h) (Or.inl ⟨by rfl, ?_⟩) hHeld ?_
     rotate_left
     ·
      intro w hSw
      clear hSw
      go_simp
      try with_reducible rfl
     try simp only [Act.put, List.setIfInBounds_toArray, List.set_cons_zero, List.set_cons_succ]
     refine wpAnyH_take (i := 1) (oi := { dst := some 164, op := .binOp .eql 24 (.tmp 163) (.const (.int .i64 0)) 24, type := 4, pos := "law.go:124", after := #[{ on := 0, ground := .data }], guard := none }) (v := ?_) rfl (by kernel_rfl) (by kernel_rfl) (by kernel_rfl) (fun _ _ _ h => h) (Or.inl ⟨by rfl, ?_⟩) hHeld ?_
     rotate_left
     ·
      intro w hSw
      clear hSw
      go_simp
      try with_reducible rfl
     try simp only [Act.put, List.setIfInBounds_toArray, List.set_cons_zero, List.set_cons_succ]
     refine wpAnyH_take (i := 2) (oi := { dst := some 165, op := .move (.tmp 164), type := 4, pos := "law.go:124", after := #[{ on := 1, ground := .data }], guard := none }) (v := ?_) rfl (by kernel_rfl) (by kernel_rfl) (by kernel_rfl) (fun _ _ _ h => h) (Or.inl ⟨by rfl, ?_⟩) hHeld ?_
     rotate_left
     ·
      intro w hSw
      clear hSw
      go_simp
      try with_reducible rfl
     try simp only [Act.put, List.setIfInBounds_toArray, List.set_cons_zero, List.set_cons_succ]
     refine wpAnyH_take (i := 3) (oi := { dst := some 166, op := .move (.tmp 13), type := 24, pos := "law.go:124", after := #[{ on := 2, ground := .guard }], guard := some (2, true) }) (v := ?_) rfl (by kernel_rfl) (by kernel_rfl) (by kernel_rfl) (fun _ _ _ h => h) (Or.inl ⟨by rfl, ?_⟩) hHeld ?_
     rotate_left
     ·
      intro w hSw
      clear hSw
      go_simp
      try with_reducible rfl
     try simp only [Act.put, List.setIfInBounds_toArray, List.set_cons_zero, List.set_cons_succ]
     refine wpAnyH_take (i := 4) (oi := { dst := some 167, op := .binOp .eql 24 (.tmp 166) (.const (.int .i64 0)) 24, type := 4, pos := "law.go:124", after := #[{ on := 3, ground := .data }, { on := 2, ground := .guard }], guard := some (2, true) }) (v := ?_) rfl (by kernel_rfl) (by kernel_rfl) (by kernel_rfl) (fun _ _ _ h => h) (Or.inl ⟨by rfl, ?_⟩) hHeld ?_
     rotate_left
     ·
      intro w hSw
      clear hSw
      go_simp
      try with_reducible rfl
     try simp only [Act.put, List.setIfInBounds_toArray, List.set_cons_zero, List.set_cons_succ]
     refine wpAnyH_take (i := 5) (oi := { dst := some 168, op := .pick (.tmp 165) (.tmp 167) (.const (.bool false)), type := 4, pos := "law.go:124", after := #[{ on := 2, ground := .data }, { on := 4, ground := .data }], guard := none }) (v := ?_) rfl (by kernel_rfl) (by kernel_rfl) (by kernel_rfl) (fun _ _ _ h => h) (Or.inl ⟨by rfl, ?_⟩) hHeld ?_
     rotate_left
     ·
      intro w hSw
      clear hSw
      go_simp
      try with_reducible rfl
     try simp only [Act.put, List.setIfInBounds_toArray, List.set_cons_zero, List.set_cons_succ]
     refine wpAnyH_take (i := 6) (oi := { dst := some 169, op := .move (.tmp 168), type := 4, pos := "law.go:124", after := #[{ on := 5, ground := .data }, { on := 2, ground := .chain }], guard := none }) (v := ?_) rfl (by kernel_rfl) (by kernel_rfl) (by kernel_rfl) (fun _ _ _ h => h) (Or.inl ⟨by rfl, ?_⟩) hHeld ?_
     rotate_left
     ·
      intro w hSw
      clear hSw
      go_simp
      try with_reducible rfl
     try simp only [Act.put, List.setIfInBounds_toArray, List.set_cons_zero, List.set_cons_succ]
     refine wpAnyH_take (i := 7) (oi := { dst := some 170, op := .load 32 (.tmp 12), type := 32, pos := "law.go:124", after := #[{ on := 6, ground := .guard }], guard := some (6, true) }) (v := .agg ([Value.string s.iss, .int .u64 s.num, .int .i64 s.fr, .int .i64 s.tt, .slice m4.SA 2 m4.sc, .int .i64 s.sg.idx, .slice m4.CA s.sg.cs.length m4.cc, .slice m4.PA s.sg.ps.length m4.pc]).toArray) rfl (by kernel_rfl) (by kernel_rfl) (by kernel_rfl) (fun _ _ _ h => h) (yieldsIf_load_mid (by rfl) _ _ rfl _ _ rfl ([Value.string s.iss, .int .u64 s.num, .int .i64 s.fr, .int .i64 s.tt, .slice m4.SA 2 m4.sc, .int .i64 s.sg.idx, .slice m4.CA s.sg.cs.length m4.cc, .slice m4.PA s.sg.ps.length m4.pc]) _ (fun w hSw => hSw.1) Tryz.underlying32 rfl (sz8l _ rfl)) hHeld ?_
     try simp only [Act.put, List.setIfInBounds_toArray, List.set_cons_zero, List.set_cons_succ]
     refine wpAnyH_take (i := 8) (oi := { dst := some 171, op := .load 43 (.tmp 10), type := 43, pos := "law.go:124", after := #[{ on := 6, ground := .guard }], guard := some (6, true) }) (v := .agg (PKL).toArray) rfl (by kernel_rfl) (by kernel_rfl) (by kernel_rfl) (fun _ _ _ h => h) (yieldsIf_load_mid (by rfl) _ _ rfl _ _ rfl (PKL) _ (fun w hSw => hSw.2.2) Tryz.underlying43 rfl HSZL.out) hHeld ?_
     try simp only [Act.put, List.setIfInBounds_toArray, List.set_cons_zero, List.set_cons_succ]
     refine wpAnyH_ready (rs := [9]) (by kernel_rfl) (by simp) (AllReadyH.cons (o := { dst := some 172, op := .call { callee := .value (.func 17), args := #[.tmp 170, .tmp 171], argTypes := #[32, 43] }, type := 24, pos := "law.go:124", after := #[{ on := 7, ground := .data }, { on := 8, ground := .data }, { on := 6, ground := .chain }, { on := 6, ground := .guard }], guard := some (6, true) }) rfl (fun K hK => ?_) AllReadyH.nil)
     go_simp
     have h := HV1.out m4 U (HAU19.out.on (chain HBD.out HFU.out)) (chain HBW.out HFU.out)
     unfold rlC at h
     rw [HSL.out] at h
     refine h.mono ?_
     clear h
     rintro e y9 ⟨rfl, hb⟩
     have HFy9 := Lib.hid (chain HFU.out hb)
     clear hb
     go_simp
     refine hK.out _ _ (mkS _ HFy9.out) (fun hHeld2 => ?_)
     clear hK K hHeld
     have hHeld := hHeld2
     clear hHeld2
     try simp only [Act.put, List.setIfInBounds_toArray, List.set_cons_zero, List.set_cons_succ]
     refine wpAnyH_take (i := 10) (oi := { dst := some 173, op := .binOp .eql 24 (.tmp 172) (.const (.int .i64 0)) 24, type := 4, pos := "law.go:124", after := #[{ on := 9, ground := .data }, { on := 6, ground := .guard }], guard := some (6, true) }) (v := ?_) rfl (by kernel_rfl) (by kernel_rfl) (by kernel_rfl) (fun _ _ _ h => h) (Or.inl ⟨by rfl, ?_⟩) hHeld ?_
     rotate_left
     ·
      intro w hSw
      clear hSw
      go_simp
      try with_reducible rfl
     try simp only [Act.put, List.setIfInBounds_toArray, List.set_cons_zero, List.set_cons_succ]
     refine wpAnyH_take (i := 11) (oi := { dst := some 174, op := .pick (.tmp 169) (.tmp 173) (.const (.bool false)), type := 4, pos := "law.go:124", after := #[{ on := 6, ground := .data }, { on := 10, ground := .data }], guard := none }) (v := ?_) rfl (by kernel_rfl) (by kernel_rfl) (by kernel_rfl) (fun _ _ _ h => h) (Or.inl ⟨by rfl, ?_⟩) hHeld ?_
     rotate_left
     ·
      intro w hSw
      clear hSw
      go_simp
      try with_reducible rfl
     try simp only [Act.put, List.setIfInBounds_toArray, List.set_cons_zero, List.set_cons_succ]
     refine wpAnyH_take (i := 12) (oi := { dst := some 175, op := .move (.tmp 174), type := 4, pos := "law.go:124", after := #[{ on := 11, ground := .data }, { on := 9, ground := .chain }], guard := none }) (v := ?_) rfl (by kernel_rfl) (by kernel_rfl) (by kernel_rfl) (fun _ _ _ h => h) (Or.inl ⟨by rfl, ?_⟩) hHeld ?_
     rotate_left
     ·
      intro w hSw
      clear hSw
      go_simp
      try with_reducible rfl
     try simp only [Act.put, List.setIfInBounds_toArray, List.set_cons_zero, List.set_cons_succ]
     refine wpAnyH_take (i := 13) (oi := { dst := some 176, op := .load 32 (.tmp 14), type := 32, pos := "law.go:124", after := #[{ on := 12, ground := .guard }], guard := some (12, true) }) (v := .agg ([Value.string s.iss, .int .u64 s.num, .int .i64 s.fr, .int .i64 s.tt, .slice (some ⟨g5, o5, none⟩) 1 sc5, .int .i64 s.sg.idx, .slice CA5 s.sg.cs.length cc5, .slice PA5 s.sg.ps.length pc5]).toArray) rfl (by kernel_rfl) (by kernel_rfl) (by kernel_rfl) (fun _ _ _ h => h) (yieldsIf_load_mid (by rfl) _ _ rfl _ _ rfl ([Value.string s.iss, .int .u64 s.num, .int .i64 s.fr, .int .i64 s.tt, .slice (some ⟨g5, o5, none⟩) 1 sc5, .int .i64 s.sg.idx, .slice CA5 s.sg.cs.length cc5, .slice PA5 s.sg.ps.length pc5]) _ (fun w hSw => hSw.2.1) Tryz.underlying32 rfl (sz8l _ rfl)) hHeld ?_
     try simp only [Act.put, List.setIfInBounds_toArray, List.set_cons_zero, List.set_cons_succ]
     refine wpAnyH_take (i := 14) (oi := { dst := some 177, op := .load 43 (.tmp 10), type := 43, pos := "law.go:124", after := #[{ on := 12, ground := .guard }], guard := some (12, true) }) (v := .agg (PKL).toArray) rfl (by kernel_rfl) (by kernel_rfl) (by kernel_rfl) (fun _ _ _ h => h) (yieldsIf_load_mid (by rfl) _ _ rfl _ _ rfl (PKL) _ (fun w hSw => hSw.2.2) Tryz.underlying43 rfl HSZL.out) hHeld ?_
     try simp only [Act.put, List.setIfInBounds_toArray, List.set_cons_zero, List.set_cons_succ]
     refine wpAnyH_ready (rs := [15]) (by kernel_rfl) (by simp) (AllReadyH.cons (o := { dst := some 178, op := .call { callee := .value (.func 17), args := #[.tmp 176, .tmp 177], argTypes := #[32, 43] }, type := 24, pos := "law.go:124", after := #[{ on := 13, ground := .data }, { on := 14, ground := .data }, { on := 12, ground := .chain }, { on := 12, ground := .guard }], guard := some (12, true) }) rfl (fun K hK => ?_) AllReadyH.nil)
     go_simp
     have h := HV2.out ⟨some ⟨g5, o5, none⟩, sc5, CA5, cc5, PA5, pc5⟩ y9 (HQU19.out.on (chain HBD.out HFy9.out)) (chain HBW.out HFy9.out)
     unfold rlC at h
     dsimp only [List.length_cons, List.length_nil] at h
     refine h.mono ?_
     clear h
     rintro e y15 ⟨rfl, hb⟩
     have HFy15 := Lib.hid (chain HFy9.out hb)
     clear hb
     go_simp
     refine hK.out _ _ (mkS _ HFy15.out) (fun hHeld2 => ?_)
     clear hK K hHeld
     have hHeld := hHeld2
     clear hHeld2
     try simp only [Act.put, List.setIfInBounds_toArray, List.set_cons_zero, List.set_cons_succ]
     refine wpAnyH_take (i := 16) (oi := { dst := some 179, op := .binOp .eql 24 (.tmp 178) (.const (.int .i64 22)) 24, type := 4, pos := "law.go:124", after := #[{ on := 15, ground := .data }, { on := 12, ground := .guard }], guard := some (12, true) }) (v := ?_) rfl (by kernel_rfl) (by kernel_rfl) (by kernel_rfl) (fun _ _ _ h => h) (Or.inl ⟨by rfl, ?_⟩) hHeld ?_
     rotate_left
     ·
      intro w hSw
      clear hSw
      go_simp
      try with_reducible rfl
     try simp only [Act.put, List.setIfInBounds_toArray, List.set_cons_zero, List.set_cons_succ]
     refine wpAnyH_take (i := 17) (oi := { dst := some 180, op := .pick (.tmp 175) (.tmp 179) (.const (.bool false)), type := 4, pos := "law.go:124", after := #[{ on := 12, ground := .data }, { on := 16, ground := .data }], guard := none }) (v := ?_) rfl (by kernel_rfl) (by kernel_rfl) (by kernel_rfl) (fun _ _ _ h => h) (Or.inl ⟨by rfl, ?_⟩) hHeld ?_
     rotate_left
     ·
      intro w hSw
      clear hSw
      go_simp
      try with_reducible rfl
     try simp only [Act.put, List.setIfInBounds_toArray, List.set_cons_zero, List.set_cons_succ]
     refine wpAnyH_take (i := 18) (oi := { dst := some 181, op := .move (.tmp 180), type := 4, pos := "law.go:124", after := #[{ on := 17, ground := .data }, { on := 15, ground := .chain }], guard := none }) (v := ?_) rfl (by kernel_rfl) (by kernel_rfl) (by kernel_rfl) (fun _ _ _ h => h) (Or.inl ⟨by rfl, ?_⟩) hHeld ?_
     rotate_left
     ·
      intro w hSw
      clear hSw
      go_simp
      try with_reducible rfl
     try simp only [Act.put, List.setIfInBounds_toArray, List.set_cons_zero, List.set_cons_succ]
     refine wpAnyH_take (i := 20) (oi := { dst := some 183, op := .load 43 (.tmp 10), type := 43, pos := "law.go:124", after := #[{ on := 18, ground := .guard }], guard := some (18, true) }) (v := .agg (PKL).toArray) rfl (by kernel_rfl) (by kernel_rfl) (by kernel_rfl) (fun _ _ _ h => h) (yieldsIf_load_mid (by rfl) _ _ rfl _ _ rfl (PKL) _ (fun w hSw => hSw.2.2) Tryz.underlying43 rfl HSZL.out) hHeld ?_
     try simp only [Act.put, List.setIfInBounds_toArray, List.set_cons_zero, List.set_cons_succ]
     refine wpAnyH_ready (rs := [19]) (by kernel_rfl) (by simp) (AllReadyH.cons (o := { dst := some 182, op := .call { callee := .value (.func 8), args := #[], argTypes := #[] }, type := 32, pos := "law.go:124", after := #[{ on := 18, ground := .chain }, { on := 18, ground := .guard }], guard := some (18, true) }) rfl (fun K hK => ?_) AllReadyH.nil)
     go_simp
     refine (HEX.out y15).mono ?_
     rintro e y19 ⟨m8, rfl, hat, hb⟩
     have HE8 := Lib.hid hat
     clear hat
     unfold rlC exL
     dsimp only [List.length_cons, List.length_nil]
     have HFy19 := Lib.hid (chain HFy15.out hb)
     clear hb
     go_simp
     refine hK.out _ _ (mkS _ HFy19.out) (fun hHeld2 => ?_)
     clear hK K hHeld
     have hHeld := hHeld2
     clear hHeld2
     try simp only [Act.put, List.setIfInBounds_toArray, List.set_cons_zero, List.set_cons_succ]
     refine wpAnyH_ready (rs := [21]) (by kernel_rfl) (by simp) (AllReadyH.cons (o := { dst := some 184, op := .call { callee := .value (.func 17), args := #[.tmp 182, .tmp 183], argTypes := #[32, 43] }, type := 24, pos := "law.go:124", after := #[{ on := 19, ground := .data }, { on := 20, ground := .data }, { on := 19, ground := .chain }, { on := 18, ground := .guard }], guard := some (18, true) }) rfl (fun K hK => ?_) AllReadyH.nil)
     go_simp
     have h := HV3.out m8 y19 HE8.out (chain HBW.out HFy19.out)
     unfold rlC exL at h
     dsimp only [List.length_cons, List.length_nil] at h
     refine h.mono ?_
     clear h
     rintro e y21 ⟨rfl, hb⟩
     have HFy21 := Lib.hid (chain HFy19.out hb)
     clear hb
     go_simp
     refine hK.out _ _ (mkS _ HFy21.out) (fun hHeld2 => ?_)
     clear hK K hHeld
     have hHeld := hHeld2
     clear hHeld2
     try simp only [Act.put, List.setIfInBounds_toArray, List.set_cons_zero, List.set_cons_succ]
     refine wpAnyH_take (i := 22) (oi := { dst := some 185, op := .binOp .eql 24 (.tmp 184) (.const (.int .i64 22)) 24, type := 4, pos := "law.go:124", after := #[{ on := 21, ground := .data }, { on := 18, ground := .guard }], guard := some (18, true) }) (v := ?_) rfl (by kernel_rfl) (by kernel_rfl) (by kernel_rfl) (fun _ _ _ h => h) (Or.inl ⟨by rfl, ?_⟩) hHeld ?_
     rotate_left
     ·
      intro w hSw
      clear hSw
      go_simp
      try with_reducible rfl
     try simp only [Act.put, List.setIfInBounds_toArray, List.set_cons_zero, List.set_cons_succ]
     refine wpAnyH_take (i := 23) (oi := { dst := some 186, op := .pick (.tmp 181) (.tmp 185) (.const (.bool false)), type := 4, pos := "law.go:124", after := #[{ on := 18, ground := .data }, { on := 22, ground := .data }], guard := none }) (v := ?_) rfl (by kernel_rfl) (by kernel_rfl) (by kernel_rfl) (fun _ _ _ h => h) (Or.inl ⟨by rfl, ?_⟩) hHeld ?_
     rotate_left
     ·
      intro w hSw
      clear hSw
      go_simp
      try with_reducible rfl
     try simp only [Act.put, List.setIfInBounds_toArray, List.set_cons_zero, List.set_cons_succ]
     refine wpAnyH_take (i := 24) (oi := { dst := some 187, op := .move (.tmp 186), type := 4, pos := "law.go:124", after := #[{ on := 23, ground := .data }, { on := 21, ground := .chain }], guard := none }) (v := ?_) rfl (by kernel_rfl) (by kernel_rfl) (by kernel_rfl) (fun _ _ _ h => h) (Or.inl ⟨by rfl, ?_⟩) hHeld ?_
     rotate_left
     ·
      intro w hSw
      clear hSw
      go_simp
      try with_reducible rfl
     try simp only [Act.put, List.setIfInBounds_toArray, List.set_cons_zero, List.set_cons_succ]
     refine wpAnyH_take (i := 25) (oi := { dst := some 188, op := .build 32 #[], type := 32, pos := "law.go:124", after := #[{ on := 24, ground := .guard }], guard := some (24, true) }) (v := ?_) rfl (by kernel_rfl) (by kernel_rfl) (by kernel_rfl) (fun _ _ _ h => h) (Or.inl ⟨by rfl, ?_⟩) hHeld ?_
     rotate_left
     ·
      intro w hSw
      clear hSw
      go_simp
      try with_reducible rfl
     try simp only [Act.put, List.setIfInBounds_toArray, List.set_cons_zero, List.set_cons_succ]
     refine wpAnyH_take (i := 26) (oi := { dst := some 189, op := .load 43 (.tmp 10), type := 43, pos := "law.go:124", after := #[{ on := 24, ground := .guard }], guard := some (24, true) }) (v := .agg (PKL).toArray) rfl (by kernel_rfl) (by kernel_rfl) (by kernel_rfl) (fun _ _ _ h => h) (yieldsIf_load_mid (by rfl) _ _ rfl _ _ rfl (PKL) _ (fun w hSw => hSw.2.2) Tryz.underlying43 rfl HSZL.out) hHeld ?_
     try simp only [Act.put, List.setIfInBounds_toArray, List.set_cons_zero, List.set_cons_succ]
     refine wpAnyH_ready (rs := [27]) (by kernel_rfl) (by simp) (AllReadyH.cons (o := { dst := some 190, op := .call { callee := .value (.func 17), args := #[.tmp 188, .tmp 189], argTypes := #[32, 43] }, type := 24, pos := "law.go:124", after := #[{ on := 25, ground := .data }, { on := 26, ground := .data }, { on := 24, ground := .chain }, { on := 24, ground := .guard }], guard := some (24, true) }) rfl (fun K hK => ?_) AllReadyH.nil)
     go_simp
     have h := HV4.out y21 (chain HBW.out HFy21.out)
     unfold rlC at h
     dsimp only [List.length_nil] at h
     refine h.mono ?_
     clear h
     rintro e y27 ⟨rfl, hb⟩
     have HFy27 := Lib.hid (chain HFy21.out hb)
     clear hb
     go_simp
     refine hK.out _ _ (mkS _ HFy27.out) (fun hHeld2 => ?_)
     clear hK K hHeld
     have hHeld := hHeld2
     clear hHeld2
     try simp only [Act.put, List.setIfInBounds_toArray, List.set_cons_zero, List.set_cons_succ]
     refine wpAnyH_take (i := 28) (oi := { dst := some 191, op := .binOp .eql 24 (.tmp 190) (.const (.int .i64 8)) 24, type := 4, pos := "law.go:124", after := #[{ on := 27, ground := .data }, { on := 24, ground := .guard }], guard := some (24, true) }) (v := ?_) rfl (by kernel_rfl) (by kernel_rfl) (by kernel_rfl) (fun _ _ _ h => h) (Or.inl ⟨by rfl, ?_⟩) hHeld ?_
     rotate_left
     ·
      intro w hSw
      clear hSw
      go_simp
      try with_reducible rfl
     try simp only [Act.put, List.setIfInBounds_toArray, List.set_cons_zero, List.set_cons_succ]
     refine wpAnyH_take (i := 29) (oi := { dst := some 192, op := .pick (.tmp 187) (.tmp 191) (.const (.bool false)), type := 4, pos := "law.go:124", after := #[{ on := 24, ground := .data }, { on := 28, ground := .data }], guard := none }) (v := ?_) rfl (by kernel_rfl) (by kernel_rfl) (by kernel_rfl) (fun _ _ _ h => h) (Or.inl ⟨by rfl, ?_⟩) hHeld ?_
     rotate_left
     ·
      intro w hSw
      clear hSw
      go_simp
      try with_reducible rfl
     try simp only [Act.put, List.setIfInBounds_toArray, List.set_cons_zero, List.set_cons_succ]
     refine wpAnyH_take (i := 30) (oi := { dst := some 193, op := .move (.tmp 192), type := 4, pos := "law.go:124", after := #[{ on := 29, ground := .data }, { on := 27, ground := .chain }], guard := none }) (v := ?_) rfl (by kernel_rfl) (by kernel_rfl) (by kernel_rfl) (fun _ _ _ h => h) (Or.inl ⟨by rfl, ?_⟩) hHeld ?_
     rotate_left
     ·
      intro w hSw
      clear hSw
      go_simp
      try with_reducible rfl
     try simp only [Act.put, List.setIfInBounds_toArray, List.set_cons_zero, List.set_cons_succ]
     refine wpAnyH_take (i := 31) (oi := { dst := some 194, op := .move (.tmp 16), type := 24, pos := "law.go:124", after := #[{ on := 30, ground := .guard }], guard := some (30, true) }) (v := ?_) rfl (by kernel_rfl) (by kernel_rfl) (by kernel_rfl) (fun _ _ _ h => h) (Or.inl ⟨by rfl, ?_⟩) hHeld ?_
     rotate_left
     ·
      intro w hSw
      clear hSw
      go_simp
      try with_reducible rfl
     try simp only [Act.put, List.setIfInBounds_toArray, List.set_cons_zero, List.set_cons_succ]
     refine wpAnyH_take (i := 32) (oi := { dst := some 195, op := .binOp .eql 24 (.tmp 194) (.const (.int .i64 2)) 24, type := 4, pos := "law.go:124", after := #[{ on := 31, ground := .data }, { on := 30, ground := .guard }], guard := some (30, true) }) (v := ?_) rfl (by kernel_rfl) (by kernel_rfl) (by kernel_rfl) (fun _ _ _ h => h) (Or.inl ⟨by rfl, ?_⟩) hHeld ?_
     rotate_left
     ·
      intro w hSw
      clear hSw
      go_simp
      try with_reducible rfl
     try simp only [Act.put, List.setIfInBounds_toArray, List.set_cons_zero, List.set_cons_succ]
     refine wpAnyH_take (i := 33) (oi := { dst := some 196, op := .pick (.tmp 193) (.tmp 195) (.const (.bool false)), type := 4, pos := "law.go:124", after := #[{ on := 30, ground := .data }, { on := 32, ground := .data }], guard := none }) (v := ?_) rfl (by kernel_rfl) (by kernel_rfl) (by kernel_rfl) (fun _ _ _ h => h) (Or.inl ⟨by rfl, ?_⟩) hHeld ?_
     rotate_left
     ·
      intro w hSw
      clear hSw
      go_simp
      try with_reducible rfl
     try simp only [Act.put, List.setIfInBounds_toArray, List.set_cons_zero, List.set_cons_succ]
     refine wpAnyH_take (i := 34) (oi := { dst := some 197, op := .move (.tmp 196), type := 4, pos := "law.go:124", after := #[{ on := 33, ground := .data }, { on := 30, ground := .chain }], guard := none }) (v := ?_) rfl (by kernel_rfl) (by kernel_rfl) (by kernel_rfl) (fun _ _ _ h => h) (Or.inl ⟨by rfl, ?_⟩) hHeld ?_
     rotate_left
     ·
      intro w hSw
      clear hSw
      go_simp
      try with_reducible rfl
     try simp only [Act.put, List.setIfInBounds_toArray, List.set_cons_zero, List.set_cons_succ]
     refine wpAnyH_take (i := 35) (oi := { dst := some 198, op := .move (.tmp 18), type := 24, pos := "law.go:124", after := #[{ on := 34, ground := .guard }], guard := some (34, true) }) (v := ?_) rfl (by kernel_rfl) (by kernel_rfl) (by kernel_rfl) (fun _ _ _ h => h) (Or.inl ⟨by rfl, ?_⟩) hHeld ?_
     rotate_left
     ·
      intro w hSw
      clear hSw
      go_simp
      try with_reducible rfl
     try simp only [Act.put, List.setIfInBounds_toArray, List.set_cons_zero, List.set_cons_succ]
     refine wpAnyH_take (i := 36) (oi := { dst := some 199, op := .binOp .eql 24 (.tmp 198) (.const (.int .i64 8)) 24, type := 4, pos := "law.go:124", after := #[{ on := 35, ground := .data }, { on := 34, ground := .guard }], guard := some (34, true) }) (v := ?_) rfl (by kernel_rfl) (by kernel_rfl) (by kernel_rfl) (fun _ _ _ h => h) (Or.inl ⟨by rfl, ?_⟩) hHeld ?_
     rotate_left
     ·
      intro w hSw
      clear hSw
      go_simp
      try with_reducible rfl
     try simp only [Act.put, List.setIfInBounds_toArray, List.set_cons_zero, List.set_cons_succ]
     refine wpAnyH_take (i := 37) (oi := { dst := some 200, op := .pick (.tmp 197) (.tmp 199) (.const (.bool false)), type := 4, pos := "law.go:124", after := #[{ on := 34, ground := .data }, { on := 36, ground := .data }], guard := none }) (v := ?_) rfl (by kernel_rfl) (by kernel_rfl) (by kernel_rfl) (fun _ _ _ h => h) (Or.inl ⟨by rfl, ?_⟩) hHeld ?_
     rotate_left
     ·
      intro w hSw
      clear hSw
      go_simp
      try with_reducible rfl
     try simp only [Act.put, List.setIfInBounds_toArray, List.set_cons_zero, List.set_cons_succ]
     refine wpAnyH_take (i := 38) (oi := { dst := some 201, op := .move (.tmp 200), type := 4, pos := "law.go:124", after := #[{ on := 37, ground := .data }, { on := 34, ground := .chain }], guard := none }) (v := ?_) rfl (by kernel_rfl) (by kernel_rfl) (by kernel_rfl) (fun _ _ _ h => h) (Or.inl ⟨by rfl, ?_⟩) hHeld ?_
     rotate_left
     ·
      intro w hSw
      clear hSw
      go_simp
      try with_reducible rfl
     try simp only [Act.put, List.setIfInBounds_toArray, List.set_cons_zero, List.set_cons_succ]
     refine wpAnyH_take (i := 39) (oi := { dst := some 202, op := .move (.tmp 20), type := 24, pos := "law.go:124", after := #[{ on := 38, ground := .guard }], guard := some (38, true) }) (v := ?_) rfl (by kernel_rfl) (by kernel_rfl) (by kernel_rfl) (fun _ _ _ h => h) (Or.inl ⟨by rfl, ?_⟩) hHeld ?_
     rotate_left
     ·
      intro w hSw
      clear hSw
      go_simp
      try with_reducible rfl
     try simp only [Act.put, List.setIfInBounds_toArray, List.set_cons_zero, List.set_cons_succ]
     refine wpAnyH_take (i := 40) (oi := { dst := some 203, op := .binOp .eql 24 (.tmp 202) (.const (.int .i64 12)) 24, type := 4, pos := "law.go:124", after := #[{ on := 39, ground := .data }, { on := 38, ground := .guard }], guard := some (38, true) }) (v := ?_) rfl (by kernel_rfl) (by kernel_rfl) (by kernel_rfl) (fun _ _ _ h => h) (Or.inl ⟨by rfl, ?_⟩) hHeld ?_
     rotate_left
     ·
      intro w hSw
      clear hSw
      go_simp
      try with_reducible rfl
     try simp only [Act.put, List.setIfInBounds_toArray, List.set_cons_zero, List.set_cons_succ]
     refine wpAnyH_take (i := 41) (oi := { dst := some 204, op := .pick (.tmp 201) (.tmp 203) (.const (.bool false)), type := 4, pos := "law.go:124", after := #[{ on := 38, ground := .data }, { on := 40, ground := .data }], guard := none }) (v := ?_) rfl (by kernel_rfl) (by kernel_rfl) (by kernel_rfl) (fun _ _ _ h => h) (Or.inl ⟨by rfl, ?_⟩) hHeld ?_
     rotate_left
     ·
      intro w hSw
      clear hSw
      go_simp
      try with_reducible rfl
     try simp only [Act.put, List.setIfInBounds_toArray, List.set_cons_zero, List.set_cons_succ]
     refine wpAnyH_take (i := 42) (oi := { dst := some 205, op := .move (.tmp 204), type := 4, pos := "law.go:124", after := #[{ on := 41, ground := .data }, { on := 38, ground := .chain }], guard := none }) (v := ?_) rfl (by kernel_rfl) (by kernel_rfl) (by kernel_rfl) (fun _ _ _ h => h) (Or.inl ⟨by rfl, ?_⟩) hHeld ?_
     rotate_left
     ·
      intro w hSw
      clear hSw
      go_simp
      try with_reducible rfl
     try simp only [Act.put, List.setIfInBounds_toArray, List.set_cons_zero, List.set_cons_succ]
     refine wpAnyH_take (i := 43) (oi := { dst := some 206, op := .move (.tmp 24), type := 24, pos := "law.go:124", after := #[{ on := 42, ground := .guard }], guard := some (42, true) }) (v := ?_) rfl (by kernel_rfl) (by kernel_rfl) (by kernel_rfl) (fun _ _ _ h => h) (Or.inl ⟨by rfl, ?_⟩) hHeld ?_
     rotate_left
     ·
      intro w hSw
      clear hSw
      go_simp
      try with_reducible rfl
     try simp only [Act.put, List.setIfInBounds_toArray, List.set_cons_zero, List.set_cons_succ]
     refine wpAnyH_take (i := 44) (oi := { dst := some 207, op := .binOp .eql 24 (.tmp 206) (.const (.int .i64 12)) 24, type := 4, pos := "law.go:124", after := #[{ on := 43, ground := .data }, { on := 42, ground := .guard }], guard := some (42, true) }) (v := ?_) rfl (by kernel_rfl) (by kernel_rfl) (by kernel_rfl) (fun _ _ _ h => h) (Or.inl ⟨by rfl, ?_⟩) hHeld ?_
     rotate_left
     ·
      intro w hSw
      clear hSw
      go_simp
      try with_reducible rfl
     try simp only [Act.put, List.setIfInBounds_toArray, List.set_cons_zero, List.set_cons_succ]
     refine wpAnyH_take (i := 45) (oi := { dst := some 208, op := .pick (.tmp 205) (.tmp 207) (.const (.bool false)), type := 4, pos := "law.go:124", after := #[{ on := 42, ground := .data }, { on := 44, ground := .data }], guard := none }) (v := ?_) rfl (by kernel_rfl) (by kernel_rfl) (by kernel_rfl) (fun _ _ _ h => h) (Or.inl ⟨by rfl, ?_⟩) hHeld ?_
     rotate_left
     ·
      intro w hSw
      clear hSw
      go_simp
      try with_reducible rfl
     try simp only [Act.put, List.setIfInBounds_toArray, List.set_cons_zero, List.set_cons_succ]
     refine wpAnyH_take (i := 46) (oi := { dst := some 25, op := .assign (.tmp 208), type := 4, pos := "law.go:124", after := #[{ on := 45, ground := .data }, { on := 42, ground := .chain }, { on := 0, ground := .phase }, { on := 1, ground := .phase }, { on := 2, ground := .phase }, { on := 3, ground := .phase }, { on := 4, ground := .phase }, { on := 5, ground := .phase }, { on := 6, ground := .phase }, { on := 7, ground := .phase }, { on := 8, ground := .phase }, { on := 9, ground := .phase }, { on := 10, ground := .phase }, { on := 11, ground := .phase }, { on := 12, ground := .phase }, { on := 13, ground := .phase }, { on := 14, ground := .phase }, { on := 15, ground := .phase }, { on := 16, ground := .phase }, { on := 17, ground := .phase }, { on := 18, ground := .phase }, { on := 19, ground := .phase }, { on := 20, ground := .phase }, { on := 21, ground := .phase }, { on := 22, ground := .phase }, { on := 23, ground := .phase }, { on := 24, ground := .phase }, { on := 25, ground := .phase }, { on := 26, ground := .phase }, { on := 27, ground := .phase }, { on := 28, ground := .phase }, { on := 29, ground := .phase }, { on := 30, ground := .phase }, { on := 31, ground := .phase }, { on := 32, ground := .phase }, { on := 33, ground := .phase }, { on := 34, ground := .phase }, { on := 35, ground := .phase }, { on := 36, ground := .phase }, { on := 37, ground := .phase }, { on := 38, ground := .phase }, { on := 39, ground := .phase }, { on := 40, ground := .phase }, { on := 41, ground := .phase }, { on := 42, ground := .phase }, { on := 43, ground := .phase }, { on := 44, ground := .phase }, { on := 45, ground := .phase }], guard := none }) (v := ?_) rfl (by kernel_rfl) (by kernel_rfl) (by kernel_rfl) (fun _ _ _ h => h) (Or.inl ⟨by rfl, ?_⟩) hHeld ?_
     rotate_left
     ·
      intro w hSw
      clear hSw
      go_simp
      try with_reducible rfl
     try simp only [Act.put, List.setIfInBounds_toArray, List.set_cons_zero, List.set_cons_succ]
     refine wpAnyH_done (by kernel_rfl) ?_ _
     clear mkS
     have HBZ := Lib.hid (chain HBW.out HFy27.out)
     go_wp2_with fail
     refine (HAL.out y27).mono ?_
     rintro e U30 ⟨rfl, hb⟩
     have HB30 := Lib.hid (chain HBZ.out hb)
     clear hb
     go_wp2_with fail
     refine bodyPost_ret (v := .bool true) (by simp [results, Tryz.results3, go_sem]) rfl ⟨rfl, HB30.out⟩
end Sg
end Go.Proofs.YtcgffkkfeimifaaGreatDoor
