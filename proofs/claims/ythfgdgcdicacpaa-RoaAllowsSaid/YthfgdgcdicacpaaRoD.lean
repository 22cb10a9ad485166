/-
  THE WALKS of layer 14's reference: before, Check, Great. Written by wip/gen-rod.py.
-/
import Derived.Test.YthfgdgcdicacpaaRoC
import Derived.Test.YthfgdgcdicacpaaNumRefF
namespace Go.Proofs.Ythfgdgcdicacpaa
namespace Ro
open Go.RowKit Sha Adr
set_option linter.unusedVariables false
set_option linter.unusedSimpArgs false
theorem sz4p (a b c d : Value) : (Try.prog.info? 44).map (·.size) = some ([a, b, c, d] : List Value).length := by
  show _ = some 4
  kernel_rfl
theorem row54 {V : World} {M : Nat} {a b c d e : Value} {T : TypeId} (H : V.heap[M]? = some (.cells #[a, b, c, d, e] T (0, 0))) : V.rangeAt M 0 [a, b, c, d] := fun j v hj => by
  rw [cell_of_row _ _ _ _ _ _ H, Nat.zero_add]
  rcases j with _ | _ | _ | _ | j
  all_goals first | exact hj | (simp at hj)
theorem take54 {V : World} {g o : Nat} {a b c d e : Value} (H : V.rangeAt g o [a, b, c, d, e]) : V.rangeAt g o [a, b, c, d] := fun j v hj => by
  refine H j v ?_
  rcases j with _ | _ | _ | _ | j
  all_goals first | exact hj | (simp at hj)
theorem r54 {V : World} {g o : Nat} {a b c d e : Value} (H : V.rangeAt g o [a, b, c, d, e]) : V.cell? ⟨g, o + 4, none⟩ = some e := H 4 _ rfl
theorem c50 {V : World} {M : Nat} {a b c d e : Value} {T : TypeId} (H : V.heap[M]? = some (.cells #[a, b, c, d, e] T (0, 0))) : V.cell? ⟨M, 0, none⟩ = some a := cell_of_row _ _ _ _ _ _ H
theorem c53 {V : World} {M : Nat} {a b c d e : Value} {T : TypeId} (H : V.heap[M]? = some (.cells #[a, b, c, d, e] T (0, 0))) : V.cell? ⟨M, 3, none⟩ = some d := cell_of_row _ _ _ _ _ _ H
theorem c54 {V : World} {M : Nat} {a b c d e : Value} {T : TypeId} (H : V.heap[M]? = some (.cells #[a, b, c, d, e] T (0, 0))) : V.cell? ⟨M, 4, none⟩ = some e := cell_of_row _ _ _ _ _ _ H
theorem c43 {V : World} {M : Nat} {a b c d : Value} {T : TypeId} (H : V.heap[M]? = some (.cells #[a, b, c, d] T (0, 0))) : V.cell? ⟨M, 3, none⟩ = some d := cell_of_row _ _ _ _ _ _ H
theorem c20 {V : World} {M : Nat} {a b : Value} {T : TypeId} (H : V.heap[M]? = some (.cells #[a, b] T (0, 0))) : V.cell? ⟨M, 0, none⟩ = some a := cell_of_row _ _ _ _ _ _ H
theorem c21 {V : World} {M : Nat} {a b : Value} {T : TypeId} (H : V.heap[M]? = some (.cells #[a, b] T (0, 0))) : V.cell? ⟨M, 1, none⟩ = some b := cell_of_row _ _ _ _ _ _ H
theorem great_any (sy : Int) (n : Nat) (A : Option Addr) (c : Nat) (w : World) :
    Calls Try.prog 8 #[.agg #[.int .u32 sy, .slice A n c]] w fun e w' => e = .returned (.bool (decide (130 < n))) ∧ Below w.heap.size w w' := by
  have HB0 := Lib.hid (below_new w (.cells #[.int .u32 sy, .slice A n c] 25))
  by_cases h : 130 < n
  · rw [decide_eq_true h]
    have i1 : (n : Int) > 130 := by omega
    clear h
    go_enter Try.func8, Try.ntmps8
    go_wp2_with fail
    go_ret
    exact ⟨by first | rfl | (simp; omega), HB0.out⟩
  · rw [decide_eq_false h]
    have i1 : ¬ (n : Int) > 130 := by omega
    clear h
    go_enter Try.func8, Try.ntmps8
    go_wp2_with fail
    go_ret
    exact ⟨by first | rfl | (simp; omega), HB0.out⟩
theorem ltE_cmp (x y : Ap) : ltE x y = if x.f ≠ y.f then decide (x.f < y.f) else if cmp x.h x.l y.h y.l ≠ 0 then decide (cmp x.h x.l y.h y.l < 0) else if x.n ≠ y.n then decide (x.n < y.n) else decide (x.m < y.m) := by
  unfold ltE cmp
  by_cases h1 : x.f = y.f
  · rw [if_neg (by simpa using h1)]
    by_cases h2 : x.h = y.h ∧ x.l = y.l
    · rw [if_pos h2, if_neg (by simp)]
      by_cases h3 : x.n = y.n
      · rw [if_neg (by simpa using h3), decide_eq_decide]; omega
      · rw [if_pos h3, decide_eq_decide]; omega
    · rw [if_neg h2]
      by_cases h4 : x.h < y.h ∨ x.h = y.h ∧ x.l < y.l
      · rw [if_pos h4, if_pos (by decide), decide_eq_decide]; omega
      · rw [if_neg h4, if_pos (by decide), decide_eq_decide]; omega
  · rw [if_pos h1, decide_eq_decide]; omega
set_option maxRecDepth 100000 in
set_option maxHeartbeats 2000000 in
theorem rbefore_any (x y : Ap) (w : World) :
    Calls Try.prog 52 #[.agg #[.int .u8 x.f, .int .u64 x.h, .int .u64 x.l, .int .i64 x.n, .int .i64 x.m], .agg #[.int .u8 y.f, .int .u64 y.h, .int .u64 y.l, .int .i64 y.n, .int .i64 y.m]] w fun e w' => e = .returned (.bool (ltE x y)) ∧ Below w.heap.size w w' := by
  have hv := ltE_cmp x y
  obtain ⟨R, hR⟩ : ∃ R, ltE x y = R := ⟨_, rfl⟩
  rw [hR] at hv ⊢
  have HC := Lib.hid (fun (V : World) => rcmp_any x.h x.l y.h y.l V)
  generalize cmp x.h x.l y.h y.l = C at HC hv
  obtain ⟨xf, xh, xl, xn, xm⟩ := x
  obtain ⟨yf, yh, yl, yn, ym⟩ := y
  dsimp only at HC hv ⊢
  clear hR
  have HB0 := Lib.hid ((below_new w (.cells #[.int .u8 xf, .int .u64 xh, .int .u64 xl, .int .i64 xn, .int .i64 xm] 75)).alloc (by simp) (.cells #[.int .u8 yf, .int .u64 yh, .int .u64 yl, .int .i64 yn, .int .i64 ym] 75))
  have HX0 := Lib.hid (heap_alloc2_oldR w (.cells #[.int .u8 xf, .int .u64 xh, .int .u64 xl, .int .i64 xn, .int .i64 xm] 75) (.cells #[.int .u8 yf, .int .u64 yh, .int .u64 yl, .int .i64 yn, .int .i64 ym] 75))
  have HY0 := Lib.hid (heap_alloc2_newR w (.cells #[.int .u8 xf, .int .u64 xh, .int .u64 xl, .int .i64 xn, .int .i64 xm] 75) (.cells #[.int .u8 yf, .int .u64 yh, .int .u64 yl, .int .i64 yn, .int .i64 ym] 75))
  by_cases h1 : xf = yf
  · have i1 : (xf != yf) = false := by rw [bne_eq_false_iff_eq]; exact h1
    rw [if_neg (by simpa using h1)] at hv
    have HV := Lib.hid hv
    clear hv h1
    go_enter Try.func52, Try.ntmps52
    go_upto_region 1 with (fail)
    generalize hV : World.alloc (World.alloc w _) _ = V at HB0 HX0 HY0 ⊢
    clear hV
    obtain ⟨hlt, a0, a1, a2, a3, a4⟩ := facts5 HX0.out
    obtain ⟨hlt', b0, b1, b2, b3, b4⟩ := facts5 HY0.out
    go_wp2_with fail
    refine (HC.out V).mono ?_
    rintro e w2 ⟨rfl, hb⟩
    have HB2 := Lib.hid (chain HB0.out hb)
    have HX2 := Lib.hid (row_on HX0.out hb)
    have HY2 := Lib.hid (row_on HY0.out hb)
    clear hb a0 a1 a2 a3 a4 b0 b1 b2 b3 b4 hlt hlt'
    by_cases h2 : C = 0
    · subst h2
      have hv := HV.out
      rw [if_neg (by simp)] at hv
      obtain ⟨hlt, a0, a1, a2, a3, a4⟩ := facts5 HX2.out
      obtain ⟨hlt', b0, b1, b2, b3, b4⟩ := facts5 HY2.out
      by_cases h3 : xn = yn
      · rw [if_neg (by simpa using h3)] at hv
        have i3 : (xn != yn) = false := by rw [bne_eq_false_iff_eq]; exact h3
        have HV2 := Lib.hid hv
        clear hv h3 HV
        go_wp2_with fail
        go_ret
        exact ⟨by rw [HV2.out]; rfl, HB2.out⟩
      · rw [if_pos h3] at hv
        have i3 : (xn != yn) = true := by rw [bne_iff_ne]; exact h3
        have HV2 := Lib.hid hv
        clear hv h3 HV
        go_wp2_with fail
        go_ret
        exact ⟨by rw [HV2.out]; rfl, HB2.out⟩
    · have hv := HV.out
      rw [if_pos h2] at hv
      have i2 : (C != 0) = true := by rw [bne_iff_ne]; exact h2
      have HV2 := Lib.hid hv
      clear hv h2 HV
      go_wp2_with fail
      go_ret
      exact ⟨by rw [HV2.out]; rfl, HB2.out⟩
  · have i1 : (xf != yf) = true := by rw [bne_iff_ne]; exact h1
    rw [if_pos h1] at hv
    have HV := Lib.hid hv
    clear hv h1
    go_enter Try.func52, Try.ntmps52
    go_upto_region 1 with (fail)
    generalize hV : World.alloc (World.alloc w _) _ = V at HB0 HX0 HY0 ⊢
    clear hV
    obtain ⟨hlt, a0, a1, a2, a3, a4⟩ := facts5 HX0.out
    obtain ⟨hlt', b0, b1, b2, b3, b4⟩ := facts5 HY0.out
    go_wp2_with fail
    go_ret
    exact ⟨by rw [HV.out]; rfl, HB0.out⟩
set_option maxRecDepth 100000 in
set_option maxHeartbeats 8000000 in
theorem rcheck_ref (sy : Int) (ps : List Ap) (A : Option Addr) (c : Nat) (hl : ps.length ≤ 100000) (hwf : ∀ x ∈ ps, WfE x) (w : World) (hp : Aps A ps w) :
    Calls Try.prog 24 #[.agg #[.int .u32 sy, .slice A ps.length c]] w fun e w' => e = .returned (.int .i64 (raC ps)) ∧ Below w.heap.size w w' := by
  have HP := Lib.hid hp
  have HWF := Lib.hid hwf
  obtain ⟨n, hn⟩ : ∃ n, ps.length = n := ⟨_, rfl⟩
  have HN := Lib.hid hn
  obtain ⟨R, hR⟩ : ∃ R, raC ps = R := ⟨_, rfl⟩
  rw [hR]
  unfold raC at hR
  rw [hn] at hl hR ⊢
  obtain ⟨B, hBB⟩ : ∃ B, srt none ps = B := ⟨_, rfl⟩
  rw [hBB] at hR
  have HBB := Lib.hid hBB
  have HB0 := Lib.hid (below_new w (.cells #[.int .u32 sy, .slice A n c] 25))
  have HA0 := Lib.hid (heap_alloc_new w (.cells #[.int .u32 sy, .slice A n c] 25))
  clear hn hwf hp hBB
  by_cases h1 : 100 < n
  · rw [if_pos h1] at hR
    have HR := Lib.hid hR
    have i1 : (n : Int) > 100 := by omega
    clear hR h1
    go_enter Try.func24, Try.ntmps24
    go_wp2_with fail
    go_ret
    exact ⟨by rw [← HR.out]; rfl, HB0.out⟩
  · rw [if_neg h1] at hR
    have i1 : ¬ (n : Int) > 100 := by omega
    by_cases h2 : n = 0
    · subst h2
      rw [if_pos rfl] at hR
      have HR := Lib.hid hR
      clear hR h1
      go_enter Try.func24, Try.ntmps24
      go_wp2_with fail
      go_ret
      exact ⟨by rw [← HR.out]; rfl, HB0.out⟩
    · rw [if_neg h2] at hR
      have i2 : ((n : Int) == 0) = false := by rw [beq_eq_false_iff_ne]; omega
      have HRB : RowKit.Hid (B = false → R = 8) := Lib.hid (fun e => by rw [← hR, e]; rfl)
      have HRT : RowKit.Hid (B = true → R = 0) := Lib.hid (fun e => by rw [← hR, e]; rfl)
      clear h1 h2 hR
      go_enter Try.func24, Try.ntmps24
      go_upto_region 1 with (fail)
      generalize hV0 : World.alloc w _ = V0 at HB0 HA0 ⊢
      clear hV0
      obtain ⟨hlt0, c20, c21⟩ := facts2 HA0.out
      go_wp2_with fail
      clear hlt0 c20 c21
      go_loopw [3, 4] (fun i _ wr => ∃ k : Nat, k ≤ n ∧ i = .int .i64 (k : Int) ∧ RowKit.Hid (Below V0.heap.size V0 wr) ∧ RowKit.Hid (PrevAt ps B k)) (fun i _ _ => n - (intOf i).toNat)
      case atStart => exact ⟨0, by omega, rfl, Lib.hid (Below.refl _ _), Lib.hid (.inl ⟨rfl, by rw [List.drop_zero]; exact HBB.out.symm⟩)⟩
      case round =>
      obtain ⟨k, hk, rfl, HBw, HQ⟩ := hrel
      have HB := Lib.hid (chain HB0.out HBw.out)
      have HAW := Lib.hid (row_on HA0.out HBw.out)
      obtain ⟨hltA, a0, a1⟩ := facts2 HAW.out
      by_cases hlt : k < n
      · obtain ⟨x, hx⟩ : ∃ x, ps[k]? = some x := ⟨_, List.getElem?_eq_getElem (by rw [HN.out]; exact hlt)⟩
        obtain ⟨g, o, hA, r1⟩ := HP.out.row k x hx
        subst hA
        obtain ⟨c0, c1, c2, c3, c4⟩ := cells5 (rangeAt_on r1 HB.out)
        have hki : (k : Int) < (n : Int) := by omega
        have hwx := HWF.out x (List.mem_of_getElem? hx)
        have hck := fun (z : World) => rchk_any x.f x.h x.l x.n z hwx.h hwx.l
        have HWD := Lib.hid (fun (z : World) => (show Calls Try.prog 51 #[.int .u8 x.f] z fun e w' => e = .returned (.int .i64 (wid x.f)) ∧ Below z.heap.size z w' from (rwidth_any x.f z).mono (fun e z' h => ⟨h.1, by rw [← h.2]; exact Below.refl _ _⟩)))
        have HX := Lib.hid hx
        have hvE : vE x = (Adr.ok x.f x.h x.l x.n && decide (x.n ≤ x.m) && decide (x.m ≤ wid x.f)) := rfl
        have h9 := chk_ok0 x.f x.h x.l x.n
        have h8 := chk_no0 x.f x.h x.l x.n
        generalize chk x.f x.h x.l x.n = C at hck h9 h8
        generalize Adr.ok x.f x.h x.l x.n = OK at hvE h9 h8
        generalize wid x.f = W at HWD hvE
        have HCK := Lib.hid hck
        clear r1 hx hwx hck
        have hsplit : (C ≠ 0 ∧ vE x = false) ∨ (C = 0 ∧ x.m < x.n ∧ vE x = false) ∨ (C = 0 ∧ x.n ≤ x.m ∧ W < x.m ∧ vE x = false) ∨ (C = 0 ∧ x.n ≤ x.m ∧ x.m ≤ W ∧ vE x = true) := by
          rw [hvE]
          cases OK with
          | false => exact .inl ⟨by have := h8 rfl; omega, rfl⟩
          | true =>
            have hc := h9 rfl
            by_cases q1 : x.m < x.n
            · exact .inr (.inl ⟨hc, q1, by rw [decide_eq_false (show ¬ x.n ≤ x.m by omega)]; rfl⟩)
            · by_cases q2 : W < x.m
              · exact .inr (.inr (.inl ⟨hc, by omega, q2, by rw [decide_eq_false (show ¬ x.m ≤ W by omega), Bool.and_false]⟩))
              · exact .inr (.inr (.inr ⟨hc, by omega, by omega, by rw [decide_eq_true (show x.n ≤ x.m by omega), decide_eq_true (show x.m ≤ W by omega)]; rfl⟩))
        clear hvE h9 h8
        rcases hsplit with ⟨q1, hv⟩ | ⟨q1, q2, hv⟩ | ⟨q1, q2, q3, hv⟩ | ⟨q1, q2, q3, hv⟩
        rotate_left
        subst q1
        have HS := Lib.hid (HRB.out (PrevAt.no HQ.out HX.out hv))
        clear hv
        go_upto_region 9 with (fail)
        generalize hV : World.alloc wr _ = V
        have HBV := Lib.hid (show Below w.heap.size w V by rw [← hV]; exact chain HB.out (below_new _ _))
        have HBV0 := Lib.hid (show Below V0.heap.size V0 V by rw [← hV]; exact chain HBw.out (below_new _ _))
        have HAV := Lib.hid (show V.heap[w.heap.size]? = some (.cells #[.int .u32 sy, .slice (some ⟨g, o, none⟩) n c] 25 (0, 0)) by rw [← hV]; exact row_on HAW.out (below_new _ _))
        have HPV := Lib.hid (show Aps (some ⟨g, o, none⟩) ps V by rw [← hV]; exact (HP.out.on HB.out).on (below_new _ _))
        obtain ⟨X, hX⟩ : ∃ X, wr.heap.size = X := ⟨_, rfl⟩
        have HXR := Lib.hid (show V.heap[X]? = some (.cells #[.int .u8 x.f, .int .u64 x.h, .int .u64 x.l, .int .i64 x.n, .int .i64 x.m] 75 (0, 0)) by rw [← hV, ← hX]; exact heap_alloc_new _ _)
        try simp only [hX]
        clear hV hX
        have mkS : ∀ z, Below V.heap.size V z → (fun (z : World) => z.heap[X]? = some (.cells #[.int .u8 x.f, .int .u64 x.h, .int .u64 x.l, .int .i64 x.n, .int .i64 x.m] 75 (0, 0))) z := fun z hz => row_on HXR.out hz
        refine wp_region_held_drew (S := fun (z : World) => z.heap[X]? = some (.cells #[.int .u8 x.f, .int .u64 x.h, .int .u64 x.l, .int .i64 x.n, .int .i64 x.m] 75 (0, 0))) (by kernel_rfl) (mkS _ (Below.refl _ _).drew) (fun hHeld => ?_)
        generalize hU : World.drew V = U at hHeld ⊢
        have HBC := Lib.hid (show Below V.heap.size V U by rw [← hU]; exact (Below.refl _ _).drew)
        clear hU
        refine wpAnyH_take (i := 0) (oi := { dst := Option.some 25, op := Go.Op.fieldAddr 75 (Go.Operand.tmp 4) 0, type := 0, pos := "ref.go:45", after := #[], guard := Option.none }) (v := ?_) rfl (by kernel_rfl) (by kernel_rfl) (by kernel_rfl) (fun _ _ _ h => h) (Or.inl ⟨by rfl, ?_⟩) hHeld ?_
        rotate_left
        · intro w hSw
          clear hSw
          go_simp
          try with_reducible rfl
        try simp only [Act.put, List.setIfInBounds_toArray, List.set_cons_zero, List.set_cons_succ]
        refine wpAnyH_take (i := 1) (oi := { dst := Option.some 26, op := Go.Op.load 44 (Go.Operand.tmp 25), type := 44, pos := "ref.go:45", after := #[{ on := 0, ground := Go.Ground.data }], guard := Option.none }) (v := .agg ([.int .u8 x.f, .int .u64 x.h, .int .u64 x.l, .int .i64 x.n]).toArray) rfl (by kernel_rfl) (by kernel_rfl) (by kernel_rfl) (fun _ _ _ h => h) (yieldsIf_load_mid (by rfl) _ _ rfl _ _ rfl ([.int .u8 x.f, .int .u64 x.h, .int .u64 x.l, .int .i64 x.n]) _ (fun w hSw => hSw |> row54) Try.underlying44 rfl (sz4p _ _ _ _)) hHeld ?_
        try simp only [Act.put, List.setIfInBounds_toArray, List.set_cons_zero, List.set_cons_succ]
        refine wpAnyH_ready (rs := [2]) (by kernel_rfl) (by simp) (AllReadyH.cons (o := { dst := Option.some 27, op := Go.Op.call { callee := Go.Callee.value (Go.Operand.func 34), args := #[Go.Operand.tmp 26], argTypes := #[44] }, type := 3, pos := "ref.go:45", after := #[{ on := 1, ground := Go.Ground.data }], guard := Option.none }) rfl (fun K hK => ?_) AllReadyH.nil)
        go_simp
        refine (HCK.out U).mono ?_
        rintro e z2 ⟨rfl, hb⟩
        have HBC := Lib.hid (chain HBC.out hb)
        clear hb 
        go_simp
        refine hK.out _ _ (mkS _ HBC.out) (fun hHeld2 => ?_)
        clear hK K hHeld
        have hHeld := hHeld2
        clear hHeld2
        try simp only [Act.put, List.setIfInBounds_toArray, List.set_cons_zero, List.set_cons_succ]
        refine wpAnyH_take (i := 3) (oi := { dst := Option.some 28, op := Go.Op.binOp Go.BinOp.neq 3 (Go.Operand.tmp 27) (Go.Operand.const (Go.Value.int Go.IntKind.i64 0)) 3, type := 4, pos := "ref.go:45", after := #[{ on := 2, ground := Go.Ground.data }], guard := Option.none }) (v := .bool false) rfl (by kernel_rfl) (by kernel_rfl) (by kernel_rfl) (fun _ _ _ h => h) (Or.inl ⟨by rfl, ?_⟩) hHeld ?_
        · intro w hSw
          clear hSw
          go_simp
        try simp only [Act.put, List.setIfInBounds_toArray, List.set_cons_zero, List.set_cons_succ]
        refine wpAnyH_take (i := 4) (oi := { dst := Option.some 29, op := Go.Op.move (Go.Operand.tmp 28), type := 4, pos := "ref.go:45", after := #[{ on := 3, ground := Go.Ground.data }, { on := 2, ground := Go.Ground.chain }], guard := Option.none }) (v := ?_) rfl (by kernel_rfl) (by kernel_rfl) (by kernel_rfl) (fun _ _ _ h => h) (Or.inl ⟨by rfl, ?_⟩) hHeld ?_
        rotate_left
        · intro w hSw
          clear hSw
          go_simp
          try with_reducible rfl
        try simp only [Act.put, List.setIfInBounds_toArray, List.set_cons_zero, List.set_cons_succ]
        refine wpAnyH_take (i := 5) (oi := { dst := Option.some 30, op := Go.Op.fieldAddr 75 (Go.Operand.tmp 4) 1, type := 0, pos := "ref.go:45", after := #[{ on := 4, ground := Go.Ground.guard }], guard := Option.some (4, Bool.false) }) (v := ?_) rfl (by kernel_rfl) (by kernel_rfl) (by kernel_rfl) (fun _ _ _ h => h) (Or.inl ⟨by rfl, ?_⟩) hHeld ?_
        rotate_left
        · intro w hSw
          clear hSw
          go_simp
          try with_reducible rfl
        try simp only [Act.put, List.setIfInBounds_toArray, List.set_cons_zero, List.set_cons_succ]
        refine wpAnyH_take (i := 6) (oi := { dst := Option.some 31, op := Go.Op.load 3 (Go.Operand.tmp 30), type := 3, pos := "ref.go:45", after := #[{ on := 5, ground := Go.Ground.data }, { on := 4, ground := Go.Ground.guard }], guard := Option.some (4, Bool.false) }) (v := ?_) rfl (by kernel_rfl) (by kernel_rfl) (by kernel_rfl) (fun _ _ _ h => h) (Or.inl ⟨by rfl, ?_⟩) hHeld ?_
        rotate_left
        · intro w hSw
          have hfc0 := hSw |> c54
          clear hSw
          go_simp
          try with_reducible rfl
        try simp only [Act.put, List.setIfInBounds_toArray, List.set_cons_zero, List.set_cons_succ]
        refine wpAnyH_take (i := 7) (oi := { dst := Option.some 32, op := Go.Op.fieldAddr 75 (Go.Operand.tmp 4) 0, type := 0, pos := "ref.go:45", after := #[{ on := 4, ground := Go.Ground.guard }], guard := Option.some (4, Bool.false) }) (v := ?_) rfl (by kernel_rfl) (by kernel_rfl) (by kernel_rfl) (fun _ _ _ h => h) (Or.inl ⟨by rfl, ?_⟩) hHeld ?_
        rotate_left
        · intro w hSw
          clear hSw
          go_simp
          try with_reducible rfl
        try simp only [Act.put, List.setIfInBounds_toArray, List.set_cons_zero, List.set_cons_succ]
        refine wpAnyH_take (i := 8) (oi := { dst := Option.some 33, op := Go.Op.fieldAddr 44 (Go.Operand.tmp 32) 2, type := 0, pos := "ref.go:45", after := #[{ on := 7, ground := Go.Ground.data }, { on := 4, ground := Go.Ground.guard }], guard := Option.some (4, Bool.false) }) (v := ?_) rfl (by kernel_rfl) (by kernel_rfl) (by kernel_rfl) (fun _ _ _ h => h) (Or.inl ⟨by rfl, ?_⟩) hHeld ?_
        rotate_left
        · intro w hSw
          clear hSw
          go_simp
          try with_reducible rfl
        try simp only [Act.put, List.setIfInBounds_toArray, List.set_cons_zero, List.set_cons_succ]
        refine wpAnyH_take (i := 9) (oi := { dst := Option.some 34, op := Go.Op.load 3 (Go.Operand.tmp 33), type := 3, pos := "ref.go:45", after := #[{ on := 8, ground := Go.Ground.data }, { on := 4, ground := Go.Ground.guard }], guard := Option.some (4, Bool.false) }) (v := ?_) rfl (by kernel_rfl) (by kernel_rfl) (by kernel_rfl) (fun _ _ _ h => h) (Or.inl ⟨by rfl, ?_⟩) hHeld ?_
        rotate_left
        · intro w hSw
          have hfc0 := hSw |> c53
          clear hSw
          go_simp
          try with_reducible rfl
        try simp only [Act.put, List.setIfInBounds_toArray, List.set_cons_zero, List.set_cons_succ]
        refine wpAnyH_take (i := 10) (oi := { dst := Option.some 35, op := Go.Op.binOp Go.BinOp.lss 3 (Go.Operand.tmp 31) (Go.Operand.tmp 34) 3, type := 4, pos := "ref.go:45", after := #[{ on := 6, ground := Go.Ground.data }, { on := 9, ground := Go.Ground.data }, { on := 4, ground := Go.Ground.guard }], guard := Option.some (4, Bool.false) }) (v := .bool true) rfl (by kernel_rfl) (by kernel_rfl) (by kernel_rfl) (fun _ _ _ h => h) (Or.inl ⟨by rfl, ?_⟩) hHeld ?_
        · intro w hSw
          clear hSw
          go_simp
          try omega
        try simp only [Act.put, List.setIfInBounds_toArray, List.set_cons_zero, List.set_cons_succ]
        refine wpAnyH_take (i := 11) (oi := { dst := Option.some 36, op := Go.Op.pick (Go.Operand.tmp 29) (Go.Operand.const (Go.Value.bool Bool.true)) (Go.Operand.tmp 35), type := 4, pos := "ref.go:45", after := #[{ on := 4, ground := Go.Ground.data }, { on := 10, ground := Go.Ground.data }], guard := Option.none }) (v := ?_) rfl (by kernel_rfl) (by kernel_rfl) (by kernel_rfl) (fun _ _ _ h => h) (Or.inl ⟨by rfl, ?_⟩) hHeld ?_
        rotate_left
        · intro w hSw
          clear hSw
          go_simp
          try with_reducible rfl
        try simp only [Act.put, List.setIfInBounds_toArray, List.set_cons_zero, List.set_cons_succ]
        refine wpAnyH_take (i := 12) (oi := { dst := Option.some 37, op := Go.Op.move (Go.Operand.tmp 36), type := 4, pos := "ref.go:45", after := #[{ on := 11, ground := Go.Ground.data }, { on := 4, ground := Go.Ground.chain }], guard := Option.none }) (v := ?_) rfl (by kernel_rfl) (by kernel_rfl) (by kernel_rfl) (fun _ _ _ h => h) (Or.inl ⟨by rfl, ?_⟩) hHeld ?_
        rotate_left
        · intro w hSw
          clear hSw
          go_simp
          try with_reducible rfl
        try simp only [Act.put, List.setIfInBounds_toArray, List.set_cons_zero, List.set_cons_succ]
        refine wpAnyH_take (i := 13) (oi := { dst := Option.some 38, op := Go.Op.fieldAddr 75 (Go.Operand.tmp 4) 1, type := 0, pos := "ref.go:45", after := #[{ on := 12, ground := Go.Ground.guard }], guard := Option.some (12, Bool.false) }) (v := undef) rfl (by kernel_rfl) (by kernel_rfl) (by kernel_rfl) (fun _ _ _ h => h) (Or.inr ⟨by rfl, rfl⟩) hHeld ?_
        try simp only [Act.put, List.setIfInBounds_toArray, List.set_cons_zero, List.set_cons_succ]
        refine wpAnyH_take (i := 14) (oi := { dst := Option.some 39, op := Go.Op.load 3 (Go.Operand.tmp 38), type := 3, pos := "ref.go:45", after := #[{ on := 13, ground := Go.Ground.data }, { on := 12, ground := Go.Ground.guard }], guard := Option.some (12, Bool.false) }) (v := undef) rfl (by kernel_rfl) (by kernel_rfl) (by kernel_rfl) (fun _ _ _ h => h) (Or.inr ⟨by rfl, rfl⟩) hHeld ?_
        try simp only [Act.put, List.setIfInBounds_toArray, List.set_cons_zero, List.set_cons_succ]
        refine wpAnyH_take (i := 15) (oi := { dst := Option.some 40, op := Go.Op.fieldAddr 75 (Go.Operand.tmp 4) 0, type := 0, pos := "ref.go:45", after := #[{ on := 12, ground := Go.Ground.guard }], guard := Option.some (12, Bool.false) }) (v := undef) rfl (by kernel_rfl) (by kernel_rfl) (by kernel_rfl) (fun _ _ _ h => h) (Or.inr ⟨by rfl, rfl⟩) hHeld ?_
        try simp only [Act.put, List.setIfInBounds_toArray, List.set_cons_zero, List.set_cons_succ]
        refine wpAnyH_take (i := 16) (oi := { dst := Option.some 41, op := Go.Op.fieldAddr 44 (Go.Operand.tmp 40) 0, type := 0, pos := "ref.go:45", after := #[{ on := 15, ground := Go.Ground.data }, { on := 12, ground := Go.Ground.guard }], guard := Option.some (12, Bool.false) }) (v := undef) rfl (by kernel_rfl) (by kernel_rfl) (by kernel_rfl) (fun _ _ _ h => h) (Or.inr ⟨by rfl, rfl⟩) hHeld ?_
        try simp only [Act.put, List.setIfInBounds_toArray, List.set_cons_zero, List.set_cons_succ]
        refine wpAnyH_take (i := 17) (oi := { dst := Option.some 42, op := Go.Op.load 5 (Go.Operand.tmp 41), type := 5, pos := "ref.go:45", after := #[{ on := 16, ground := Go.Ground.data }, { on := 12, ground := Go.Ground.guard }], guard := Option.some (12, Bool.false) }) (v := undef) rfl (by kernel_rfl) (by kernel_rfl) (by kernel_rfl) (fun _ _ _ h => h) (Or.inr ⟨by rfl, rfl⟩) hHeld ?_
        try simp only [Act.put, List.setIfInBounds_toArray, List.set_cons_zero, List.set_cons_succ]
        refine wpAnyH_take (i := 18) (oi := { dst := Option.some 43, op := Go.Op.call { callee := Go.Callee.value (Go.Operand.func 51), args := #[Go.Operand.tmp 42], argTypes := #[5] }, type := 3, pos := "ref.go:45", after := #[{ on := 17, ground := Go.Ground.data }, { on := 12, ground := Go.Ground.chain }, { on := 12, ground := Go.Ground.guard }], guard := Option.some (12, Bool.false) }) (v := undef) rfl (by kernel_rfl) (by kernel_rfl) (by kernel_rfl) (fun _ _ _ h => h) (Or.inr ⟨by rfl, rfl⟩) hHeld ?_
        try simp only [Act.put, List.setIfInBounds_toArray, List.set_cons_zero, List.set_cons_succ]
        refine wpAnyH_take (i := 19) (oi := { dst := Option.some 44, op := Go.Op.binOp Go.BinOp.gtr 3 (Go.Operand.tmp 39) (Go.Operand.tmp 43) 3, type := 4, pos := "ref.go:45", after := #[{ on := 14, ground := Go.Ground.data }, { on := 18, ground := Go.Ground.data }, { on := 12, ground := Go.Ground.guard }], guard := Option.some (12, Bool.false) }) (v := undef) rfl (by kernel_rfl) (by kernel_rfl) (by kernel_rfl) (fun _ _ _ h => h) (Or.inr ⟨by rfl, rfl⟩) hHeld ?_
        try simp only [Act.put, List.setIfInBounds_toArray, List.set_cons_zero, List.set_cons_succ]
        refine wpAnyH_take (i := 20) (oi := { dst := Option.some 45, op := Go.Op.pick (Go.Operand.tmp 37) (Go.Operand.const (Go.Value.bool Bool.true)) (Go.Operand.tmp 44), type := 4, pos := "ref.go:45", after := #[{ on := 12, ground := Go.Ground.data }, { on := 19, ground := Go.Ground.data }], guard := Option.none }) (v := ?_) rfl (by kernel_rfl) (by kernel_rfl) (by kernel_rfl) (fun _ _ _ h => h) (Or.inl ⟨by rfl, ?_⟩) hHeld ?_
        rotate_left
        · intro w hSw
          clear hSw
          go_simp
          try with_reducible rfl
        try simp only [Act.put, List.setIfInBounds_toArray, List.set_cons_zero, List.set_cons_succ]
        refine wpAnyH_done (by kernel_rfl) ?_ _
        go_wp2_with fail
        go_ret
        exact ⟨by rw [HS.out]; rfl, chain HBV.out HBC.out⟩
        subst q1
        have HS := Lib.hid (HRB.out (PrevAt.no HQ.out HX.out hv))
        clear hv
        go_upto_region 9 with (fail)
        generalize hV : World.alloc wr _ = V
        have HBV := Lib.hid (show Below w.heap.size w V by rw [← hV]; exact chain HB.out (below_new _ _))
        have HBV0 := Lib.hid (show Below V0.heap.size V0 V by rw [← hV]; exact chain HBw.out (below_new _ _))
        have HAV := Lib.hid (show V.heap[w.heap.size]? = some (.cells #[.int .u32 sy, .slice (some ⟨g, o, none⟩) n c] 25 (0, 0)) by rw [← hV]; exact row_on HAW.out (below_new _ _))
        have HPV := Lib.hid (show Aps (some ⟨g, o, none⟩) ps V by rw [← hV]; exact (HP.out.on HB.out).on (below_new _ _))
        obtain ⟨X, hX⟩ : ∃ X, wr.heap.size = X := ⟨_, rfl⟩
        have HXR := Lib.hid (show V.heap[X]? = some (.cells #[.int .u8 x.f, .int .u64 x.h, .int .u64 x.l, .int .i64 x.n, .int .i64 x.m] 75 (0, 0)) by rw [← hV, ← hX]; exact heap_alloc_new _ _)
        try simp only [hX]
        clear hV hX
        have mkS : ∀ z, Below V.heap.size V z → (fun (z : World) => z.heap[X]? = some (.cells #[.int .u8 x.f, .int .u64 x.h, .int .u64 x.l, .int .i64 x.n, .int .i64 x.m] 75 (0, 0))) z := fun z hz => row_on HXR.out hz
        refine wp_region_held_drew (S := fun (z : World) => z.heap[X]? = some (.cells #[.int .u8 x.f, .int .u64 x.h, .int .u64 x.l, .int .i64 x.n, .int .i64 x.m] 75 (0, 0))) (by kernel_rfl) (mkS _ (Below.refl _ _).drew) (fun hHeld => ?_)
        generalize hU : World.drew V = U at hHeld ⊢
        have HBC := Lib.hid (show Below V.heap.size V U by rw [← hU]; exact (Below.refl _ _).drew)
        clear hU
        refine wpAnyH_take (i := 0) (oi := { dst := Option.some 25, op := Go.Op.fieldAddr 75 (Go.Operand.tmp 4) 0, type := 0, pos := "ref.go:45", after := #[], guard := Option.none }) (v := ?_) rfl (by kernel_rfl) (by kernel_rfl) (by kernel_rfl) (fun _ _ _ h => h) (Or.inl ⟨by rfl, ?_⟩) hHeld ?_
        rotate_left
        · intro w hSw
          clear hSw
          go_simp
          try with_reducible rfl
        try simp only [Act.put, List.setIfInBounds_toArray, List.set_cons_zero, List.set_cons_succ]
        refine wpAnyH_take (i := 1) (oi := { dst := Option.some 26, op := Go.Op.load 44 (Go.Operand.tmp 25), type := 44, pos := "ref.go:45", after := #[{ on := 0, ground := Go.Ground.data }], guard := Option.none }) (v := .agg ([.int .u8 x.f, .int .u64 x.h, .int .u64 x.l, .int .i64 x.n]).toArray) rfl (by kernel_rfl) (by kernel_rfl) (by kernel_rfl) (fun _ _ _ h => h) (yieldsIf_load_mid (by rfl) _ _ rfl _ _ rfl ([.int .u8 x.f, .int .u64 x.h, .int .u64 x.l, .int .i64 x.n]) _ (fun w hSw => hSw |> row54) Try.underlying44 rfl (sz4p _ _ _ _)) hHeld ?_
        try simp only [Act.put, List.setIfInBounds_toArray, List.set_cons_zero, List.set_cons_succ]
        refine wpAnyH_ready (rs := [2]) (by kernel_rfl) (by simp) (AllReadyH.cons (o := { dst := Option.some 27, op := Go.Op.call { callee := Go.Callee.value (Go.Operand.func 34), args := #[Go.Operand.tmp 26], argTypes := #[44] }, type := 3, pos := "ref.go:45", after := #[{ on := 1, ground := Go.Ground.data }], guard := Option.none }) rfl (fun K hK => ?_) AllReadyH.nil)
        go_simp
        refine (HCK.out U).mono ?_
        rintro e z2 ⟨rfl, hb⟩
        have HBC := Lib.hid (chain HBC.out hb)
        clear hb 
        go_simp
        refine hK.out _ _ (mkS _ HBC.out) (fun hHeld2 => ?_)
        clear hK K hHeld
        have hHeld := hHeld2
        clear hHeld2
        try simp only [Act.put, List.setIfInBounds_toArray, List.set_cons_zero, List.set_cons_succ]
        refine wpAnyH_take (i := 3) (oi := { dst := Option.some 28, op := Go.Op.binOp Go.BinOp.neq 3 (Go.Operand.tmp 27) (Go.Operand.const (Go.Value.int Go.IntKind.i64 0)) 3, type := 4, pos := "ref.go:45", after := #[{ on := 2, ground := Go.Ground.data }], guard := Option.none }) (v := .bool false) rfl (by kernel_rfl) (by kernel_rfl) (by kernel_rfl) (fun _ _ _ h => h) (Or.inl ⟨by rfl, ?_⟩) hHeld ?_
        · intro w hSw
          clear hSw
          go_simp
        try simp only [Act.put, List.setIfInBounds_toArray, List.set_cons_zero, List.set_cons_succ]
        refine wpAnyH_take (i := 4) (oi := { dst := Option.some 29, op := Go.Op.move (Go.Operand.tmp 28), type := 4, pos := "ref.go:45", after := #[{ on := 3, ground := Go.Ground.data }, { on := 2, ground := Go.Ground.chain }], guard := Option.none }) (v := ?_) rfl (by kernel_rfl) (by kernel_rfl) (by kernel_rfl) (fun _ _ _ h => h) (Or.inl ⟨by rfl, ?_⟩) hHeld ?_
        rotate_left
        · intro w hSw
          clear hSw
          go_simp
          try with_reducible rfl
        try simp only [Act.put, List.setIfInBounds_toArray, List.set_cons_zero, List.set_cons_succ]
        refine wpAnyH_take (i := 5) (oi := { dst := Option.some 30, op := Go.Op.fieldAddr 75 (Go.Operand.tmp 4) 1, type := 0, pos := "ref.go:45", after := #[{ on := 4, ground := Go.Ground.guard }], guard := Option.some (4, Bool.false) }) (v := ?_) rfl (by kernel_rfl) (by kernel_rfl) (by kernel_rfl) (fun _ _ _ h => h) (Or.inl ⟨by rfl, ?_⟩) hHeld ?_
        rotate_left
        · intro w hSw
          clear hSw
          go_simp
          try with_reducible rfl
        try simp only [Act.put, List.setIfInBounds_toArray, List.set_cons_zero, List.set_cons_succ]
        refine wpAnyH_take (i := 6) (oi := { dst := Option.some 31, op := Go.Op.load 3 (Go.Operand.tmp 30), type := 3, pos := "ref.go:45", after := #[{ on := 5, ground := Go.Ground.data }, { on := 4, ground := Go.Ground.guard }], guard := Option.some (4, Bool.false) }) (v := ?_) rfl (by kernel_rfl) (by kernel_rfl) (by kernel_rfl) (fun _ _ _ h => h) (Or.inl ⟨by rfl, ?_⟩) hHeld ?_
        rotate_left
        · intro w hSw
          have hfc0 := hSw |> c54
          clear hSw
          go_simp
          try with_reducible rfl
        try simp only [Act.put, List.setIfInBounds_toArray, List.set_cons_zero, List.set_cons_succ]
        refine wpAnyH_take (i := 7) (oi := { dst := Option.some 32, op := Go.Op.fieldAddr 75 (Go.Operand.tmp 4) 0, type := 0, pos := "ref.go:45", after := #[{ on := 4, ground := Go.Ground.guard }], guard := Option.some (4, Bool.false) }) (v := ?_) rfl (by kernel_rfl) (by kernel_rfl) (by kernel_rfl) (fun _ _ _ h => h) (Or.inl ⟨by rfl, ?_⟩) hHeld ?_
        rotate_left
        · intro w hSw
          clear hSw
          go_simp
          try with_reducible rfl
        try simp only [Act.put, List.setIfInBounds_toArray, List.set_cons_zero, List.set_cons_succ]
        refine wpAnyH_take (i := 8) (oi := { dst := Option.some 33, op := Go.Op.fieldAddr 44 (Go.Operand.tmp 32) 2, type := 0, pos := "ref.go:45", after := #[{ on := 7, ground := Go.Ground.data }, { on := 4, ground := Go.Ground.guard }], guard := Option.some (4, Bool.false) }) (v := ?_) rfl (by kernel_rfl) (by kernel_rfl) (by kernel_rfl) (fun _ _ _ h => h) (Or.inl ⟨by rfl, ?_⟩) hHeld ?_
        rotate_left
        · intro w hSw
          clear hSw
          go_simp
          try with_reducible rfl
        try simp only [Act.put, List.setIfInBounds_toArray, List.set_cons_zero, List.set_cons_succ]
        refine wpAnyH_take (i := 9) (oi := { dst := Option.some 34, op := Go.Op.load 3 (Go.Operand.tmp 33), type := 3, pos := "ref.go:45", after := #[{ on := 8, ground := Go.Ground.data }, { on := 4, ground := Go.Ground.guard }], guard := Option.some (4, Bool.false) }) (v := ?_) rfl (by kernel_rfl) (by kernel_rfl) (by kernel_rfl) (fun _ _ _ h => h) (Or.inl ⟨by rfl, ?_⟩) hHeld ?_
        rotate_left
        · intro w hSw
          have hfc0 := hSw |> c53
          clear hSw
          go_simp
          try with_reducible rfl
        try simp only [Act.put, List.setIfInBounds_toArray, List.set_cons_zero, List.set_cons_succ]
        refine wpAnyH_take (i := 10) (oi := { dst := Option.some 35, op := Go.Op.binOp Go.BinOp.lss 3 (Go.Operand.tmp 31) (Go.Operand.tmp 34) 3, type := 4, pos := "ref.go:45", after := #[{ on := 6, ground := Go.Ground.data }, { on := 9, ground := Go.Ground.data }, { on := 4, ground := Go.Ground.guard }], guard := Option.some (4, Bool.false) }) (v := .bool false) rfl (by kernel_rfl) (by kernel_rfl) (by kernel_rfl) (fun _ _ _ h => h) (Or.inl ⟨by rfl, ?_⟩) hHeld ?_
        · intro w hSw
          clear hSw
          go_simp
          try omega
        try simp only [Act.put, List.setIfInBounds_toArray, List.set_cons_zero, List.set_cons_succ]
        refine wpAnyH_take (i := 11) (oi := { dst := Option.some 36, op := Go.Op.pick (Go.Operand.tmp 29) (Go.Operand.const (Go.Value.bool Bool.true)) (Go.Operand.tmp 35), type := 4, pos := "ref.go:45", after := #[{ on := 4, ground := Go.Ground.data }, { on := 10, ground := Go.Ground.data }], guard := Option.none }) (v := ?_) rfl (by kernel_rfl) (by kernel_rfl) (by kernel_rfl) (fun _ _ _ h => h) (Or.inl ⟨by rfl, ?_⟩) hHeld ?_
        rotate_left
        · intro w hSw
          clear hSw
          go_simp
          try with_reducible rfl
        try simp only [Act.put, List.setIfInBounds_toArray, List.set_cons_zero, List.set_cons_succ]
        refine wpAnyH_take (i := 12) (oi := { dst := Option.some 37, op := Go.Op.move (Go.Operand.tmp 36), type := 4, pos := "ref.go:45", after := #[{ on := 11, ground := Go.Ground.data }, { on := 4, ground := Go.Ground.chain }], guard := Option.none }) (v := ?_) rfl (by kernel_rfl) (by kernel_rfl) (by kernel_rfl) (fun _ _ _ h => h) (Or.inl ⟨by rfl, ?_⟩) hHeld ?_
        rotate_left
        · intro w hSw
          clear hSw
          go_simp
          try with_reducible rfl
        try simp only [Act.put, List.setIfInBounds_toArray, List.set_cons_zero, List.set_cons_succ]
        refine wpAnyH_take (i := 13) (oi := { dst := Option.some 38, op := Go.Op.fieldAddr 75 (Go.Operand.tmp 4) 1, type := 0, pos := "ref.go:45", after := #[{ on := 12, ground := Go.Ground.guard }], guard := Option.some (12, Bool.false) }) (v := ?_) rfl (by kernel_rfl) (by kernel_rfl) (by kernel_rfl) (fun _ _ _ h => h) (Or.inl ⟨by rfl, ?_⟩) hHeld ?_
        rotate_left
        · intro w hSw
          clear hSw
          go_simp
          try with_reducible rfl
        try simp only [Act.put, List.setIfInBounds_toArray, List.set_cons_zero, List.set_cons_succ]
        refine wpAnyH_take (i := 14) (oi := { dst := Option.some 39, op := Go.Op.load 3 (Go.Operand.tmp 38), type := 3, pos := "ref.go:45", after := #[{ on := 13, ground := Go.Ground.data }, { on := 12, ground := Go.Ground.guard }], guard := Option.some (12, Bool.false) }) (v := ?_) rfl (by kernel_rfl) (by kernel_rfl) (by kernel_rfl) (fun _ _ _ h => h) (Or.inl ⟨by rfl, ?_⟩) hHeld ?_
        rotate_left
        · intro w hSw
          have hfc0 := hSw |> c54
          clear hSw
          go_simp
          try with_reducible rfl
        try simp only [Act.put, List.setIfInBounds_toArray, List.set_cons_zero, List.set_cons_succ]
        refine wpAnyH_take (i := 15) (oi := { dst := Option.some 40, op := Go.Op.fieldAddr 75 (Go.Operand.tmp 4) 0, type := 0, pos := "ref.go:45", after := #[{ on := 12, ground := Go.Ground.guard }], guard := Option.some (12, Bool.false) }) (v := ?_) rfl (by kernel_rfl) (by kernel_rfl) (by kernel_rfl) (fun _ _ _ h => h) (Or.inl ⟨by rfl, ?_⟩) hHeld ?_
        rotate_left
        · intro w hSw
          clear hSw
          go_simp
          try with_reducible rfl
        try simp only [Act.put, List.setIfInBounds_toArray, List.set_cons_zero, List.set_cons_succ]
        refine wpAnyH_take (i := 16) (oi := { dst := Option.some 41, op := Go.Op.fieldAddr 44 (Go.Operand.tmp 40) 0, type := 0, pos := "ref.go:45", after := #[{ on := 15, ground := Go.Ground.data }, { on := 12, ground := Go.Ground.guard }], guard := Option.some (12, Bool.false) }) (v := ?_) rfl (by kernel_rfl) (by kernel_rfl) (by kernel_rfl) (fun _ _ _ h => h) (Or.inl ⟨by rfl, ?_⟩) hHeld ?_
        rotate_left
        · intro w hSw
          clear hSw
          go_simp
          try with_reducible rfl
        try simp only [Act.put, List.setIfInBounds_toArray, List.set_cons_zero, List.set_cons_succ]
        refine wpAnyH_take (i := 17) (oi := { dst := Option.some 42, op := Go.Op.load 5 (Go.Operand.tmp 41), type := 5, pos := "ref.go:45", after := #[{ on := 16, ground := Go.Ground.data }, { on := 12, ground := Go.Ground.guard }], guard := Option.some (12, Bool.false) }) (v := ?_) rfl (by kernel_rfl) (by kernel_rfl) (by kernel_rfl) (fun _ _ _ h => h) (Or.inl ⟨by rfl, ?_⟩) hHeld ?_
        rotate_left
        · intro w hSw
          have hfc0 := hSw |> c50
          clear hSw
          go_simp
          try with_reducible rfl
        try simp only [Act.put, List.setIfInBounds_toArray, List.set_cons_zero, List.set_cons_succ]
        refine wpAnyH_ready (rs := [18]) (by kernel_rfl) (by simp) (AllReadyH.cons (o := { dst := Option.some 43, op := Go.Op.call { callee := Go.Callee.value (Go.Operand.func 51), args := #[Go.Operand.tmp 42], argTypes := #[5] }, type := 3, pos := "ref.go:45", after := #[{ on := 17, ground := Go.Ground.data }, { on := 12, ground := Go.Ground.chain }, { on := 12, ground := Go.Ground.guard }], guard := Option.some (12, Bool.false) }) rfl (fun K hK => ?_) AllReadyH.nil)
        go_simp
        refine (HWD.out z2).mono ?_
        rintro e z18 ⟨rfl, hb⟩
        have HBC := Lib.hid (chain HBC.out hb)
        clear hb 
        go_simp
        refine hK.out _ _ (mkS _ HBC.out) (fun hHeld2 => ?_)
        clear hK K hHeld
        have hHeld := hHeld2
        clear hHeld2
        try simp only [Act.put, List.setIfInBounds_toArray, List.set_cons_zero, List.set_cons_succ]
        refine wpAnyH_take (i := 19) (oi := { dst := Option.some 44, op := Go.Op.binOp Go.BinOp.gtr 3 (Go.Operand.tmp 39) (Go.Operand.tmp 43) 3, type := 4, pos := "ref.go:45", after := #[{ on := 14, ground := Go.Ground.data }, { on := 18, ground := Go.Ground.data }, { on := 12, ground := Go.Ground.guard }], guard := Option.some (12, Bool.false) }) (v := .bool true) rfl (by kernel_rfl) (by kernel_rfl) (by kernel_rfl) (fun _ _ _ h => h) (Or.inl ⟨by rfl, ?_⟩) hHeld ?_
        · intro w hSw
          clear hSw
          go_simp
          try omega
        try simp only [Act.put, List.setIfInBounds_toArray, List.set_cons_zero, List.set_cons_succ]
        refine wpAnyH_take (i := 20) (oi := { dst := Option.some 45, op := Go.Op.pick (Go.Operand.tmp 37) (Go.Operand.const (Go.Value.bool Bool.true)) (Go.Operand.tmp 44), type := 4, pos := "ref.go:45", after := #[{ on := 12, ground := Go.Ground.data }, { on := 19, ground := Go.Ground.data }], guard := Option.none }) (v := ?_) rfl (by kernel_rfl) (by kernel_rfl) (by kernel_rfl) (fun _ _ _ h => h) (Or.inl ⟨by rfl, ?_⟩) hHeld ?_
        rotate_left
        · intro w hSw
          clear hSw
          go_simp
          try with_reducible rfl
        try simp only [Act.put, List.setIfInBounds_toArray, List.set_cons_zero, List.set_cons_succ]
        refine wpAnyH_done (by kernel_rfl) ?_ _
        go_wp2_with fail
        go_ret
        exact ⟨by rw [HS.out]; rfl, chain HBV.out HBC.out⟩
        subst q1
        have HV := Lib.hid hv
        clear hv
        go_upto_region 9 with (fail)
        generalize hV : World.alloc wr _ = V
        have HBV := Lib.hid (show Below w.heap.size w V by rw [← hV]; exact chain HB.out (below_new _ _))
        have HBV0 := Lib.hid (show Below V0.heap.size V0 V by rw [← hV]; exact chain HBw.out (below_new _ _))
        have HAV := Lib.hid (show V.heap[w.heap.size]? = some (.cells #[.int .u32 sy, .slice (some ⟨g, o, none⟩) n c] 25 (0, 0)) by rw [← hV]; exact row_on HAW.out (below_new _ _))
        have HPV := Lib.hid (show Aps (some ⟨g, o, none⟩) ps V by rw [← hV]; exact (HP.out.on HB.out).on (below_new _ _))
        obtain ⟨X, hX⟩ : ∃ X, wr.heap.size = X := ⟨_, rfl⟩
        have HXR := Lib.hid (show V.heap[X]? = some (.cells #[.int .u8 x.f, .int .u64 x.h, .int .u64 x.l, .int .i64 x.n, .int .i64 x.m] 75 (0, 0)) by rw [← hV, ← hX]; exact heap_alloc_new _ _)
        try simp only [hX]
        clear hV hX
        have mkS : ∀ z, Below V.heap.size V z → (fun (z : World) => z.heap[X]? = some (.cells #[.int .u8 x.f, .int .u64 x.h, .int .u64 x.l, .int .i64 x.n, .int .i64 x.m] 75 (0, 0))) z := fun z hz => row_on HXR.out hz
        refine wp_region_held_drew (S := fun (z : World) => z.heap[X]? = some (.cells #[.int .u8 x.f, .int .u64 x.h, .int .u64 x.l, .int .i64 x.n, .int .i64 x.m] 75 (0, 0))) (by kernel_rfl) (mkS _ (Below.refl _ _).drew) (fun hHeld => ?_)
        generalize hU : World.drew V = U at hHeld ⊢
        have HBC := Lib.hid (show Below V.heap.size V U by rw [← hU]; exact (Below.refl _ _).drew)
        clear hU
        refine wpAnyH_take (i := 0) (oi := { dst := Option.some 25, op := Go.Op.fieldAddr 75 (Go.Operand.tmp 4) 0, type := 0, pos := "ref.go:45", after := #[], guard := Option.none }) (v := ?_) rfl (by kernel_rfl) (by kernel_rfl) (by kernel_rfl) (fun _ _ _ h => h) (Or.inl ⟨by rfl, ?_⟩) hHeld ?_
        rotate_left
        · intro w hSw
          clear hSw
          go_simp
          try with_reducible rfl
        try simp only [Act.put, List.setIfInBounds_toArray, List.set_cons_zero, List.set_cons_succ]
        refine wpAnyH_take (i := 1) (oi := { dst := Option.some 26, op := Go.Op.load 44 (Go.Operand.tmp 25), type := 44, pos := "ref.go:45", after := #[{ on := 0, ground := Go.Ground.data }], guard := Option.none }) (v := .agg ([.int .u8 x.f, .int .u64 x.h, .int .u64 x.l, .int .i64 x.n]).toArray) rfl (by kernel_rfl) (by kernel_rfl) (by kernel_rfl) (fun _ _ _ h => h) (yieldsIf_load_mid (by rfl) _ _ rfl _ _ rfl ([.int .u8 x.f, .int .u64 x.h, .int .u64 x.l, .int .i64 x.n]) _ (fun w hSw => hSw |> row54) Try.underlying44 rfl (sz4p _ _ _ _)) hHeld ?_
        try simp only [Act.put, List.setIfInBounds_toArray, List.set_cons_zero, List.set_cons_succ]
        refine wpAnyH_ready (rs := [2]) (by kernel_rfl) (by simp) (AllReadyH.cons (o := { dst := Option.some 27, op := Go.Op.call { callee := Go.Callee.value (Go.Operand.func 34), args := #[Go.Operand.tmp 26], argTypes := #[44] }, type := 3, pos := "ref.go:45", after := #[{ on := 1, ground := Go.Ground.data }], guard := Option.none }) rfl (fun K hK => ?_) AllReadyH.nil)
        go_simp
        refine (HCK.out U).mono ?_
        rintro e z2 ⟨rfl, hb⟩
        have HBC := Lib.hid (chain HBC.out hb)
        clear hb 
        go_simp
        refine hK.out _ _ (mkS _ HBC.out) (fun hHeld2 => ?_)
        clear hK K hHeld
        have hHeld := hHeld2
        clear hHeld2
        try simp only [Act.put, List.setIfInBounds_toArray, List.set_cons_zero, List.set_cons_succ]
        refine wpAnyH_take (i := 3) (oi := { dst := Option.some 28, op := Go.Op.binOp Go.BinOp.neq 3 (Go.Operand.tmp 27) (Go.Operand.const (Go.Value.int Go.IntKind.i64 0)) 3, type := 4, pos := "ref.go:45", after := #[{ on := 2, ground := Go.Ground.data }], guard := Option.none }) (v := .bool false) rfl (by kernel_rfl) (by kernel_rfl) (by kernel_rfl) (fun _ _ _ h => h) (Or.inl ⟨by rfl, ?_⟩) hHeld ?_
        · intro w hSw
          clear hSw
          go_simp
        try simp only [Act.put, List.setIfInBounds_toArray, List.set_cons_zero, List.set_cons_succ]
        refine wpAnyH_take (i := 4) (oi := { dst := Option.some 29, op := Go.Op.move (Go.Operand.tmp 28), type := 4, pos := "ref.go:45", after := #[{ on := 3, ground := Go.Ground.data }, { on := 2, ground := Go.Ground.chain }], guard := Option.none }) (v := ?_) rfl (by kernel_rfl) (by kernel_rfl) (by kernel_rfl) (fun _ _ _ h => h) (Or.inl ⟨by rfl, ?_⟩) hHeld ?_
        rotate_left
        · intro w hSw
          clear hSw
          go_simp
          try with_reducible rfl
        try simp only [Act.put, List.setIfInBounds_toArray, List.set_cons_zero, List.set_cons_succ]
        refine wpAnyH_take (i := 5) (oi := { dst := Option.some 30, op := Go.Op.fieldAddr 75 (Go.Operand.tmp 4) 1, type := 0, pos := "ref.go:45", after := #[{ on := 4, ground := Go.Ground.guard }], guard := Option.some (4, Bool.false) }) (v := ?_) rfl (by kernel_rfl) (by kernel_rfl) (by kernel_rfl) (fun _ _ _ h => h) (Or.inl ⟨by rfl, ?_⟩) hHeld ?_
        rotate_left
        · intro w hSw
          clear hSw
          go_simp
          try with_reducible rfl
        try simp only [Act.put, List.setIfInBounds_toArray, List.set_cons_zero, List.set_cons_succ]
        refine wpAnyH_take (i := 6) (oi := { dst := Option.some 31, op := Go.Op.load 3 (Go.Operand.tmp 30), type := 3, pos := "ref.go:45", after := #[{ on := 5, ground := Go.Ground.data }, { on := 4, ground := Go.Ground.guard }], guard := Option.some (4, Bool.false) }) (v := ?_) rfl (by kernel_rfl) (by kernel_rfl) (by kernel_rfl) (fun _ _ _ h => h) (Or.inl ⟨by rfl, ?_⟩) hHeld ?_
        rotate_left
        · intro w hSw
          have hfc0 := hSw |> c54
          clear hSw
          go_simp
          try with_reducible rfl
        try simp only [Act.put, List.setIfInBounds_toArray, List.set_cons_zero, List.set_cons_succ]
        refine wpAnyH_take (i := 7) (oi := { dst := Option.some 32, op := Go.Op.fieldAddr 75 (Go.Operand.tmp 4) 0, type := 0, pos := "ref.go:45", after := #[{ on := 4, ground := Go.Ground.guard }], guard := Option.some (4, Bool.false) }) (v := ?_) rfl (by kernel_rfl) (by kernel_rfl) (by kernel_rfl) (fun _ _ _ h => h) (Or.inl ⟨by rfl, ?_⟩) hHeld ?_
        rotate_left
        · intro w hSw
          clear hSw
          go_simp
          try with_reducible rfl
        try simp only [Act.put, List.setIfInBounds_toArray, List.set_cons_zero, List.set_cons_succ]
        refine wpAnyH_take (i := 8) (oi := { dst := Option.some 33, op := Go.Op.fieldAddr 44 (Go.Operand.tmp 32) 2, type := 0, pos := "ref.go:45", after := #[{ on := 7, ground := Go.Ground.data }, { on := 4, ground := Go.Ground.guard }], guard := Option.some (4, Bool.false) }) (v := ?_) rfl (by kernel_rfl) (by kernel_rfl) (by kernel_rfl) (fun _ _ _ h => h) (Or.inl ⟨by rfl, ?_⟩) hHeld ?_
        rotate_left
        · intro w hSw
          clear hSw
          go_simp
          try with_reducible rfl
        try simp only [Act.put, List.setIfInBounds_toArray, List.set_cons_zero, List.set_cons_succ]
        refine wpAnyH_take (i := 9) (oi := { dst := Option.some 34, op := Go.Op.load 3 (Go.Operand.tmp 33), type := 3, pos := "ref.go:45", after := #[{ on := 8, ground := Go.Ground.data }, { on := 4, ground := Go.Ground.guard }], guard := Option.some (4, Bool.false) }) (v := ?_) rfl (by kernel_rfl) (by kernel_rfl) (by kernel_rfl) (fun _ _ _ h => h) (Or.inl ⟨by rfl, ?_⟩) hHeld ?_
        rotate_left
        · intro w hSw
          have hfc0 := hSw |> c53
          clear hSw
          go_simp
          try with_reducible rfl
        try simp only [Act.put, List.setIfInBounds_toArray, List.set_cons_zero, List.set_cons_succ]
        refine wpAnyH_take (i := 10) (oi := { dst := Option.some 35, op := Go.Op.binOp Go.BinOp.lss 3 (Go.Operand.tmp 31) (Go.Operand.tmp 34) 3, type := 4, pos := "ref.go:45", after := #[{ on := 6, ground := Go.Ground.data }, { on := 9, ground := Go.Ground.data }, { on := 4, ground := Go.Ground.guard }], guard := Option.some (4, Bool.false) }) (v := .bool false) rfl (by kernel_rfl) (by kernel_rfl) (by kernel_rfl) (fun _ _ _ h => h) (Or.inl ⟨by rfl, ?_⟩) hHeld ?_
        · intro w hSw
          clear hSw
          go_simp
          try omega
        try simp only [Act.put, List.setIfInBounds_toArray, List.set_cons_zero, List.set_cons_succ]
        refine wpAnyH_take (i := 11) (oi := { dst := Option.some 36, op := Go.Op.pick (Go.Operand.tmp 29) (Go.Operand.const (Go.Value.bool Bool.true)) (Go.Operand.tmp 35), type := 4, pos := "ref.go:45", after := #[{ on := 4, ground := Go.Ground.data }, { on := 10, ground := Go.Ground.data }], guard := Option.none }) (v := ?_) rfl (by kernel_rfl) (by kernel_rfl) (by kernel_rfl) (fun _ _ _ h => h) (Or.inl ⟨by rfl, ?_⟩) hHeld ?_
        rotate_left
        · intro w hSw
          clear hSw
          go_simp
          try with_reducible rfl
        try simp only [Act.put, List.setIfInBounds_toArray, List.set_cons_zero, List.set_cons_succ]
        refine wpAnyH_take (i := 12) (oi := { dst := Option.some 37, op := Go.Op.move (Go.Operand.tmp 36), type := 4, pos := "ref.go:45", after := #[{ on := 11, ground := Go.Ground.data }, { on := 4, ground := Go.Ground.chain }], guard := Option.none }) (v := ?_) rfl (by kernel_rfl) (by kernel_rfl) (by kernel_rfl) (fun _ _ _ h => h) (Or.inl ⟨by rfl, ?_⟩) hHeld ?_
        rotate_left
        · intro w hSw
          clear hSw
          go_simp
          try with_reducible rfl
        try simp only [Act.put, List.setIfInBounds_toArray, List.set_cons_zero, List.set_cons_succ]
        refine wpAnyH_take (i := 13) (oi := { dst := Option.some 38, op := Go.Op.fieldAddr 75 (Go.Operand.tmp 4) 1, type := 0, pos := "ref.go:45", after := #[{ on := 12, ground := Go.Ground.guard }], guard := Option.some (12, Bool.false) }) (v := ?_) rfl (by kernel_rfl) (by kernel_rfl) (by kernel_rfl) (fun _ _ _ h => h) (Or.inl ⟨by rfl, ?_⟩) hHeld ?_
        rotate_left
        · intro w hSw
          clear hSw
          go_simp
          try with_reducible rfl
        try simp only [Act.put, List.setIfInBounds_toArray, List.set_cons_zero, List.set_cons_succ]
        refine wpAnyH_take (i := 14) (oi := { dst := Option.some 39, op := Go.Op.load 3 (Go.Operand.tmp 38), type := 3, pos := "ref.go:45", after := #[{ on := 13, ground := Go.Ground.data }, { on := 12, ground := Go.Ground.guard }], guard := Option.some (12, Bool.false) }) (v := ?_) rfl (by kernel_rfl) (by kernel_rfl) (by kernel_rfl) (fun _ _ _ h => h) (Or.inl ⟨by rfl, ?_⟩) hHeld ?_
        rotate_left
        · intro w hSw
          have hfc0 := hSw |> c54
          clear hSw
          go_simp
          try with_reducible rfl
        try simp only [Act.put, List.setIfInBounds_toArray, List.set_cons_zero, List.set_cons_succ]
        refine wpAnyH_take (i := 15) (oi := { dst := Option.some 40, op := Go.Op.fieldAddr 75 (Go.Operand.tmp 4) 0, type := 0, pos := "ref.go:45", after := #[{ on := 12, ground := Go.Ground.guard }], guard := Option.some (12, Bool.false) }) (v := ?_) rfl (by kernel_rfl) (by kernel_rfl) (by kernel_rfl) (fun _ _ _ h => h) (Or.inl ⟨by rfl, ?_⟩) hHeld ?_
        rotate_left
        · intro w hSw
          clear hSw
          go_simp
          try with_reducible rfl
        try simp only [Act.put, List.setIfInBounds_toArray, List.set_cons_zero, List.set_cons_succ]
        refine wpAnyH_take (i := 16) (oi := { dst := Option.some 41, op := Go.Op.fieldAddr 44 (Go.Operand.tmp 40) 0, type := 0, pos := "ref.go:45", after := #[{ on := 15, ground := Go.Ground.data }, { on := 12, ground := Go.Ground.guard }], guard := Option.some (12, Bool.false) }) (v := ?_) rfl (by kernel_rfl) (by kernel_rfl) (by kernel_rfl) (fun _ _ _ h => h) (Or.inl ⟨by rfl, ?_⟩) hHeld ?_
        rotate_left
        · intro w hSw
          clear hSw
          go_simp
          try with_reducible rfl
        try simp only [Act.put, List.setIfInBounds_toArray, List.set_cons_zero, List.set_cons_succ]
        refine wpAnyH_take (i := 17) (oi := { dst := Option.some 42, op := Go.Op.load 5 (Go.Operand.tmp 41), type := 5, pos := "ref.go:45", after := #[{ on := 16, ground := Go.Ground.data }, { on := 12, ground := Go.Ground.guard }], guard := Option.some (12, Bool.false) }) (v := ?_) rfl (by kernel_rfl) (by kernel_rfl) (by kernel_rfl) (fun _ _ _ h => h) (Or.inl ⟨by rfl, ?_⟩) hHeld ?_
        rotate_left
        · intro w hSw
          have hfc0 := hSw |> c50
          clear hSw
          go_simp
          try with_reducible rfl
        try simp only [Act.put, List.setIfInBounds_toArray, List.set_cons_zero, List.set_cons_succ]
        refine wpAnyH_ready (rs := [18]) (by kernel_rfl) (by simp) (AllReadyH.cons (o := { dst := Option.some 43, op := Go.Op.call { callee := Go.Callee.value (Go.Operand.func 51), args := #[Go.Operand.tmp 42], argTypes := #[5] }, type := 3, pos := "ref.go:45", after := #[{ on := 17, ground := Go.Ground.data }, { on := 12, ground := Go.Ground.chain }, { on := 12, ground := Go.Ground.guard }], guard := Option.some (12, Bool.false) }) rfl (fun K hK => ?_) AllReadyH.nil)
        go_simp
        refine (HWD.out z2).mono ?_
        rintro e z18 ⟨rfl, hb⟩
        have HBC := Lib.hid (chain HBC.out hb)
        clear hb 
        go_simp
        refine hK.out _ _ (mkS _ HBC.out) (fun hHeld2 => ?_)
        clear hK K hHeld
        have hHeld := hHeld2
        clear hHeld2
        try simp only [Act.put, List.setIfInBounds_toArray, List.set_cons_zero, List.set_cons_succ]
        refine wpAnyH_take (i := 19) (oi := { dst := Option.some 44, op := Go.Op.binOp Go.BinOp.gtr 3 (Go.Operand.tmp 39) (Go.Operand.tmp 43) 3, type := 4, pos := "ref.go:45", after := #[{ on := 14, ground := Go.Ground.data }, { on := 18, ground := Go.Ground.data }, { on := 12, ground := Go.Ground.guard }], guard := Option.some (12, Bool.false) }) (v := .bool false) rfl (by kernel_rfl) (by kernel_rfl) (by kernel_rfl) (fun _ _ _ h => h) (Or.inl ⟨by rfl, ?_⟩) hHeld ?_
        · intro w hSw
          clear hSw
          go_simp
          try omega
        try simp only [Act.put, List.setIfInBounds_toArray, List.set_cons_zero, List.set_cons_succ]
        refine wpAnyH_take (i := 20) (oi := { dst := Option.some 45, op := Go.Op.pick (Go.Operand.tmp 37) (Go.Operand.const (Go.Value.bool Bool.true)) (Go.Operand.tmp 44), type := 4, pos := "ref.go:45", after := #[{ on := 12, ground := Go.Ground.data }, { on := 19, ground := Go.Ground.data }], guard := Option.none }) (v := ?_) rfl (by kernel_rfl) (by kernel_rfl) (by kernel_rfl) (fun _ _ _ h => h) (Or.inl ⟨by rfl, ?_⟩) hHeld ?_
        rotate_left
        · intro w hSw
          clear hSw
          go_simp
          try with_reducible rfl
        try simp only [Act.put, List.setIfInBounds_toArray, List.set_cons_zero, List.set_cons_succ]
        refine wpAnyH_done (by kernel_rfl) ?_ _
        go_upto_region 11 with (fail)
        have HBV2 := Lib.hid (chain HBV.out HBC.out)
        have HBV3 := Lib.hid (chain HBV0.out HBC.out)
        have HAV2 := Lib.hid (row_on HAV.out HBC.out)
        have HXR2 := Lib.hid (row_on HXR.out HBC.out)
        have HPV2 := Lib.hid (HPV.out.on HBC.out)
        clear hHeld mkS HBC
        rcases HQ.out with ⟨hk0, hq⟩ | ⟨j, q, rfl, hjq, hvq, hq⟩
        · have HS := Lib.hid (PrevAt.first hk0 hq HX.out HV.out)
          have hgt : ¬ (k : Int) > 0 := by omega
          clear hq hk0
          have mkS : ∀ z, Below z18.heap.size z18 z → (fun (z : World) => True) z := fun z hz => trivial
          refine wp_region_held_drew (S := fun (z : World) => True) (by kernel_rfl) (mkS _ (Below.refl _ _).drew) (fun hHeld => ?_)
          generalize hU : World.drew z18 = U2 at hHeld ⊢
          have HBC := Lib.hid (show Below z18.heap.size z18 U2 by rw [← hU]; exact (Below.refl _ _).drew)
          clear hU
          refine wpAnyH_take (i := 0) (oi := { dst := Option.some 46, op := Go.Op.move (Go.Operand.tmp 3), type := 3, pos := "ref.go:48", after := #[], guard := Option.none }) (v := ?_) rfl (by kernel_rfl) (by kernel_rfl) (by kernel_rfl) (fun _ _ _ h => h) (Or.inl ⟨by rfl, ?_⟩) hHeld ?_
          rotate_left
          · intro w hSw
            clear hSw
            go_simp
            try with_reducible rfl
          try simp only [Act.put, List.setIfInBounds_toArray, List.set_cons_zero, List.set_cons_succ]
          refine wpAnyH_take (i := 1) (oi := { dst := Option.some 47, op := Go.Op.binOp Go.BinOp.gtr 3 (Go.Operand.tmp 46) (Go.Operand.const (Go.Value.int Go.IntKind.i64 0)) 3, type := 4, pos := "ref.go:48", after := #[{ on := 0, ground := Go.Ground.data }], guard := Option.none }) (v := .bool false) rfl (by kernel_rfl) (by kernel_rfl) (by kernel_rfl) (fun _ _ _ h => h) (Or.inl ⟨by rfl, ?_⟩) hHeld ?_
          · intro w hSw
            clear hSw
            go_simp
            try omega
          try simp only [Act.put, List.setIfInBounds_toArray, List.set_cons_zero, List.set_cons_succ]
          refine wpAnyH_take (i := 2) (oi := { dst := Option.some 48, op := Go.Op.move (Go.Operand.tmp 47), type := 4, pos := "ref.go:48", after := #[{ on := 1, ground := Go.Ground.data }], guard := Option.none }) (v := ?_) rfl (by kernel_rfl) (by kernel_rfl) (by kernel_rfl) (fun _ _ _ h => h) (Or.inl ⟨by rfl, ?_⟩) hHeld ?_
          rotate_left
          · intro w hSw
            clear hSw
            go_simp
            try with_reducible rfl
          try simp only [Act.put, List.setIfInBounds_toArray, List.set_cons_zero, List.set_cons_succ]
          refine wpAnyH_take (i := 3) (oi := { dst := Option.some 49, op := Go.Op.fieldAddr 25 (Go.Operand.tmp 1) 1, type := 0, pos := "ref.go:48", after := #[{ on := 2, ground := Go.Ground.guard }], guard := Option.some (2, Bool.true) }) (v := undef) rfl (by kernel_rfl) (by kernel_rfl) (by kernel_rfl) (fun _ _ _ h => h) (Or.inr ⟨by rfl, rfl⟩) hHeld ?_
          try simp only [Act.put, List.setIfInBounds_toArray, List.set_cons_zero, List.set_cons_succ]
          refine wpAnyH_take (i := 4) (oi := { dst := Option.some 50, op := Go.Op.load 23 (Go.Operand.tmp 49), type := 23, pos := "ref.go:48", after := #[{ on := 3, ground := Go.Ground.data }, { on := 2, ground := Go.Ground.guard }], guard := Option.some (2, Bool.true) }) (v := undef) rfl (by kernel_rfl) (by kernel_rfl) (by kernel_rfl) (fun _ _ _ h => h) (Or.inr ⟨by rfl, rfl⟩) hHeld ?_
          try simp only [Act.put, List.setIfInBounds_toArray, List.set_cons_zero, List.set_cons_succ]
          refine wpAnyH_take (i := 5) (oi := { dst := Option.some 51, op := Go.Op.move (Go.Operand.tmp 3), type := 3, pos := "ref.go:48", after := #[{ on := 2, ground := Go.Ground.guard }], guard := Option.some (2, Bool.true) }) (v := undef) rfl (by kernel_rfl) (by kernel_rfl) (by kernel_rfl) (fun _ _ _ h => h) (Or.inr ⟨by rfl, rfl⟩) hHeld ?_
          try simp only [Act.put, List.setIfInBounds_toArray, List.set_cons_zero, List.set_cons_succ]
          refine wpAnyH_take (i := 6) (oi := { dst := Option.some 52, op := Go.Op.binOp Go.BinOp.sub 3 (Go.Operand.tmp 51) (Go.Operand.const (Go.Value.int Go.IntKind.i64 1)) 3, type := 3, pos := "ref.go:48", after := #[{ on := 5, ground := Go.Ground.data }, { on := 2, ground := Go.Ground.guard }], guard := Option.some (2, Bool.true) }) (v := undef) rfl (by kernel_rfl) (by kernel_rfl) (by kernel_rfl) (fun _ _ _ h => h) (Or.inr ⟨by rfl, rfl⟩) hHeld ?_
          try simp only [Act.put, List.setIfInBounds_toArray, List.set_cons_zero, List.set_cons_succ]
          refine wpAnyH_take (i := 7) (oi := { dst := Option.some 53, op := Go.Op.indexAddr 23 (Go.Operand.tmp 50) (Go.Operand.tmp 52), type := 0, pos := "ref.go:48", after := #[{ on := 4, ground := Go.Ground.data }, { on := 6, ground := Go.Ground.data }, { on := 2, ground := Go.Ground.guard }], guard := Option.some (2, Bool.true) }) (v := undef) rfl (by kernel_rfl) (by kernel_rfl) (by kernel_rfl) (fun _ _ _ h => h) (Or.inr ⟨by rfl, rfl⟩) hHeld ?_
          try simp only [Act.put, List.setIfInBounds_toArray, List.set_cons_zero, List.set_cons_succ]
          refine wpAnyH_take (i := 8) (oi := { dst := Option.some 54, op := Go.Op.load 75 (Go.Operand.tmp 53), type := 75, pos := "ref.go:48", after := #[{ on := 7, ground := Go.Ground.data }, { on := 2, ground := Go.Ground.guard }], guard := Option.some (2, Bool.true) }) (v := undef) rfl (by kernel_rfl) (by kernel_rfl) (by kernel_rfl) (fun _ _ _ h => h) (Or.inr ⟨by rfl, rfl⟩) hHeld ?_
          try simp only [Act.put, List.setIfInBounds_toArray, List.set_cons_zero, List.set_cons_succ]
          refine wpAnyH_take (i := 9) (oi := { dst := Option.some 55, op := Go.Op.load 75 (Go.Operand.tmp 4), type := 75, pos := "ref.go:48", after := #[{ on := 2, ground := Go.Ground.guard }], guard := Option.some (2, Bool.true) }) (v := undef) rfl (by kernel_rfl) (by kernel_rfl) (by kernel_rfl) (fun _ _ _ h => h) (Or.inr ⟨by rfl, rfl⟩) hHeld ?_
          try simp only [Act.put, List.setIfInBounds_toArray, List.set_cons_zero, List.set_cons_succ]
          refine wpAnyH_take (i := 10) (oi := { dst := Option.some 56, op := Go.Op.call { callee := Go.Callee.value (Go.Operand.func 52), args := #[Go.Operand.tmp 54, Go.Operand.tmp 55], argTypes := #[75, 75] }, type := 4, pos := "ref.go:48", after := #[{ on := 8, ground := Go.Ground.data }, { on := 9, ground := Go.Ground.data }, { on := 2, ground := Go.Ground.chain }, { on := 2, ground := Go.Ground.guard }], guard := Option.some (2, Bool.true) }) (v := undef) rfl (by kernel_rfl) (by kernel_rfl) (by kernel_rfl) (fun _ _ _ h => h) (Or.inr ⟨by rfl, rfl⟩) hHeld ?_
          try simp only [Act.put, List.setIfInBounds_toArray, List.set_cons_zero, List.set_cons_succ]
          refine wpAnyH_take (i := 11) (oi := { dst := Option.some 57, op := Go.Op.unOp Go.UnOp.not 4 (Go.Operand.tmp 56), type := 4, pos := "ref.go:48", after := #[{ on := 10, ground := Go.Ground.data }, { on := 2, ground := Go.Ground.guard }], guard := Option.some (2, Bool.true) }) (v := undef) rfl (by kernel_rfl) (by kernel_rfl) (by kernel_rfl) (fun _ _ _ h => h) (Or.inr ⟨by rfl, rfl⟩) hHeld ?_
          try simp only [Act.put, List.setIfInBounds_toArray, List.set_cons_zero, List.set_cons_succ]
          refine wpAnyH_take (i := 12) (oi := { dst := Option.some 58, op := Go.Op.pick (Go.Operand.tmp 48) (Go.Operand.tmp 57) (Go.Operand.const (Go.Value.bool Bool.false)), type := 4, pos := "ref.go:48", after := #[{ on := 2, ground := Go.Ground.data }, { on := 11, ground := Go.Ground.data }], guard := Option.none }) (v := ?_) rfl (by kernel_rfl) (by kernel_rfl) (by kernel_rfl) (fun _ _ _ h => h) (Or.inl ⟨by rfl, ?_⟩) hHeld ?_
          rotate_left
          · intro w hSw
            clear hSw
            go_simp
            try with_reducible rfl
          try simp only [Act.put, List.setIfInBounds_toArray, List.set_cons_zero, List.set_cons_succ]
          refine wpAnyH_done (by kernel_rfl) ?_ _
          go_wp2_with fail
          exact ⟨⟨k + 1, by omega, by go_num, Lib.hid (chain HBV3.out HBC.out), HS⟩, by simp [intOf]; omega⟩
        · obtain ⟨b, hb⟩ : ∃ b, ltE q x = b := ⟨_, rfl⟩
          have HST : RowKit.Hid (b = true → RowKit.Hid (PrevAt ps B (j + 1 + 1))) := Lib.hid (fun e => Lib.hid (PrevAt.next hq HX.out HV.out (hb.trans e)))
          have HSF : RowKit.Hid (b = false → R = 8) := Lib.hid (fun e => HRB.out (PrevAt.stop hq HX.out (hb.trans e)))
          have HBF := Lib.hid (fun (z : World) => (show Calls Try.prog 52 #[.agg #[.int .u8 q.f, .int .u64 q.h, .int .u64 q.l, .int .i64 q.n, .int .i64 q.m], .agg #[.int .u8 x.f, .int .u64 x.h, .int .u64 x.l, .int .i64 x.n, .int .i64 x.m]] z fun e w' => e = .returned (.bool b) ∧ Below z.heap.size z w' from by
            have h9 := rbefore_any q x z
            rw [hb] at h9
            exact h9))
          obtain ⟨g', o', hA', r2⟩ := HPV2.out.row j q hjq
          obtain ⟨rfl, rfl, _⟩ := Addr.mk.inj (Option.some.inj hA')
          have HQR := Lib.hid r2
          have hsub : wrap64 (((j + 1 : Nat) : Int) - 1) = (j : Int) := by
            have : ((j + 1 : Nat) : Int) - 1 = (j : Int) := by omega
            rw [this]
            simp [wrap64, IntKind.wrap, IntKind.bits, IntKind.signed]
            omega
          have hgt : ((j + 1 : Nat) : Int) > 0 := by omega
          have hjw : IntKind.i64.wrap (j : Int) = (j : Int) := by
            simp [IntKind.wrap, IntKind.bits, IntKind.signed]
            omega
          have hjn : (j : Int) < (n : Int) := by omega
          clear hq hjq hvq hb r2 hA'
          have mkS : ∀ z, Below z18.heap.size z18 z → (fun (z : World) => z.heap[w.heap.size]? = some (.cells #[.int .u32 sy, .slice (some ⟨g, o, none⟩) n c] 25 (0, 0)) ∧ z.heap[X]? = some (.cells #[.int .u8 x.f, .int .u64 x.h, .int .u64 x.l, .int .i64 x.n, .int .i64 x.m] 75 (0, 0)) ∧ z.rangeAt g (o + j * 5) [.int .u8 q.f, .int .u64 q.h, .int .u64 q.l, .int .i64 q.n, .int .i64 q.m]) z := fun z hz => ⟨row_on HAV2.out hz, row_on HXR2.out hz, rangeAt_on HQR.out hz⟩
          refine wp_region_held_drew (S := fun (z : World) => z.heap[w.heap.size]? = some (.cells #[.int .u32 sy, .slice (some ⟨g, o, none⟩) n c] 25 (0, 0)) ∧ z.heap[X]? = some (.cells #[.int .u8 x.f, .int .u64 x.h, .int .u64 x.l, .int .i64 x.n, .int .i64 x.m] 75 (0, 0)) ∧ z.rangeAt g (o + j * 5) [.int .u8 q.f, .int .u64 q.h, .int .u64 q.l, .int .i64 q.n, .int .i64 q.m]) (by kernel_rfl) (mkS _ (Below.refl _ _).drew) (fun hHeld => ?_)
          generalize hU : World.drew z18 = U2 at hHeld ⊢
          have HBC := Lib.hid (show Below z18.heap.size z18 U2 by rw [← hU]; exact (Below.refl _ _).drew)
          clear hU
          refine wpAnyH_take (i := 0) (oi := { dst := Option.some 46, op := Go.Op.move (Go.Operand.tmp 3), type := 3, pos := "ref.go:48", after := #[], guard := Option.none }) (v := ?_) rfl (by kernel_rfl) (by kernel_rfl) (by kernel_rfl) (fun _ _ _ h => h) (Or.inl ⟨by rfl, ?_⟩) hHeld ?_
          rotate_left
          · intro w hSw
            clear hSw
            go_simp
            try with_reducible rfl
          try simp only [Act.put, List.setIfInBounds_toArray, List.set_cons_zero, List.set_cons_succ]
          refine wpAnyH_take (i := 1) (oi := { dst := Option.some 47, op := Go.Op.binOp Go.BinOp.gtr 3 (Go.Operand.tmp 46) (Go.Operand.const (Go.Value.int Go.IntKind.i64 0)) 3, type := 4, pos := "ref.go:48", after := #[{ on := 0, ground := Go.Ground.data }], guard := Option.none }) (v := .bool true) rfl (by kernel_rfl) (by kernel_rfl) (by kernel_rfl) (fun _ _ _ h => h) (Or.inl ⟨by rfl, ?_⟩) hHeld ?_
          · intro w hSw
            clear hSw
            go_simp
            try omega
          try simp only [Act.put, List.setIfInBounds_toArray, List.set_cons_zero, List.set_cons_succ]
          refine wpAnyH_take (i := 2) (oi := { dst := Option.some 48, op := Go.Op.move (Go.Operand.tmp 47), type := 4, pos := "ref.go:48", after := #[{ on := 1, ground := Go.Ground.data }], guard := Option.none }) (v := ?_) rfl (by kernel_rfl) (by kernel_rfl) (by kernel_rfl) (fun _ _ _ h => h) (Or.inl ⟨by rfl, ?_⟩) hHeld ?_
          rotate_left
          · intro w hSw
            clear hSw
            go_simp
            try with_reducible rfl
          try simp only [Act.put, List.setIfInBounds_toArray, List.set_cons_zero, List.set_cons_succ]
          refine wpAnyH_take (i := 3) (oi := { dst := Option.some 49, op := Go.Op.fieldAddr 25 (Go.Operand.tmp 1) 1, type := 0, pos := "ref.go:48", after := #[{ on := 2, ground := Go.Ground.guard }], guard := Option.some (2, Bool.true) }) (v := ?_) rfl (by kernel_rfl) (by kernel_rfl) (by kernel_rfl) (fun _ _ _ h => h) (Or.inl ⟨by rfl, ?_⟩) hHeld ?_
          rotate_left
          · intro w hSw
            clear hSw
            go_simp
            try with_reducible rfl
          try simp only [Act.put, List.setIfInBounds_toArray, List.set_cons_zero, List.set_cons_succ]
          refine wpAnyH_take (i := 4) (oi := { dst := Option.some 50, op := Go.Op.load 23 (Go.Operand.tmp 49), type := 23, pos := "ref.go:48", after := #[{ on := 3, ground := Go.Ground.data }, { on := 2, ground := Go.Ground.guard }], guard := Option.some (2, Bool.true) }) (v := ?_) rfl (by kernel_rfl) (by kernel_rfl) (by kernel_rfl) (fun _ _ _ h => h) (Or.inl ⟨by rfl, ?_⟩) hHeld ?_
          rotate_left
          · intro w hSw
            have hfc0 := hSw.1 |> c21
            clear hSw
            go_simp
            try with_reducible rfl
          try simp only [Act.put, List.setIfInBounds_toArray, List.set_cons_zero, List.set_cons_succ]
          refine wpAnyH_take (i := 5) (oi := { dst := Option.some 51, op := Go.Op.move (Go.Operand.tmp 3), type := 3, pos := "ref.go:48", after := #[{ on := 2, ground := Go.Ground.guard }], guard := Option.some (2, Bool.true) }) (v := ?_) rfl (by kernel_rfl) (by kernel_rfl) (by kernel_rfl) (fun _ _ _ h => h) (Or.inl ⟨by rfl, ?_⟩) hHeld ?_
          rotate_left
          · intro w hSw
            clear hSw
            go_simp
            try with_reducible rfl
          try simp only [Act.put, List.setIfInBounds_toArray, List.set_cons_zero, List.set_cons_succ]
          refine wpAnyH_take (i := 6) (oi := { dst := Option.some 52, op := Go.Op.binOp Go.BinOp.sub 3 (Go.Operand.tmp 51) (Go.Operand.const (Go.Value.int Go.IntKind.i64 1)) 3, type := 3, pos := "ref.go:48", after := #[{ on := 5, ground := Go.Ground.data }, { on := 2, ground := Go.Ground.guard }], guard := Option.some (2, Bool.true) }) (v := .int .i64 (j : Int)) rfl (by kernel_rfl) (by kernel_rfl) (by kernel_rfl) (fun _ _ _ h => h) (Or.inl ⟨by rfl, ?_⟩) hHeld ?_
          · intro w hSw
            clear hSw
            go_simp
            try rw [hsub]
            try exact hjw
          try simp only [Act.put, List.setIfInBounds_toArray, List.set_cons_zero, List.set_cons_succ]
          refine wpAnyH_take (i := 7) (oi := { dst := Option.some 53, op := Go.Op.indexAddr 23 (Go.Operand.tmp 50) (Go.Operand.tmp 52), type := 0, pos := "ref.go:48", after := #[{ on := 4, ground := Go.Ground.data }, { on := 6, ground := Go.Ground.data }, { on := 2, ground := Go.Ground.guard }], guard := Option.some (2, Bool.true) }) (v := ?_) rfl (by kernel_rfl) (by kernel_rfl) (by kernel_rfl) (fun _ _ _ h => h) (Or.inl ⟨by rfl, ?_⟩) hHeld ?_
          rotate_left
          · intro w hSw
            clear hSw
            go_simp
            try with_reducible rfl
          try simp only [Act.put, List.setIfInBounds_toArray, List.set_cons_zero, List.set_cons_succ]
          refine wpAnyH_take (i := 8) (oi := { dst := Option.some 54, op := Go.Op.load 75 (Go.Operand.tmp 53), type := 75, pos := "ref.go:48", after := #[{ on := 7, ground := Go.Ground.data }, { on := 2, ground := Go.Ground.guard }], guard := Option.some (2, Bool.true) }) (v := .agg ([.int .u8 q.f, .int .u64 q.h, .int .u64 q.l, .int .i64 q.n, .int .i64 q.m]).toArray) rfl (by kernel_rfl) (by kernel_rfl) (by kernel_rfl) (fun _ _ _ h => h) (yieldsIf_load_mid (by rfl) _ _ rfl _ _ rfl ([.int .u8 q.f, .int .u64 q.h, .int .u64 q.l, .int .i64 q.n, .int .i64 q.m]) _ (fun w hSw => hSw.2.2) Try.underlying75 rfl (sz5p _ _ _ _ _)) hHeld ?_
          try simp only [Act.put, List.setIfInBounds_toArray, List.set_cons_zero, List.set_cons_succ]
          refine wpAnyH_take (i := 9) (oi := { dst := Option.some 55, op := Go.Op.load 75 (Go.Operand.tmp 4), type := 75, pos := "ref.go:48", after := #[{ on := 2, ground := Go.Ground.guard }], guard := Option.some (2, Bool.true) }) (v := .agg ([.int .u8 x.f, .int .u64 x.h, .int .u64 x.l, .int .i64 x.n, .int .i64 x.m]).toArray) rfl (by kernel_rfl) (by kernel_rfl) (by kernel_rfl) (fun _ _ _ h => h) (yieldsIf_load_mid (by rfl) _ _ rfl _ _ rfl ([.int .u8 x.f, .int .u64 x.h, .int .u64 x.l, .int .i64 x.n, .int .i64 x.m]) _ (fun w hSw => hSw.2.1 |> row_range (cs := [.int .u8 x.f, .int .u64 x.h, .int .u64 x.l, .int .i64 x.n, .int .i64 x.m])) Try.underlying75 rfl (sz5p _ _ _ _ _)) hHeld ?_
          try simp only [Act.put, List.setIfInBounds_toArray, List.set_cons_zero, List.set_cons_succ]
          refine wpAnyH_ready (rs := [10]) (by kernel_rfl) (by simp) (AllReadyH.cons (o := { dst := Option.some 56, op := Go.Op.call { callee := Go.Callee.value (Go.Operand.func 52), args := #[Go.Operand.tmp 54, Go.Operand.tmp 55], argTypes := #[75, 75] }, type := 4, pos := "ref.go:48", after := #[{ on := 8, ground := Go.Ground.data }, { on := 9, ground := Go.Ground.data }, { on := 2, ground := Go.Ground.chain }, { on := 2, ground := Go.Ground.guard }], guard := Option.some (2, Bool.true) }) rfl (fun K hK => ?_) AllReadyH.nil)
          go_simp
          refine (HBF.out U2).mono ?_
          rintro e z110 ⟨rfl, hb⟩
          have HBC := Lib.hid (chain HBC.out hb)
          clear hb 
          go_simp
          refine hK.out _ _ (mkS _ HBC.out) (fun hHeld2 => ?_)
          clear hK K hHeld
          have hHeld := hHeld2
          clear hHeld2
          try simp only [Act.put, List.setIfInBounds_toArray, List.set_cons_zero, List.set_cons_succ]
          refine wpAnyH_take (i := 11) (oi := { dst := Option.some 57, op := Go.Op.unOp Go.UnOp.not 4 (Go.Operand.tmp 56), type := 4, pos := "ref.go:48", after := #[{ on := 10, ground := Go.Ground.data }, { on := 2, ground := Go.Ground.guard }], guard := Option.some (2, Bool.true) }) (v := ?_) rfl (by kernel_rfl) (by kernel_rfl) (by kernel_rfl) (fun _ _ _ h => h) (Or.inl ⟨by rfl, ?_⟩) hHeld ?_
          rotate_left
          · intro w hSw
            clear hSw
            go_simp
            try with_reducible rfl
          try simp only [Act.put, List.setIfInBounds_toArray, List.set_cons_zero, List.set_cons_succ]
          refine wpAnyH_take (i := 12) (oi := { dst := Option.some 58, op := Go.Op.pick (Go.Operand.tmp 48) (Go.Operand.tmp 57) (Go.Operand.const (Go.Value.bool Bool.false)), type := 4, pos := "ref.go:48", after := #[{ on := 2, ground := Go.Ground.data }, { on := 11, ground := Go.Ground.data }], guard := Option.none }) (v := ?_) rfl (by kernel_rfl) (by kernel_rfl) (by kernel_rfl) (fun _ _ _ h => h) (Or.inl ⟨by rfl, ?_⟩) hHeld ?_
          rotate_left
          · intro w hSw
            clear hSw
            go_simp
            try with_reducible rfl
          try simp only [Act.put, List.setIfInBounds_toArray, List.set_cons_zero, List.set_cons_succ]
          refine wpAnyH_done (by kernel_rfl) ?_ _
          cases b with
          | true =>
            have HS := HST.out rfl
            clear HST HSF
            go_wp2_with fail
            exact ⟨⟨j + 1 + 1, by omega, by go_num, Lib.hid (chain HBV3.out HBC.out), HS⟩, by simp [intOf]; omega⟩
          | false =>
            have HS := Lib.hid (HSF.out rfl)
            clear HST HSF
            go_wp2_with fail
            go_ret
            exact ⟨by rw [HS.out]; rfl, chain HBV2.out HBC.out⟩
        have HS := Lib.hid (HRB.out (PrevAt.no HQ.out HX.out hv))
        have hCC : (C != 0) = true := by rw [bne_iff_ne]; exact q1
        clear hv q1
        go_upto_region 9 with (fail)
        generalize hV : World.alloc wr _ = V
        have HBV := Lib.hid (show Below w.heap.size w V by rw [← hV]; exact chain HB.out (below_new _ _))
        have HBV0 := Lib.hid (show Below V0.heap.size V0 V by rw [← hV]; exact chain HBw.out (below_new _ _))
        have HAV := Lib.hid (show V.heap[w.heap.size]? = some (.cells #[.int .u32 sy, .slice (some ⟨g, o, none⟩) n c] 25 (0, 0)) by rw [← hV]; exact row_on HAW.out (below_new _ _))
        have HPV := Lib.hid (show Aps (some ⟨g, o, none⟩) ps V by rw [← hV]; exact (HP.out.on HB.out).on (below_new _ _))
        obtain ⟨X, hX⟩ : ∃ X, wr.heap.size = X := ⟨_, rfl⟩
        have HXR := Lib.hid (show V.heap[X]? = some (.cells #[.int .u8 x.f, .int .u64 x.h, .int .u64 x.l, .int .i64 x.n, .int .i64 x.m] 75 (0, 0)) by rw [← hV, ← hX]; exact heap_alloc_new _ _)
        try simp only [hX]
        clear hV hX
        have mkS : ∀ z, Below V.heap.size V z → (fun (z : World) => z.heap[X]? = some (.cells #[.int .u8 x.f, .int .u64 x.h, .int .u64 x.l, .int .i64 x.n, .int .i64 x.m] 75 (0, 0))) z := fun z hz => row_on HXR.out hz
        refine wp_region_held_drew (S := fun (z : World) => z.heap[X]? = some (.cells #[.int .u8 x.f, .int .u64 x.h, .int .u64 x.l, .int .i64 x.n, .int .i64 x.m] 75 (0, 0))) (by kernel_rfl) (mkS _ (Below.refl _ _).drew) (fun hHeld => ?_)
        generalize hU : World.drew V = U at hHeld ⊢
        have HBC := Lib.hid (show Below V.heap.size V U by rw [← hU]; exact (Below.refl _ _).drew)
        clear hU
        refine wpAnyH_take (i := 0) (oi := { dst := Option.some 25, op := Go.Op.fieldAddr 75 (Go.Operand.tmp 4) 0, type := 0, pos := "ref.go:45", after := #[], guard := Option.none }) (v := ?_) rfl (by kernel_rfl) (by kernel_rfl) (by kernel_rfl) (fun _ _ _ h => h) (Or.inl ⟨by rfl, ?_⟩) hHeld ?_
        rotate_left
        · intro w hSw
          clear hSw
          go_simp
          try with_reducible rfl
        try simp only [Act.put, List.setIfInBounds_toArray, List.set_cons_zero, List.set_cons_succ]
        refine wpAnyH_take (i := 1) (oi := { dst := Option.some 26, op := Go.Op.load 44 (Go.Operand.tmp 25), type := 44, pos := "ref.go:45", after := #[{ on := 0, ground := Go.Ground.data }], guard := Option.none }) (v := .agg ([.int .u8 x.f, .int .u64 x.h, .int .u64 x.l, .int .i64 x.n]).toArray) rfl (by kernel_rfl) (by kernel_rfl) (by kernel_rfl) (fun _ _ _ h => h) (yieldsIf_load_mid (by rfl) _ _ rfl _ _ rfl ([.int .u8 x.f, .int .u64 x.h, .int .u64 x.l, .int .i64 x.n]) _ (fun w hSw => hSw |> row54) Try.underlying44 rfl (sz4p _ _ _ _)) hHeld ?_
        try simp only [Act.put, List.setIfInBounds_toArray, List.set_cons_zero, List.set_cons_succ]
        refine wpAnyH_ready (rs := [2]) (by kernel_rfl) (by simp) (AllReadyH.cons (o := { dst := Option.some 27, op := Go.Op.call { callee := Go.Callee.value (Go.Operand.func 34), args := #[Go.Operand.tmp 26], argTypes := #[44] }, type := 3, pos := "ref.go:45", after := #[{ on := 1, ground := Go.Ground.data }], guard := Option.none }) rfl (fun K hK => ?_) AllReadyH.nil)
        go_simp
        refine (HCK.out U).mono ?_
        rintro e z2 ⟨rfl, hb⟩
        have HBC := Lib.hid (chain HBC.out hb)
        clear hb 
        go_simp
        refine hK.out _ _ (mkS _ HBC.out) (fun hHeld2 => ?_)
        clear hK K hHeld
        have hHeld := hHeld2
        clear hHeld2
        try simp only [Act.put, List.setIfInBounds_toArray, List.set_cons_zero, List.set_cons_succ]
        refine wpAnyH_take (i := 3) (oi := { dst := Option.some 28, op := Go.Op.binOp Go.BinOp.neq 3 (Go.Operand.tmp 27) (Go.Operand.const (Go.Value.int Go.IntKind.i64 0)) 3, type := 4, pos := "ref.go:45", after := #[{ on := 2, ground := Go.Ground.data }], guard := Option.none }) (v := .bool true) rfl (by kernel_rfl) (by kernel_rfl) (by kernel_rfl) (fun _ _ _ h => h) (Or.inl ⟨by rfl, ?_⟩) hHeld ?_
        · intro w hSw
          clear hSw
          go_simp
          try rw [hCC]
        try simp only [Act.put, List.setIfInBounds_toArray, List.set_cons_zero, List.set_cons_succ]
        refine wpAnyH_take (i := 4) (oi := { dst := Option.some 29, op := Go.Op.move (Go.Operand.tmp 28), type := 4, pos := "ref.go:45", after := #[{ on := 3, ground := Go.Ground.data }, { on := 2, ground := Go.Ground.chain }], guard := Option.none }) (v := ?_) rfl (by kernel_rfl) (by kernel_rfl) (by kernel_rfl) (fun _ _ _ h => h) (Or.inl ⟨by rfl, ?_⟩) hHeld ?_
        rotate_left
        · intro w hSw
          clear hSw
          go_simp
          try with_reducible rfl
        try simp only [Act.put, List.setIfInBounds_toArray, List.set_cons_zero, List.set_cons_succ]
        refine wpAnyH_take (i := 5) (oi := { dst := Option.some 30, op := Go.Op.fieldAddr 75 (Go.Operand.tmp 4) 1, type := 0, pos := "ref.go:45", after := #[{ on := 4, ground := Go.Ground.guard }], guard := Option.some (4, Bool.false) }) (v := undef) rfl (by kernel_rfl) (by kernel_rfl) (by kernel_rfl) (fun _ _ _ h => h) (Or.inr ⟨by rfl, rfl⟩) hHeld ?_
        try simp only [Act.put, List.setIfInBounds_toArray, List.set_cons_zero, List.set_cons_succ]
        refine wpAnyH_take (i := 6) (oi := { dst := Option.some 31, op := Go.Op.load 3 (Go.Operand.tmp 30), type := 3, pos := "ref.go:45", after := #[{ on := 5, ground := Go.Ground.data }, { on := 4, ground := Go.Ground.guard }], guard := Option.some (4, Bool.false) }) (v := undef) rfl (by kernel_rfl) (by kernel_rfl) (by kernel_rfl) (fun _ _ _ h => h) (Or.inr ⟨by rfl, rfl⟩) hHeld ?_
        try simp only [Act.put, List.setIfInBounds_toArray, List.set_cons_zero, List.set_cons_succ]
        refine wpAnyH_take (i := 7) (oi := { dst := Option.some 32, op := Go.Op.fieldAddr 75 (Go.Operand.tmp 4) 0, type := 0, pos := "ref.go:45", after := #[{ on := 4, ground := Go.Ground.guard }], guard := Option.some (4, Bool.false) }) (v := undef) rfl (by kernel_rfl) (by kernel_rfl) (by kernel_rfl) (fun _ _ _ h => h) (Or.inr ⟨by rfl, rfl⟩) hHeld ?_
        try simp only [Act.put, List.setIfInBounds_toArray, List.set_cons_zero, List.set_cons_succ]
        refine wpAnyH_take (i := 8) (oi := { dst := Option.some 33, op := Go.Op.fieldAddr 44 (Go.Operand.tmp 32) 2, type := 0, pos := "ref.go:45", after := #[{ on := 7, ground := Go.Ground.data }, { on := 4, ground := Go.Ground.guard }], guard := Option.some (4, Bool.false) }) (v := undef) rfl (by kernel_rfl) (by kernel_rfl) (by kernel_rfl) (fun _ _ _ h => h) (Or.inr ⟨by rfl, rfl⟩) hHeld ?_
        try simp only [Act.put, List.setIfInBounds_toArray, List.set_cons_zero, List.set_cons_succ]
        refine wpAnyH_take (i := 9) (oi := { dst := Option.some 34, op := Go.Op.load 3 (Go.Operand.tmp 33), type := 3, pos := "ref.go:45", after := #[{ on := 8, ground := Go.Ground.data }, { on := 4, ground := Go.Ground.guard }], guard := Option.some (4, Bool.false) }) (v := undef) rfl (by kernel_rfl) (by kernel_rfl) (by kernel_rfl) (fun _ _ _ h => h) (Or.inr ⟨by rfl, rfl⟩) hHeld ?_
        try simp only [Act.put, List.setIfInBounds_toArray, List.set_cons_zero, List.set_cons_succ]
        refine wpAnyH_take (i := 10) (oi := { dst := Option.some 35, op := Go.Op.binOp Go.BinOp.lss 3 (Go.Operand.tmp 31) (Go.Operand.tmp 34) 3, type := 4, pos := "ref.go:45", after := #[{ on := 6, ground := Go.Ground.data }, { on := 9, ground := Go.Ground.data }, { on := 4, ground := Go.Ground.guard }], guard := Option.some (4, Bool.false) }) (v := undef) rfl (by kernel_rfl) (by kernel_rfl) (by kernel_rfl) (fun _ _ _ h => h) (Or.inr ⟨by rfl, rfl⟩) hHeld ?_
        try simp only [Act.put, List.setIfInBounds_toArray, List.set_cons_zero, List.set_cons_succ]
        refine wpAnyH_take (i := 11) (oi := { dst := Option.some 36, op := Go.Op.pick (Go.Operand.tmp 29) (Go.Operand.const (Go.Value.bool Bool.true)) (Go.Operand.tmp 35), type := 4, pos := "ref.go:45", after := #[{ on := 4, ground := Go.Ground.data }, { on := 10, ground := Go.Ground.data }], guard := Option.none }) (v := ?_) rfl (by kernel_rfl) (by kernel_rfl) (by kernel_rfl) (fun _ _ _ h => h) (Or.inl ⟨by rfl, ?_⟩) hHeld ?_
        rotate_left
        · intro w hSw
          clear hSw
          go_simp
          try with_reducible rfl
        try simp only [Act.put, List.setIfInBounds_toArray, List.set_cons_zero, List.set_cons_succ]
        refine wpAnyH_take (i := 12) (oi := { dst := Option.some 37, op := Go.Op.move (Go.Operand.tmp 36), type := 4, pos := "ref.go:45", after := #[{ on := 11, ground := Go.Ground.data }, { on := 4, ground := Go.Ground.chain }], guard := Option.none }) (v := ?_) rfl (by kernel_rfl) (by kernel_rfl) (by kernel_rfl) (fun _ _ _ h => h) (Or.inl ⟨by rfl, ?_⟩) hHeld ?_
        rotate_left
        · intro w hSw
          clear hSw
          go_simp
          try with_reducible rfl
        try simp only [Act.put, List.setIfInBounds_toArray, List.set_cons_zero, List.set_cons_succ]
        refine wpAnyH_take (i := 13) (oi := { dst := Option.some 38, op := Go.Op.fieldAddr 75 (Go.Operand.tmp 4) 1, type := 0, pos := "ref.go:45", after := #[{ on := 12, ground := Go.Ground.guard }], guard := Option.some (12, Bool.false) }) (v := undef) rfl (by kernel_rfl) (by kernel_rfl) (by kernel_rfl) (fun _ _ _ h => h) (Or.inr ⟨by rfl, rfl⟩) hHeld ?_
        try simp only [Act.put, List.setIfInBounds_toArray, List.set_cons_zero, List.set_cons_succ]
        refine wpAnyH_take (i := 14) (oi := { dst := Option.some 39, op := Go.Op.load 3 (Go.Operand.tmp 38), type := 3, pos := "ref.go:45", after := #[{ on := 13, ground := Go.Ground.data }, { on := 12, ground := Go.Ground.guard }], guard := Option.some (12, Bool.false) }) (v := undef) rfl (by kernel_rfl) (by kernel_rfl) (by kernel_rfl) (fun _ _ _ h => h) (Or.inr ⟨by rfl, rfl⟩) hHeld ?_
        try simp only [Act.put, List.setIfInBounds_toArray, List.set_cons_zero, List.set_cons_succ]
        refine wpAnyH_take (i := 15) (oi := { dst := Option.some 40, op := Go.Op.fieldAddr 75 (Go.Operand.tmp 4) 0, type := 0, pos := "ref.go:45", after := #[{ on := 12, ground := Go.Ground.guard }], guard := Option.some (12, Bool.false) }) (v := undef) rfl (by kernel_rfl) (by kernel_rfl) (by kernel_rfl) (fun _ _ _ h => h) (Or.inr ⟨by rfl, rfl⟩) hHeld ?_
        try simp only [Act.put, List.setIfInBounds_toArray, List.set_cons_zero, List.set_cons_succ]
        refine wpAnyH_take (i := 16) (oi := { dst := Option.some 41, op := Go.Op.fieldAddr 44 (Go.Operand.tmp 40) 0, type := 0, pos := "ref.go:45", after := #[{ on := 15, ground := Go.Ground.data }, { on := 12, ground := Go.Ground.guard }], guard := Option.some (12, Bool.false) }) (v := undef) rfl (by kernel_rfl) (by kernel_rfl) (by kernel_rfl) (fun _ _ _ h => h) (Or.inr ⟨by rfl, rfl⟩) hHeld ?_
        try simp only [Act.put, List.setIfInBounds_toArray, List.set_cons_zero, List.set_cons_succ]
        refine wpAnyH_take (i := 17) (oi := { dst := Option.some 42, op := Go.Op.load 5 (Go.Operand.tmp 41), type := 5, pos := "ref.go:45", after := #[{ on := 16, ground := Go.Ground.data }, { on := 12, ground := Go.Ground.guard }], guard := Option.some (12, Bool.false) }) (v := undef) rfl (by kernel_rfl) (by kernel_rfl) (by kernel_rfl) (fun _ _ _ h => h) (Or.inr ⟨by rfl, rfl⟩) hHeld ?_
        try simp only [Act.put, List.setIfInBounds_toArray, List.set_cons_zero, List.set_cons_succ]
        refine wpAnyH_take (i := 18) (oi := { dst := Option.some 43, op := Go.Op.call { callee := Go.Callee.value (Go.Operand.func 51), args := #[Go.Operand.tmp 42], argTypes := #[5] }, type := 3, pos := "ref.go:45", after := #[{ on := 17, ground := Go.Ground.data }, { on := 12, ground := Go.Ground.chain }, { on := 12, ground := Go.Ground.guard }], guard := Option.some (12, Bool.false) }) (v := undef) rfl (by kernel_rfl) (by kernel_rfl) (by kernel_rfl) (fun _ _ _ h => h) (Or.inr ⟨by rfl, rfl⟩) hHeld ?_
        try simp only [Act.put, List.setIfInBounds_toArray, List.set_cons_zero, List.set_cons_succ]
        refine wpAnyH_take (i := 19) (oi := { dst := Option.some 44, op := Go.Op.binOp Go.BinOp.gtr 3 (Go.Operand.tmp 39) (Go.Operand.tmp 43) 3, type := 4, pos := "ref.go:45", after := #[{ on := 14, ground := Go.Ground.data }, { on := 18, ground := Go.Ground.data }, { on := 12, ground := Go.Ground.guard }], guard := Option.some (12, Bool.false) }) (v := undef) rfl (by kernel_rfl) (by kernel_rfl) (by kernel_rfl) (fun _ _ _ h => h) (Or.inr ⟨by rfl, rfl⟩) hHeld ?_
        try simp only [Act.put, List.setIfInBounds_toArray, List.set_cons_zero, List.set_cons_succ]
        refine wpAnyH_take (i := 20) (oi := { dst := Option.some 45, op := Go.Op.pick (Go.Operand.tmp 37) (Go.Operand.const (Go.Value.bool Bool.true)) (Go.Operand.tmp 44), type := 4, pos := "ref.go:45", after := #[{ on := 12, ground := Go.Ground.data }, { on := 19, ground := Go.Ground.data }], guard := Option.none }) (v := ?_) rfl (by kernel_rfl) (by kernel_rfl) (by kernel_rfl) (fun _ _ _ h => h) (Or.inl ⟨by rfl, ?_⟩) hHeld ?_
        rotate_left
        · intro w hSw
          clear hSw
          go_simp
          try with_reducible rfl
        try simp only [Act.put, List.setIfInBounds_toArray, List.set_cons_zero, List.set_cons_succ]
        refine wpAnyH_done (by kernel_rfl) ?_ _
        go_wp2_with fail
        go_ret
        exact ⟨by rw [HS.out]; rfl, chain HBV.out HBC.out⟩
      · have hki : ¬ (k : Int) < (n : Int) := by omega
        have HS := Lib.hid (HRT.out (PrevAt.done HQ.out (show ps.length ≤ k by rw [HN.out]; omega)))
        go_wp2_with fail
        go_ret
        exact ⟨by rw [HS.out]; rfl, HB.out⟩
end Ro
end Go.Proofs.Ythfgdgcdicacpaa
