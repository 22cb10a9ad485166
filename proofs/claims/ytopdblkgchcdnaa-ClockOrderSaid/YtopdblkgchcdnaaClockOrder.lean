/- ClockOrder: for every clock and two numbers, what a clock shows never decreases, and differs from the time by at most the skew and a thousandth of the time. No condition. -/
import Derived.Test.YtopdblkgchcdnaaClkH
import Derived.Test.YtopdblkgchcdnaaRows
import Derived.Laws.Unary
namespace Go.Proofs.Ytopdblkgchcdnaa
open Go.ChangeShapes Go.WideShapes Go.ChangeAt Go.RowKit Clk
open Go.WideMaps Go.WideElems
set_option linter.unusedVariables false
set_option linter.unusedSimpArgs false
set_option maxRecDepth 100000 in
set_option maxHeartbeats 2000000 in
theorem order_core (s d t u a e b f : Int) (w : World)
    (h1 : ∀ w, Calls Try.prog 13 #[.agg #[.int .i64 s, .int .i64 d], .int .i64 t] w fun e' w' => e' = .returned (.tuple #[.int .i64 a, .int .i64 e]) ∧ Below w.heap.size w w')
    (h2 : ∀ w, Calls Try.prog 13 #[.agg #[.int .i64 s, .int .i64 d], .int .i64 u] w fun e' w' => e' = .returned (.tuple #[.int .i64 b, .int .i64 f]) ∧ Below w.heap.size w w')
    (hk : (e != 0) = true ∨ e = 0 ∧ (f != 0) = true ∨ e = 0 ∧ f = 0 ∧ 0 ≤ t ∧ t ≤ 1099511627776 ∧ -1048576 ≤ s ∧ s ≤ 1048576 ∧ 0 ≤ a + 1200000000 ∧ a ≤ 1200000000000 ∧ (u < t ∨ t ≤ u ∧ a ≤ b) ∧ a - t - s ≤ t / 1000 + 1 ∧ -(t / 1000) - 1 ≤ a - t - s) :
    Calls Try.prog 8 #[.agg #[.int .i64 s, .int .i64 d], .int .i64 t, .int .i64 u] w fun e' w' => e' = .returned (.bool true) ∧ Below w.heap.size w w' := by
  have H1 := Lib.hid h1
  have H2 := Lib.hid h2
  have HK := Lib.hid hk
  clear h1 h2 hk
  go_enter Try.func8, Try.ntmps8
  go_wp2_with fail
  have T := Lib.hid (Two.new w s d 30)
  have HB := Lib.hid (below_new w (.cells #[.int .i64 s, .int .i64 d] 30))
  refine (alive_any _).mono ?_
  rintro e' w1 ⟨rfl, hb1⟩
  have T1 := Lib.hid (T.out.on hb1)
  have HB1 := Lib.hid (chain HB.out hb1)
  clear hb1 T HB
  obtain ⟨a0, a1, _, _⟩ := T1.out
  go_wp2_with fail
  refine (H1.out _).mono ?_
  rintro e' w2 ⟨rfl, hb2⟩
  have T2 := Lib.hid (T1.out.on hb2)
  have HB2 := Lib.hid (chain HB1.out hb2)
  clear hb2 T1 HB1 a0 a1
  obtain ⟨a0, a1, _, _⟩ := T2.out
  go_wp2_with fail
  refine (H2.out _).mono ?_
  rintro e' w3 ⟨rfl, hb3⟩
  have T3 := Lib.hid (T2.out.on hb3)
  have HB3 := Lib.hid (chain HB2.out hb3)
  clear hb3 T2 HB2 a0 a1
  obtain ⟨a0, a1, _, _⟩ := T3.out
  rcases HK.out with h1 | ⟨rfl, h2⟩ | ⟨rfl, rfl, t0, t1, s0, s1, b0, b1, hm, hx, hy⟩
  · go_wp2_with fail
    go_ret
    exact ⟨rfl, HB3.out⟩
  · go_wp2_with fail
    go_ret
    exact ⟨rfl, HB3.out⟩
  · have hneg : ∀ w : World, (Op.unary .neg (.int .i64 t)).run Try.prog w = .ok (.int .i64 (-t)) w := fun w => by
      have e : IntKind.i64.wrap (0 - t) = -t := by rw [Int.zero_sub]; exact IntWalk.i64_in _ (by omega)
      show Result.ok (Value.int .i64 (IntKind.i64.wrap (0 - t))) w = _
      rw [e]
    have hq : (-t).tdiv 1000 = -(t / 1000) := by rw [Int.neg_tdiv, Int.tdiv_eq_ediv_of_nonneg t0]
    rcases hm with hm | ⟨hm, hm2⟩
    · go_wp2_with fail
      go_ret
      exact ⟨rfl, HB3.out⟩
    · go_wp2_with fail
      go_ret
      exact ⟨rfl, HB3.out⟩
theorem order_true (s d t u : Int) (w : World) :
    Calls Try.prog 8 #[.agg #[.int .i64 s, .int .i64 d], .int .i64 t, .int .i64 u] w fun e' w' => e' = .returned (.bool true) ∧ Below w.heap.size w w' := by
  refine order_core s d t u _ _ _ _ w (fun w => read_any s d t w) (fun w => read_any s d u w) ?_
  cases h : okB s d
  · left; simp [rdE, h]
  · cases ht : tmB t
    · left; simp [rdE, h, ht]
    · right
      cases hu : tmB u
      · left; simp [rdE, h, ht, hu]
      · right
        obtain ⟨t0, t1⟩ := tmB_true.1 ht
        obtain ⟨u0, u1⟩ := tmB_true.1 hu
        obtain ⟨s0, s1, d0, d1⟩ := okB_true.1 h
        have e1 : rdV s d t = sh s d t := by simp [rdV, h, ht]
        have e2 : rdV s d u = sh s d u := by simp [rdV, h, hu]
        have b := sh_bd h t0 (by omega)
        have db := drift_bd t0 d0 d1
        have er := sh_ref s d t
        rw [e1, e2]
        refine ⟨by simp [rdE, h, ht], by simp [rdE, h, hu], t0, t1, s0, s1, by omega, by omega, ?_, by omega, by omega⟩
        by_cases htu : t ≤ u
        · exact Or.inr ⟨htu, sh_mono h htu⟩
        · exact Or.inl (by omega)
/-! The row -/
set_option maxRecDepth 100000 in
theorem order_lifted (os : Os) (started : os.Started) (H : Type) (enc : TypeId × Value → H) :
    ReturnsInHanded {} Try.checked os 8 .any (Rows.clockOrderSpec.pre6 enc Try.prog Try.f8 Rows.clockOrderRow.domain false) (Rows.clockOrderSpec.post enc Try.prog Try.f8 false true false false) := by
  refine returnsInHanded_of_change (C := Try.checked) Try.own started (by kernel_rfl) Try.func8
    (ChangeSpec.witness6 (enc := enc) (C := Try.checked) false ⟨#[], #[.agg #[.int .i64 0, .int .i64 0], .int .i64 0, .int .i64 0], []⟩ 8 (by kernel_rfl) (by kernel_rfl) (by kernel_rfl) (by kernel_rfl)) ?_
  intro W base args ds gs before hval0 hW hcnd _
  have hval : ∀ (j : Nat) t v, Try.f8.params[j]? = some t → args[j]? = some v → Value.okWide Try.prog W .any base t v := hval0
  have hW' := hW
  obtain ⟨p, q, hA0, hV, rfl, hfz, hnd⟩ := hW
  have hA : DataW.TrodAll enc Try.prog W 0 (fun _ => true) true Try.f8.params.toList args.toList ds p := hA0
  rw [Try.params8] at hA hval
  obtain ⟨v0, vs0, d0, ds0, p0, q0, hargs, rfl, rfl, h0, r0⟩ := trodAll_cons hA
  obtain ⟨v1, vs1, d1, ds1, p1, q1, rfl, rfl, rfl, h1, r1⟩ := trodAll_cons r0
  obtain ⟨v2, vs2, d2, ds2, p2, q2, rfl, rfl, rfl, h2, r2⟩ := trodAll_cons r1
  obtain ⟨rfl, rfl, rfl⟩ := trodAll_nil r2
  obtain rfl : args = #[v0, v1, v2] := by cases args; simp_all
  obtain ⟨rfl, rfl⟩ := trodVars_none hV
  obtain ⟨s, d, rfl, us, ud⟩ := open_clock (hval 0 30 v0 rfl rfl) h0
  obtain ⟨t, rfl, e1, f1, w1⟩ := open_int Try.underlying2 (hval 1 2 v1 rfl rfl) h1
  obtain ⟨u, rfl, e2, f2, w2⟩ := open_int Try.underlying2 (hval 2 2 v2 rfl rfl) h2
  refine (order_true s d t u W).mono fun e W' ⟨he, hg⟩ => ?_
  subst he
  exact ⟨_, rfl, law_post Try.laidOut (by kernel_rfl) (by kernel_rfl) hW' hg (trodAll_cons_mk (shut_bool Try.underlying4 _) trodAll_mk0) rfl rfl⟩

/-- the statement -/
theorem order_holds : Rows.ClockOrderSaid :=
  OpenClaim.holds_of_wide 8 Try.f8 rfl rfl rfl rfl rfl rfl rfl ⟨rfl, rfl, rfl, rfl, rfl⟩ rfl rfl rfl rfl rfl (by kernel_rfl) Try.func8 (by kernel_rfl)
    (of_decide_eq_true (by kernel_rfl)) (by unfold Func.isWrapper; rw [if_neg (of_decide_eq_false (by kernel_rfl))]; exact ⟨rfl, rfl⟩)
    (fun os started H enc _ => order_lifted os started H enc)
#print axioms order_holds
end Go.Proofs.Ytopdblkgchcdnaa
