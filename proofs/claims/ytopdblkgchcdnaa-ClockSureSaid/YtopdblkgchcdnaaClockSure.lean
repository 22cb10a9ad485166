/- ClockSure: for every clock and number, the time is in the window of what the clock shows then; at both ends of this window the same is shown, and something else right outside of it. No condition. -/
import Derived.Test.YtopdblkgchcdnaaClkH
import Derived.Test.YtopdblkgchcdnaaRows
namespace Go.Proofs.Ytopdblkgchcdnaa
open Go.ChangeShapes Go.WideShapes Go.ChangeAt Go.RowKit Clk
open Go.WideMaps Go.WideElems
set_option linter.unusedVariables false
set_option linter.unusedSimpArgs false
set_option maxRecDepth 100000 in
set_option maxHeartbeats 2000000 in
theorem sure_core (s d t n e : Int) (w : World)
    (h1 : ∀ w, Calls Try.prog 13 #[.agg #[.int .i64 s, .int .i64 d], .int .i64 t] w fun e' w' => e' = .returned (.tuple #[.int .i64 n, .int .i64 e]) ∧ Below w.heap.size w w')
    (F T v1 e1 v2 e2 : Int)
    (hk : (e != 0) = true ∧ n = 0 ∨ e = 0 ∧
      (∀ w, Calls Try.prog 14 #[.agg #[.int .i64 s, .int .i64 d], .int .i64 n] w fun e' w' => e' = .returned (.tuple #[.agg #[.int .i64 F, .int .i64 T], .int .i64 0]) ∧ Below w.heap.size w w') ∧
      (∀ w, Calls Try.prog 13 #[.agg #[.int .i64 s, .int .i64 d], .int .i64 F] w fun e' w' => e' = .returned (.tuple #[.int .i64 n, .int .i64 0]) ∧ Below w.heap.size w w') ∧
      (∀ w, Calls Try.prog 13 #[.agg #[.int .i64 s, .int .i64 d], .int .i64 T] w fun e' w' => e' = .returned (.tuple #[.int .i64 n, .int .i64 0]) ∧ Below w.heap.size w w') ∧
      (∀ w, Calls Try.prog 11 #[.agg #[.int .i64 F, .int .i64 T], .int .i64 t] w fun e' w' => e' = .returned (.bool true) ∧ Below w.heap.size w w') ∧
      (∀ w, Calls Try.prog 13 #[.agg #[.int .i64 s, .int .i64 d], .int .i64 (F - 1)] w fun e' w' => e' = .returned (.tuple #[.int .i64 v1, .int .i64 e1]) ∧ Below w.heap.size w w') ∧
      (∀ w, Calls Try.prog 13 #[.agg #[.int .i64 s, .int .i64 d], .int .i64 (T + 1)] w fun e' w' => e' = .returned (.tuple #[.int .i64 v2, .int .i64 e2]) ∧ Below w.heap.size w w') ∧
      0 ≤ F ∧ F ≤ T ∧ T ≤ 1099511627776 ∧ T - F ≤ 2 ∧ ((e1 != 0) = true ∨ e1 = 0 ∧ v1 < n) ∧ ((e2 != 0) = true ∨ e2 = 0 ∧ n < v2)) :
    Calls Try.prog 7 #[.agg #[.int .i64 s, .int .i64 d], .int .i64 t] w fun e' w' => e' = .returned (.bool true) ∧ Below w.heap.size w w' := by
  have H1 := Lib.hid h1
  have HK := Lib.hid hk
  clear h1 hk
  go_enter Try.func7, Try.ntmps7
  go_wp2_with fail
  have T0 := Lib.hid (Two.new w s d 30)
  have HB := Lib.hid (below_new w (.cells #[.int .i64 s, .int .i64 d] 30))
  refine (alive_any _).mono ?_
  rintro e' w1 ⟨rfl, hb1⟩
  have T1 := Lib.hid (T0.out.on hb1)
  have HB1 := Lib.hid (chain HB.out hb1)
  clear hb1 T0 HB
  obtain ⟨a0, a1, _, _⟩ := T1.out
  go_wp2_with fail
  refine (H1.out _).mono ?_
  rintro e' w2 ⟨rfl, hb2⟩
  have T2 := Lib.hid (T1.out.on hb2)
  have HB2 := Lib.hid (chain HB1.out hb2)
  clear hb2 T1 HB1 a0 a1
  obtain ⟨a0, a1, _, _⟩ := T2.out
  rcases HK.out with ⟨h1, rfl⟩ | ⟨rfl, k1, k2, k3, k4, k5, k6, f0, f1, f2, f3, q1, q2⟩
  · go_wp2_with fail
    go_ret
    exact ⟨rfl, HB2.out⟩
  · have K1 := Lib.hid k1
    have K2 := Lib.hid k2
    have K3 := Lib.hid k3
    have K4 := Lib.hid k4
    have K5 := Lib.hid k5
    have K6 := Lib.hid k6
    have Q := Lib.hid (And.intro q1 q2)
    clear k1 k2 k3 k4 k5 k6 q1 q2 HK H1
    go_wp2_with fail
    refine (K1.out _).mono ?_
    rintro e' w3 ⟨rfl, hb3⟩
    have T3 := Lib.hid (T2.out.on hb3)
    have HB3 := Lib.hid (chain HB2.out hb3)
    clear hb3 T2 HB2 a0 a1
    go_upto_region 6 with fail
    obtain ⟨N, hN⟩ : ∃ N, w3.heap.size = N := ⟨_, rfl⟩
    generalize hv : World.alloc _ _ = v
    have T4 : RowKit.Hid (Two w.heap.size v s d) := Lib.hid (by rw [← hv]; exact T3.out.on (below_new _ _))
    have S4 : RowKit.Hid (Two N v F T) := Lib.hid (by rw [← hv, ← hN]; exact Two.new w3 _ _ _)
    have HB4 : RowKit.Hid (Below w.heap.size w v) := Lib.hid (by rw [← hv]; exact HB3.out.alloc HB3.out.size _)
    clear hv T3 HB3
    try rw [hN]
    clear hN
    obtain ⟨a0, a1, _, _⟩ := T4.out
    obtain ⟨b0, b1, _, _⟩ := S4.out
    go_wp2_with fail
    refine (K2.out _).mono ?_
    rintro e' w5 ⟨rfl, hb5⟩
    have T5 := Lib.hid (T4.out.on hb5)
    have S5 := Lib.hid (S4.out.on hb5)
    have HB5 := Lib.hid (chain HB4.out hb5)
    clear hb5 T4 S4 HB4 a0 a1 b0 b1
    obtain ⟨a0, a1, _, _⟩ := T5.out
    obtain ⟨b0, b1, _, _⟩ := S5.out
    go_wp2_with fail
    refine (K3.out _).mono ?_
    rintro e' w6 ⟨rfl, hb6⟩
    have T6 := Lib.hid (T5.out.on hb6)
    have S6 := Lib.hid (S5.out.on hb6)
    have HB6 := Lib.hid (chain HB5.out hb6)
    clear hb6 T5 S5 HB5 a0 a1 b0 b1
    obtain ⟨a0, a1, _, _⟩ := T6.out
    obtain ⟨b0, b1, _, _⟩ := S6.out
    go_wp2_with fail
    refine (K4.out _).mono ?_
    rintro e' w7 ⟨rfl, hb7⟩
    have T7 := Lib.hid (T6.out.on hb7)
    have S7 := Lib.hid (S6.out.on hb7)
    have HB7 := Lib.hid (chain HB6.out hb7)
    clear hb7 T6 S6 HB6 a0 a1 b0 b1
    obtain ⟨a0, a1, _, _⟩ := T7.out
    obtain ⟨b0, b1, _, _⟩ := S7.out
    go_wp2_with fail
    refine (K5.out _).mono ?_
    rintro e' w8 ⟨rfl, hb8⟩
    have T8 := Lib.hid (T7.out.on hb8)
    have S8 := Lib.hid (S7.out.on hb8)
    have HB8 := Lib.hid (chain HB7.out hb8)
    clear hb8 T7 S7 HB7 a0 a1 b0 b1
    obtain ⟨a0, a1, _, _⟩ := T8.out
    obtain ⟨b0, b1, _, _⟩ := S8.out
    go_wp2_with fail
    refine (K6.out _).mono ?_
    rintro e' w9 ⟨rfl, hb9⟩
    have HB9 := Lib.hid (chain HB8.out hb9)
    clear hb9 T8 S8 HB8 a0 a1 b0 b1
    obtain ⟨q1, q2⟩ := Q.out
    rcases q1 with q1 | ⟨rfl, q1⟩ <;> rcases q2 with q2 | ⟨rfl, q2⟩
    all_goals
      go_wp2_with fail
      go_ret
      exact ⟨rfl, HB9.out⟩
theorem sure_true (s d t : Int) (w : World) :
    Calls Try.prog 7 #[.agg #[.int .i64 s, .int .i64 d], .int .i64 t] w fun e' w' => e' = .returned (.bool true) ∧ Below w.heap.size w w' := by
  cases h : okB s d
  · exact sure_core s d t (rdV s d t) (rdE s d t) w (fun w => read_any s d t w) 0 0 0 0 0 0 (Or.inl ⟨by simp [rdE, h], by simp [rdV, h]⟩)
  · cases ht : tmB t
    · exact sure_core s d t (rdV s d t) (rdE s d t) w (fun w => read_any s d t w) 0 0 0 0 0 0 (Or.inl ⟨by simp [rdE, h, ht], by simp [rdV, ht]⟩)
    · obtain ⟨t0, t1⟩ := tmB_true.1 ht
      have e1 : rdV s d t = sh s d t := by simp [rdV, h, ht]
      obtain ⟨hs, h3, h4⟩ := some_of h t0 t1 rfl
      obtain ⟨q1, q2, q3⟩ := someB_true.1 hs
      have f0 := sc_nonneg h q1
      have g0 := sc_hi h q2
      have g1 : tl s d (sh s d t) ≤ 1099511627776 := by unfold tl; omega
      have tw := to_two (n := sh s d t) h
      have rd : ∀ k, 0 ≤ k → k ≤ 1099511627776 → rdV s d k = sh s d k ∧ rdE s d k = 0 := fun k k0 k1 => by
        have := tmB_true.2 ⟨k0, k1⟩
        exact ⟨by simp [rdV, h, this], by simp [rdE, h, this]⟩
      have ne : ∀ k, ¬ (0 ≤ k ∧ k ≤ 1099511627776) → (rdE s d k != 0) = true := fun k hk => by
        have : tmB k = false := by
          cases hh : tmB k
          · rfl
          · exact absurd (tmB_true.1 hh) hk
        simp [rdE, h, this]
      refine sure_core s d t (rdV s d t) (rdE s d t) w (fun w => read_any s d t w) (sc s d (sh s d t)) (tl s d (sh s d t)) _ _ _ _ (Or.inr ⟨(rd t t0 t1).2, fun w => ?_, fun w => ?_, fun w => ?_, fun w => ?_, fun w => read_any s d _ w, fun w => read_any s d _ w, f0, by omega, g1, by omega, ?_, ?_⟩)
      · rw [e1]
        have := sure_any s d (sh s d t) w
        rwa [show suF s d (sh s d t) = sc s d (sh s d t) by simp [suF, suOk, h, hs], show suT s d (sh s d t) = tl s d (sh s d t) by simp [suT, suOk, h, hs], show suE s d (sh s d t) = 0 by simp [suE, h, hs]] at this
      · rw [e1]
        have := read_any s d (sc s d (sh s d t)) w
        rwa [(rd _ f0 g0).1, (rd _ f0 g0).2, sh_at h hs] at this
      · rw [e1]
        have := read_any s d (tl s d (sh s d t)) w
        rwa [(rd _ (by omega) g1).1, (rd _ (by omega) g1).2, sh_in h hs ⟨by omega, Int.le_refl _⟩] at this
      · have := in_any (sc s d (sh s d t)) (tl s d (sh s d t)) t w
        rwa [inB_true.2 ⟨wnB_true.2 ⟨f0, g0, by omega, g1, by omega⟩, h3, h4⟩] at this
      · by_cases hz : sc s d (sh s d t) = 0
        · left; exact ne _ (by omega)
        · right
          have r := rd (sc s d (sh s d t) - 1) (by omega) (by omega)
          rw [r.1, r.2, e1]
          exact ⟨rfl, before_lt h⟩
      · by_cases hz : tl s d (sh s d t) = 1099511627776
        · left; exact ne _ (by omega)
        · right
          have r := rd (tl s d (sh s d t) + 1) (by omega) (by omega)
          rw [r.1, r.2, e1]
          exact ⟨rfl, after_gt h (by omega)⟩
/-! The row -/
set_option maxRecDepth 100000 in
theorem sure_lifted (os : Os) (started : os.Started) (H : Type) (enc : TypeId × Value → H) :
    ReturnsInHanded {} Try.checked os 7 .any (Rows.clockSureSpec.pre6 enc Try.prog Try.f7 Rows.clockSureRow.domain false) (Rows.clockSureSpec.post enc Try.prog Try.f7 false true false false) := by
  refine returnsInHanded_of_change (C := Try.checked) Try.own started (by kernel_rfl) Try.func7
    (ChangeSpec.witness6 (enc := enc) (C := Try.checked) false ⟨#[], #[.agg #[.int .i64 0, .int .i64 0], .int .i64 0], []⟩ 8 (by kernel_rfl) (by kernel_rfl) (by kernel_rfl) (by kernel_rfl)) ?_
  intro W base args ds gs before hval0 hW hcnd _
  have hval : ∀ (j : Nat) t v, Try.f7.params[j]? = some t → args[j]? = some v → Value.okWide Try.prog W .any base t v := hval0
  have hW' := hW
  obtain ⟨p, q, hA0, hV, rfl, hfz, hnd⟩ := hW
  have hA : DataW.TrodAll enc Try.prog W 0 (fun _ => true) true Try.f7.params.toList args.toList ds p := hA0
  rw [Try.params7] at hA hval
  obtain ⟨v0, vs0, d0, ds0, p0, q0, hargs, rfl, rfl, h0, r0⟩ := trodAll_cons hA
  obtain ⟨v1, vs1, d1, ds1, p1, q1, rfl, rfl, rfl, h1, r1⟩ := trodAll_cons r0
  obtain ⟨rfl, rfl, rfl⟩ := trodAll_nil r1
  obtain rfl : args = #[v0, v1] := by cases args; simp_all
  obtain ⟨rfl, rfl⟩ := trodVars_none hV
  obtain ⟨s, d, rfl, us, ud⟩ := open_clock (hval 0 30 v0 rfl rfl) h0
  obtain ⟨t, rfl, e1, f1, w1⟩ := open_int Try.underlying2 (hval 1 2 v1 rfl rfl) h1
  refine (sure_true s d t W).mono fun e W' ⟨he, hg⟩ => ?_
  subst he
  exact ⟨_, rfl, law_post Try.laidOut (by kernel_rfl) (by kernel_rfl) hW' hg (trodAll_cons_mk (shut_bool Try.underlying4 _) trodAll_mk0) rfl rfl⟩

/-- the statement -/
theorem sure_holds : Rows.ClockSureSaid :=
  OpenClaim.holds_of_wide 7 Try.f7 rfl rfl rfl rfl rfl rfl rfl ⟨rfl, rfl, rfl, rfl, rfl⟩ rfl rfl rfl rfl rfl (by kernel_rfl) Try.func7 (by kernel_rfl)
    (of_decide_eq_true (by kernel_rfl)) (by unfold Func.isWrapper; rw [if_neg (of_decide_eq_false (by kernel_rfl))]; exact ⟨rfl, rfl⟩)
    (fun os started H enc _ => sure_lifted os started H enc)
#print axioms sure_holds
end Go.Proofs.Ytopdblkgchcdnaa
