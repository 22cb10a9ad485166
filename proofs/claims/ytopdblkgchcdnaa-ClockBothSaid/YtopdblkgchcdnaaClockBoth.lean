/- ClockBoth: for every two windows and number, a time is in the window that Both returns exactly if it is in both windows. No condition. -/
import Derived.Test.YtopdblkgchcdnaaClkQ1
import Derived.Test.YtopdblkgchcdnaaClkQ2
import Derived.Test.YtopdblkgchcdnaaRows
namespace Go.Proofs.Ytopdblkgchcdnaa
open Go.ChangeShapes Go.WideShapes Go.ChangeAt Go.RowKit Clk
open Go.WideMaps Go.WideElems
set_option linter.unusedVariables false
set_option linter.unusedSimpArgs false
set_option maxRecDepth 100000 in
set_option maxHeartbeats 4000000 in
theorem both_bad (a b c d t x y : Int) (w : World) (hv : wnB a b = false ∨ wnB a b = true ∧ wnB c d = false)
    (h4 : ∀ w, Calls Try.prog 12 #[.agg #[.int .i64 a, .int .i64 b], .agg #[.int .i64 c, .int .i64 d]] w fun e' w' => e' = .returned (.tuple #[.agg #[.int .i64 x, .int .i64 y], .bool false, .int .i64 8]) ∧ Below w.heap.size w w') :
    Calls Try.prog 6 #[.agg #[.int .i64 a, .int .i64 b], .agg #[.int .i64 c, .int .i64 d], .int .i64 t] w fun e' w' => e' = .returned (.bool true) ∧ Below w.heap.size w w' := by
  have H4 := Lib.hid h4
  have HV := Lib.hid hv
  clear h4 hv
  go_enter Try.func6, Try.ntmps6
  go_wp2_with fail
  have T : RowKit.Hid (Two w.heap.size ((w.alloc (.cells #[.int .i64 a, .int .i64 b] 25)).alloc (.cells #[.int .i64 c, .int .i64 d] 25)) a b) := Lib.hid ((Two.new w a b _).on (below_new _ _))
  have S : RowKit.Hid (Two (w.heap.size + 1) ((w.alloc (.cells #[.int .i64 a, .int .i64 b] 25)).alloc (.cells #[.int .i64 c, .int .i64 d] 25)) c d) := Lib.hid (by simpa using Two.new (w.alloc (.cells #[.int .i64 a, .int .i64 b] 25)) c d 25)
  have HB : RowKit.Hid (Below w.heap.size w ((w.alloc (.cells #[.int .i64 a, .int .i64 b] 25)).alloc (.cells #[.int .i64 c, .int .i64 d] 25))) := Lib.hid ((below_new _ _).alloc (by simp) _)
  refine (alive_any _).mono ?_
  rintro e' w0 ⟨rfl, hb0⟩
  have T0 := Lib.hid (T.out.on hb0)
  have S0 := Lib.hid (S.out.on hb0)
  have HB0 := Lib.hid (chain HB.out hb0)
  clear hb0 T S HB
  obtain ⟨a0, a1, _, _⟩ := T0.out
  obtain ⟨b0, b1, _, _⟩ := S0.out
  go_wp2_with fail
  refine (H4.out _).mono ?_
  rintro e' w1 ⟨rfl, hb1⟩
  have T1 := Lib.hid (T0.out.on hb1)
  have S1 := Lib.hid (S0.out.on hb1)
  have HB1 := Lib.hid (chain HB0.out hb1)
  clear hb1 T0 S0 HB0 a0 a1 b0 b1
  go_upto_region 3 with fail
  generalize hv : World.alloc _ _ = v
  have T2 : RowKit.Hid (Two w.heap.size v a b) := Lib.hid (by rw [← hv]; exact T1.out.on (below_new _ _))
  have S2 : RowKit.Hid (Two (w.heap.size + 1) v c d) := Lib.hid (by rw [← hv]; exact S1.out.on (below_new _ _))
  have HB2 : RowKit.Hid (Below w.heap.size w v) := Lib.hid (by rw [← hv]; exact HB1.out.alloc HB1.out.size _)
  clear hv T1 S1 HB1
  obtain ⟨a0, a1, _, _⟩ := T2.out
  rcases HV.out with h1 | ⟨h1, h2⟩
  · have H1 := Lib.hid h1
    clear h1
    go_wp2_with fail
    refine (chk_no _ H1.out).mono ?_
    rintro e' w3 ⟨rfl, hb3⟩
    have HB3 := Lib.hid (chain HB2.out hb3)
    clear hb3 a0 a1
    go_wp2_with fail
    go_ret
    exact ⟨rfl, HB3.out⟩
  · have H1 := Lib.hid h1
    have H2 := Lib.hid h2
    clear h1 h2
    go_wp2_with fail
    refine (chk_yes _ H1.out).mono ?_
    rintro e' w3 ⟨rfl, hb3⟩
    have S3 := Lib.hid (S2.out.on hb3)
    have HB3 := Lib.hid (chain HB2.out hb3)
    clear hb3 a0 a1
    obtain ⟨b0, b1, _, _⟩ := S3.out
    go_wp2_with fail
    refine (chk_no _ H2.out).mono ?_
    rintro e' w4 ⟨rfl, hb4⟩
    have HB4 := Lib.hid (chain HB3.out hb4)
    clear hb4 b0 b1
    go_wp2_with fail
    go_ret
    exact ⟨rfl, HB4.out⟩
theorem both_true (a b c d t : Int) (w : World) :
    Calls Try.prog 6 #[.agg #[.int .i64 a, .int .i64 b], .agg #[.int .i64 c, .int .i64 d], .int .i64 t] w fun e' w' => e' = .returned (.bool true) ∧ Below w.heap.size w w' := by
  have hb := fun w => both_any a b c d w
  have hb' := fun w => both_any c d a b w
  cases h1 : wnB a b
  · have i : boI a b c d = false := by simp [boI, h1]
    rw [i, show boE a b c d = 8 by simp [boE, h1]] at hb
    exact both_bad a b c d t _ _ w (Or.inl h1) hb
  · cases h2 : wnB c d
    · have i : boI a b c d = false := by simp [boI, h2]
      rw [i, show boE a b c d = 8 by simp [boE, h1, h2]] at hb
      exact both_bad a b c d t _ _ w (Or.inr ⟨h1, h2⟩) hb
    · obtain ⟨a0, a1, b0, b1, ab⟩ := wnB_true.1 h1
      obtain ⟨c0, c1, d0, d1, cd⟩ := wnB_true.1 h2
      by_cases hm : max a c ≤ min b d
      · have i : boI a b c d = true := by simp only [boI, h1, h2, Bool.true_and, decide_eq_true_eq]; exact hm
        have i' : boI c d a b = true := by simp only [boI, h1, h2, Bool.true_and, decide_eq_true_eq]; omega
        have e1 : max c a = max a c := by omega
        have e2 : min d b = min b d := by omega
        rw [i, show boE a b c d = 0 by simp [boE, h1, h2], show boX a b c d = max a c by simp [boX, i], show boY a b c d = min b d by simp [boY, i]] at hb
        rw [i', show boE c d a b = 0 by simp [boE, h1, h2], show boX c d a b = max a c by simp [boX, i', e1], show boY c d a b = min b d by simp [boY, i', e2]] at hb'
        have h3 : wnB (max a c) (min b d) = true := wnB_true.2 (by omega)
        refine both_t a b c d t (max a c) (min b d) _ _ _ w h1 h2 h3 hb hb' rfl rfl rfl ?_ ?_
        · by_cases hx : max a c = 0
          · by_cases hy : min b d = 0
            · exact Or.inr ⟨by rw [hx]; rfl, by rw [hy]; rfl, by rw [show a = 0 by omega]; rfl, by rw [show c = 0 by omega]; rfl⟩
            · exact Or.inl (Or.inr ⟨by rw [hx]; rfl, by simpa using hy⟩)
          · exact Or.inl (Or.inl (by simpa using hx))
        · by_cases hq : a ≤ t ∧ t ≤ b
          · left
            refine ⟨inB_true.2 ⟨h1, hq⟩, ?_⟩
            rw [Bool.eq_iff_iff, inB_true, inB_true, h3, h2]
            simp only [true_and]
            omega
          · right
            refine ⟨by simp only [inB, h1, Bool.true_and, decide_eq_false_iff_not]; exact hq, by simp only [inB, h3, Bool.true_and, decide_eq_false_iff_not]; omega⟩
      · have i : boI a b c d = false := by simp only [boI, h1, h2, Bool.true_and, decide_eq_false_iff_not]; exact hm
        have i' : boI c d a b = false := by simp only [boI, h1, h2, Bool.true_and, decide_eq_false_iff_not]; omega
        rw [i, show boE a b c d = 0 by simp [boE, h1, h2], show boX a b c d = 0 by simp [boX, i], show boY a b c d = 0 by simp [boY, i]] at hb
        rw [i', show boE c d a b = 0 by simp [boE, h1, h2], show boX c d a b = 0 by simp [boX, i'], show boY c d a b = 0 by simp [boY, i']] at hb'
        refine both_f a b c d t 0 0 _ _ _ w h1 h2 (by decide) hb hb' rfl rfl rfl ⟨rfl, rfl, ?_⟩ ?_
        · by_cases ha : a = 0
          · right
            exact ⟨by rw [ha]; rfl, by have : ¬ c = 0 := by omega
                                       simpa using this⟩
          · left; simpa using ha
        · by_cases hq : a ≤ t ∧ t ≤ b
          · left
            exact ⟨inB_true.2 ⟨h1, hq⟩, by simp only [inB, h2, Bool.true_and, decide_eq_false_iff_not]; omega⟩
          · right
            simp only [inB, h1, Bool.true_and, decide_eq_false_iff_not]; exact hq
/-! The row -/
set_option maxRecDepth 100000 in
theorem both_lifted (os : Os) (started : os.Started) (H : Type) (enc : TypeId × Value → H) :
    ReturnsInHanded {} Try.checked os 6 .any (Rows.clockBothSpec.pre6 enc Try.prog Try.f6 Rows.clockBothRow.domain false) (Rows.clockBothSpec.post enc Try.prog Try.f6 false true false false) := by
  refine returnsInHanded_of_change (C := Try.checked) Try.own started (by kernel_rfl) Try.func6
    (ChangeSpec.witness6 (enc := enc) (C := Try.checked) false ⟨#[], #[.agg #[.int .i64 0, .int .i64 0], .agg #[.int .i64 0, .int .i64 0], .int .i64 0], []⟩ 8 (by kernel_rfl) (by kernel_rfl) (by kernel_rfl) (by kernel_rfl)) ?_
  intro W base args ds gs before hval0 hW hcnd _
  have hval : ∀ (j : Nat) t v, Try.f6.params[j]? = some t → args[j]? = some v → Value.okWide Try.prog W .any base t v := hval0
  have hW' := hW
  obtain ⟨p, q, hA0, hV, rfl, hfz, hnd⟩ := hW
  have hA : DataW.TrodAll enc Try.prog W 0 (fun _ => true) true Try.f6.params.toList args.toList ds p := hA0
  rw [Try.params6] at hA hval
  obtain ⟨v0, vs0, d0, ds0, p0, q0, hargs, rfl, rfl, h0, r0⟩ := trodAll_cons hA
  obtain ⟨v1, vs1, d1, ds1, p1, q1, rfl, rfl, rfl, h1, r1⟩ := trodAll_cons r0
  obtain ⟨v2, vs2, d2, ds2, p2, q2, rfl, rfl, rfl, h2, r2⟩ := trodAll_cons r1
  obtain ⟨rfl, rfl, rfl⟩ := trodAll_nil r2
  obtain rfl : args = #[v0, v1, v2] := by cases args; simp_all
  obtain ⟨rfl, rfl⟩ := trodVars_none hV
  obtain ⟨a, b, rfl, ua, ub⟩ := open_window (hval 0 25 v0 rfl rfl) h0
  obtain ⟨c, d, rfl, uc, ud⟩ := open_window (hval 1 25 v1 rfl rfl) h1
  obtain ⟨t, rfl, e2, f2, w2⟩ := open_int Try.underlying2 (hval 2 2 v2 rfl rfl) h2
  refine (both_true a b c d t W).mono fun e W' ⟨he, hg⟩ => ?_
  subst he
  exact ⟨_, rfl, law_post Try.laidOut (by kernel_rfl) (by kernel_rfl) hW' hg (trodAll_cons_mk (shut_bool Try.underlying4 _) trodAll_mk0) rfl rfl⟩

/-- the statement -/
theorem both_holds : Rows.ClockBothSaid :=
  OpenClaim.holds_of_wide 6 Try.f6 rfl rfl rfl rfl rfl rfl rfl ⟨rfl, rfl, rfl, rfl, rfl⟩ rfl rfl rfl rfl rfl (by kernel_rfl) Try.func6 (by kernel_rfl)
    (of_decide_eq_true (by kernel_rfl)) (by unfold Func.isWrapper; rw [if_neg (of_decide_eq_false (by kernel_rfl))]; exact ⟨rfl, rfl⟩)
    (fun os started H enc _ => both_lifted os started H enc)
#print axioms both_holds
end Go.Proofs.Ytopdblkgchcdnaa
