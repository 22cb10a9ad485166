/- ClockReads: for every clock and two numbers, package clock's CheckClock, Read and Sure answer as the reference does. No condition. -/
import Derived.Test.YtopdblkgchcdnaaClkH
import Derived.Test.YtopdblkgchcdnaaClkK
import Derived.Test.YtopdblkgchcdnaaRows
namespace Go.Proofs.Ytopdblkgchcdnaa
open Go.ChangeShapes Go.WideShapes Go.ChangeAt Go.RowKit Clk
open Go.WideMaps Go.WideElems
set_option linter.unusedVariables false
set_option linter.unusedSimpArgs false
set_option maxRecDepth 100000 in
set_option maxHeartbeats 2000000 in
theorem reads_true (s d t n : Int) (w : World) :
    Calls Try.prog 5 #[.agg #[.int .i64 s, .int .i64 d], .int .i64 t, .int .i64 n] w fun e' w' => e' = .returned (.bool true) ∧ Below w.heap.size w w' := by
  go_enter Try.func5, Try.ntmps5
  go_wp2_with fail
  have T := Lib.hid (Two.new w s d 30)
  have HB := Lib.hid (below_new w (.cells #[.int .i64 s, .int .i64 d] 30))
  refine (read_any s d t _).mono ?_
  rintro e' w1 ⟨rfl, hb1⟩
  have T1 := Lib.hid (T.out.on hb1)
  have HB1 := Lib.hid (chain HB.out hb1)
  clear hb1 T HB
  obtain ⟨a0, a1, _, _⟩ := T1.out
  go_wp2_with fail
  refine (rread_any s d t _).mono ?_
  rintro e' w2 ⟨rfl, hb2⟩
  have T2 := Lib.hid (T1.out.on hb2)
  have HB2 := Lib.hid (chain HB1.out hb2)
  clear hb2 T1 HB1 a0 a1
  obtain ⟨a0, a1, _, _⟩ := T2.out
  go_wp2_with fail
  refine (sure_any s d n _).mono ?_
  rintro e' w3 ⟨rfl, hb3⟩
  have T3 := Lib.hid (T2.out.on hb3)
  have HB3 := Lib.hid (chain HB2.out hb3)
  clear hb3 T2 HB2 a0 a1
  go_upto_region 4 with fail
  obtain ⟨N, hN⟩ : ∃ N, w3.heap.size = N := ⟨_, rfl⟩
  generalize hv : World.alloc _ _ = v
  have T4 : RowKit.Hid (Two w.heap.size v s d) := Lib.hid (by rw [← hv]; exact T3.out.on (below_new _ _))
  have S4 : RowKit.Hid (Two N v (suF s d n) (suT s d n)) := Lib.hid (by rw [← hv, ← hN]; exact Two.new w3 _ _ _)
  have HB4 : RowKit.Hid (Below w.heap.size w v) := Lib.hid (by rw [← hv]; exact HB3.out.alloc HB3.out.size _)
  clear hv T3 HB3
  try rw [hN]
  clear hN
  obtain ⟨a0, a1, _, _⟩ := T4.out
  go_wp2_with fail
  refine (rsure_any s d n _).mono ?_
  rintro e' w5 ⟨rfl, hb5⟩
  have T5 := Lib.hid (T4.out.on hb5)
  have S5 := Lib.hid (S4.out.on hb5)
  have HB5 := Lib.hid (chain HB4.out hb5)
  clear hb5 T4 S4 HB4 a0 a1
  go_upto_region 5 with fail
  obtain ⟨M, hM⟩ : ∃ M, w5.heap.size = M := ⟨_, rfl⟩
  generalize hv : World.alloc _ _ = v
  have T6 : RowKit.Hid (Two w.heap.size v s d) := Lib.hid (by rw [← hv]; exact T5.out.on (below_new _ _))
  have S6 : RowKit.Hid (Two N v (suF s d n) (suT s d n)) := Lib.hid (by rw [← hv]; exact S5.out.on (below_new _ _))
  have R6 : RowKit.Hid (Two M v (suF s d n) (suT s d n)) := Lib.hid (by rw [← hv, ← hM]; exact Two.new w5 _ _ _)
  have HB6 : RowKit.Hid (Below w.heap.size w v) := Lib.hid (by rw [← hv]; exact HB5.out.alloc HB5.out.size _)
  clear hv T5 S5 HB5
  try rw [hM]
  clear hM
  obtain ⟨a0, a1, _, _⟩ := T6.out
  obtain ⟨b0, b1, _, _⟩ := S6.out
  obtain ⟨c0, c1, _, _⟩ := R6.out
  have za := T6.out.lt
  have zb := S6.out.lt
  have zc := R6.out.lt
  go_region_held3 (fun z => Below v.heap.size v z ∧ ∀ b o, b < v.heap.size → z.cell? ⟨b, o, none⟩ = v.cell? ⟨b, o, none⟩)
    (first | assumption | exact keep0 _ | exact keepF (keep0 _) hb7 | exact keepF (by assumption) hb7)
    (first | (go_at_call 23; refine (cc_any _ _ _).mono ?_; rintro e w7 ⟨rfl, hb7⟩) | (go_at_call 24; refine (rcc_any _ _ _).mono ?_; rintro e w7 ⟨rfl, hb7⟩))
  go_outline
  go_wp2_with fail
  go_ret
  refine ⟨rfl, chain HB6.out (And.left (by assumption))⟩
/-! The row -/
set_option maxRecDepth 100000 in
theorem reads_lifted (os : Os) (started : os.Started) (H : Type) (enc : TypeId × Value → H) :
    ReturnsInHanded {} Try.checked os 5 .any (Rows.clockReadsSpec.pre6 enc Try.prog Try.f5 Rows.clockReadsRow.domain false) (Rows.clockReadsSpec.post enc Try.prog Try.f5 false true false false) := by
  refine returnsInHanded_of_change (C := Try.checked) Try.own started (by kernel_rfl) Try.func5
    (ChangeSpec.witness6 (enc := enc) (C := Try.checked) false ⟨#[], #[.agg #[.int .i64 0, .int .i64 0], .int .i64 0, .int .i64 0], []⟩ 8 (by kernel_rfl) (by kernel_rfl) (by kernel_rfl) (by kernel_rfl)) ?_
  intro W base args ds gs before hval0 hW hcnd _
  have hval : ∀ (j : Nat) t v, Try.f5.params[j]? = some t → args[j]? = some v → Value.okWide Try.prog W .any base t v := hval0
  have hW' := hW
  obtain ⟨p, q, hA0, hV, rfl, hfz, hnd⟩ := hW
  have hA : DataW.TrodAll enc Try.prog W 0 (fun _ => true) true Try.f5.params.toList args.toList ds p := hA0
  rw [Try.params5] at hA hval
  obtain ⟨v0, vs0, d0, ds0, p0, q0, hargs, rfl, rfl, h0, r0⟩ := trodAll_cons hA
  obtain ⟨v1, vs1, d1, ds1, p1, q1, rfl, rfl, rfl, h1, r1⟩ := trodAll_cons r0
  obtain ⟨v2, vs2, d2, ds2, p2, q2, rfl, rfl, rfl, h2, r2⟩ := trodAll_cons r1
  obtain ⟨rfl, rfl, rfl⟩ := trodAll_nil r2
  obtain rfl : args = #[v0, v1, v2] := by cases args; simp_all
  obtain ⟨rfl, rfl⟩ := trodVars_none hV
  obtain ⟨s, d, rfl, us, ud⟩ := open_clock (hval 0 30 v0 rfl rfl) h0
  obtain ⟨t, rfl, e1, f1, w1⟩ := open_int Try.underlying2 (hval 1 2 v1 rfl rfl) h1
  obtain ⟨n, rfl, e2, f2, w2⟩ := open_int Try.underlying2 (hval 2 2 v2 rfl rfl) h2
  refine (reads_true s d t n W).mono fun e W' ⟨he, hg⟩ => ?_
  subst he
  exact ⟨_, rfl, law_post Try.laidOut (by kernel_rfl) (by kernel_rfl) hW' hg (trodAll_cons_mk (shut_bool Try.underlying4 _) trodAll_mk0) rfl rfl⟩

/-- the statement -/
theorem reads_holds : Rows.ClockReadsSaid :=
  OpenClaim.holds_of_wide 5 Try.f5 rfl rfl rfl rfl rfl rfl rfl ⟨rfl, rfl, rfl, rfl, rfl⟩ rfl rfl rfl rfl rfl (by kernel_rfl) Try.func5 (by kernel_rfl)
    (of_decide_eq_true (by kernel_rfl)) (by unfold Func.isWrapper; rw [if_neg (of_decide_eq_false (by kernel_rfl))]; exact ⟨rfl, rfl⟩)
    (fun os started H enc _ => reads_lifted os started H enc)
#print axioms reads_holds
end Go.Proofs.Ytopdblkgchcdnaa
