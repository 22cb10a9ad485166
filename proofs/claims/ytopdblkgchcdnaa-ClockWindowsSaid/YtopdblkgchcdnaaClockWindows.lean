/- ClockWindows: for every two windows, number and events, package clock's Check, In, Both and Next answer as the reference does. No condition. -/
import Derived.Test.YtopdblkgchcdnaaClkP
import Derived.Test.YtopdblkgchcdnaaClkO
import Derived.Test.YtopdblkgchcdnaaClkK
import Derived.Test.YtopdblkgchcdnaaRows
namespace Go.Proofs.Ytopdblkgchcdnaa
open Go.ChangeShapes Go.WideShapes Go.ChangeAt Go.RowKit Clk
open Go.WideMaps Go.WideElems
set_option linter.unusedVariables false
set_option linter.unusedSimpArgs false
set_option maxRecDepth 100000 in
set_option maxHeartbeats 4000000 in
theorem windows_core (a b c d t : Int) (v0 : Option Addr) (len cap : Nat) (zs : List Int) (x y n e g : Int) (is : Bool) (w : World) (hl : len ≤ 1200)
    (h1 : ∀ w, Calls Try.prog 12 #[.agg #[.int .i64 a, .int .i64 b], .agg #[.int .i64 c, .int .i64 d]] w fun e' w' => e' = .returned (.tuple #[.agg #[.int .i64 x, .int .i64 y], .bool is, .int .i64 e]) ∧ Below w.heap.size w w')
    (h2 : ∀ w, Calls Try.prog 17 #[.agg #[.int .i64 a, .int .i64 b], .agg #[.int .i64 c, .int .i64 d]] w fun e' w' => e' = .returned (.tuple #[.agg #[.int .i64 x, .int .i64 y], .bool is, .int .i64 e]) ∧ Below w.heap.size w w')
    (h3 : ∀ w1, Below w.heap.size w w1 → Calls Try.prog 15 #[.slice v0 len cap, .int .i64 t] w1 fun e' w' => e' = .returned (.tuple #[.int .i64 n, .int .i64 g]) ∧ w1 = w')
    (h4 : ∀ w1, Below w.heap.size w w1 → Calls Try.prog 18 #[.slice v0 len cap, .int .i64 t] w1 fun e' w' => e' = .returned (.tuple #[.int .i64 n, .int .i64 g]) ∧ Below w1.heap.size w1 w') :
    Calls Try.prog 4 #[.agg #[.int .i64 a, .int .i64 b], .agg #[.int .i64 c, .int .i64 d], .int .i64 t, .slice v0 len cap] w fun e' w' => e' = .returned (.bool true) ∧ Below w.heap.size w w' := by
  have H1 := Lib.hid h1
  have H2 := Lib.hid h2
  have H3 := Lib.hid h3
  have H4 := Lib.hid h4
  clear h1 h2 h3 h4
  go_enter Try.func4, Try.ntmps4
  go_wp2_with fail
  have T : RowKit.Hid (Two w.heap.size ((w.alloc (.cells #[.int .i64 a, .int .i64 b] 25)).alloc (.cells #[.int .i64 c, .int .i64 d] 25)) a b) := Lib.hid ((Two.new w a b _).on (below_new _ _))
  have S : RowKit.Hid (Two (w.heap.size + 1) ((w.alloc (.cells #[.int .i64 a, .int .i64 b] 25)).alloc (.cells #[.int .i64 c, .int .i64 d] 25)) c d) := Lib.hid (by simpa using Two.new (w.alloc (.cells #[.int .i64 a, .int .i64 b] 25)) c d 25)
  have HB : RowKit.Hid (Below w.heap.size w ((w.alloc (.cells #[.int .i64 a, .int .i64 b] 25)).alloc (.cells #[.int .i64 c, .int .i64 d] 25))) := Lib.hid ((below_new _ _).alloc (by simp) _)
  refine (H1.out _).mono ?_
  rintro e' w1 ⟨rfl, hb1⟩
  have T1 := Lib.hid (T.out.on hb1)
  have S1 := Lib.hid (S.out.on hb1)
  have HB1 := Lib.hid (chain HB.out hb1)
  clear hb1 T S HB
  obtain ⟨a0, a1, _, _⟩ := T1.out
  obtain ⟨b0, b1, _, _⟩ := S1.out
  go_upto_region 4 with fail
  obtain ⟨N, hN⟩ : ∃ N, w1.heap.size = N := ⟨_, rfl⟩
  generalize hv : World.alloc _ _ = v
  have T2 : RowKit.Hid (Two w.heap.size v a b) := Lib.hid (by rw [← hv]; exact T1.out.on (below_new _ _))
  have S2 : RowKit.Hid (Two (w.heap.size + 1) v c d) := Lib.hid (by rw [← hv]; exact S1.out.on (below_new _ _))
  have R2 : RowKit.Hid (Two N v x y) := Lib.hid (by rw [← hv, ← hN]; exact Two.new w1 _ _ _)
  have HB2 : RowKit.Hid (Below w.heap.size w v) := Lib.hid (by rw [← hv]; exact HB1.out.alloc HB1.out.size _)
  clear hv T1 S1 HB1 a0 a1 b0 b1
  try rw [hN]
  clear hN
  obtain ⟨a0, a1, _, _⟩ := T2.out
  obtain ⟨b0, b1, _, _⟩ := S2.out
  go_wp2_with fail
  refine (H2.out _).mono ?_
  rintro e' w3 ⟨rfl, hb3⟩
  have T3 := Lib.hid (T2.out.on hb3)
  have R3 := Lib.hid (R2.out.on hb3)
  have HB3 := Lib.hid (chain HB2.out hb3)
  clear hb3 T2 S2 R2 HB2 a0 a1 b0 b1
  go_upto_region 5 with fail
  obtain ⟨M, hM⟩ : ∃ M, w3.heap.size = M := ⟨_, rfl⟩
  generalize hv : World.alloc _ _ = v
  have T4 : RowKit.Hid (Two w.heap.size v a b) := Lib.hid (by rw [← hv]; exact T3.out.on (below_new _ _))
  have R4 : RowKit.Hid (Two N v x y) := Lib.hid (by rw [← hv]; exact R3.out.on (below_new _ _))
  have Q4 : RowKit.Hid (Two M v x y) := Lib.hid (by rw [← hv, ← hM]; exact Two.new w3 _ _ _)
  have HB4 : RowKit.Hid (Below w.heap.size w v) := Lib.hid (by rw [← hv]; exact HB3.out.alloc HB3.out.size _)
  clear hv T3 R3 HB3
  try rw [hM]
  clear hM
  go_wp2_with fail
  refine (H3.out _ HB4.out).mono ?_
  rintro e' w5 ⟨rfl, rfl⟩
  go_wp2_with fail
  refine (H4.out _ HB4.out).mono ?_
  rintro e' w6 ⟨rfl, hb6⟩
  have T6 := Lib.hid (T4.out.on hb6)
  have R6 := Lib.hid (R4.out.on hb6)
  have Q6 := Lib.hid (Q4.out.on hb6)
  have HB6 := Lib.hid (chain HB4.out hb6)
  clear hb6 T4 R4 Q4 HB4
  go_upto_region 7 with fail
  obtain ⟨a0, a1, _, _⟩ := T6.out
  obtain ⟨b0, b1, _, _⟩ := R6.out
  obtain ⟨c0, c1, _, _⟩ := Q6.out
  have za := T6.out.lt
  have zb := R6.out.lt
  have zc := Q6.out.lt
  go_region_held3 (fun z => Below w6.heap.size w6 z ∧ ∀ b o, b < w6.heap.size → z.cell? ⟨b, o, none⟩ = w6.cell? ⟨b, o, none⟩)
    (first | assumption | exact keep0 _ | exact keepF (keep0 _) hb7 | exact keepF (by assumption) hb7)
    (first | (go_at_call 10; refine (chk_any _ _ _).mono ?_; rintro e w7 ⟨rfl, hb7⟩) | (go_at_call 19; refine (rchk_any _ _ _).mono ?_; rintro e w7 ⟨rfl, hb7⟩) | (go_at_call 11; refine (in_any _ _ _ _).mono ?_; rintro e w7 ⟨rfl, hb7⟩) | (go_at_call 20; refine (rin_any _ _ _ _).mono ?_; rintro e w7 ⟨rfl, hb7⟩))
  go_wp2_with fail
  go_ret
  refine ⟨rfl, chain HB6.out (And.left (by assumption))⟩
set_option maxHeartbeats 1000000 in
theorem windows_true (a b c d t : Int) (v : Value) (zs : List Int) (w : World) (hz : zs.length ≤ 9223372036854775807) (hv : Evs w v zs) :
    Calls Try.prog 4 #[.agg #[.int .i64 a, .int .i64 b], .agg #[.int .i64 c, .int .i64 d], .int .i64 t, v] w fun e' w' => e' = .returned (.bool true) ∧ Below w.heap.size w w' := by
  have hv' := hv
  have hshape : ∃ v0 cap, v = .slice v0 zs.length cap := by
    rcases hv' with ⟨⟨a, cap, rfl⟩, rfl⟩ | ⟨b, off, cap, rfl, hc⟩
    · exact ⟨a, cap, rfl⟩
    · exact ⟨_, _, rfl⟩
  obtain ⟨v0, cap, rfl⟩ := hshape
  by_cases hl : zs.length ≤ 1200
  · exact windows_core a b c d t v0 zs.length cap zs _ _ _ _ _ _ w hl (fun w => both_any a b c d w) (fun w => rboth_any a b c d w) (fun w1 hb => next_any t _ zs w1 hz (hv.on hb)) (fun w1 hb => rnext_any t _ zs w1 hz (hv.on hb))
  · clear hv hv'
    go_enter Try.func4, Try.ntmps4
    go_wp2_with fail
    go_ret
    exact ⟨rfl, (below_new _ _).alloc (by simp) _⟩
/-! The row -/
set_option maxRecDepth 100000 in
theorem windows_lifted (os : Os) (started : os.Started) (H : Type) (enc : TypeId × Value → H) :
    ReturnsInHanded {} Try.checked os 4 .any (Rows.clockWindowsSpec.pre6 enc Try.prog Try.f4 Rows.clockWindowsRow.domain false) (Rows.clockWindowsSpec.post enc Try.prog Try.f4 false true false false) := by
  refine returnsInHanded_of_change (C := Try.checked) Try.own started (by kernel_rfl) Try.func4
    (ChangeSpec.witness6 (enc := enc) (C := Try.checked) false ⟨#[], #[.agg #[.int .i64 0, .int .i64 0], .agg #[.int .i64 0, .int .i64 0], .int .i64 0, .slice none 0 0], []⟩ 8 (by kernel_rfl) (by kernel_rfl) (by kernel_rfl) (by kernel_rfl)) ?_
  intro W base args ds gs before hval0 hW hcnd _
  have hval : ∀ (j : Nat) t v, Try.f4.params[j]? = some t → args[j]? = some v → Value.okWide Try.prog W .any base t v := hval0
  have hW' := hW
  obtain ⟨p, q, hA0, hV, rfl, hfz, hnd⟩ := hW
  have hA : DataW.TrodAll enc Try.prog W 0 (fun _ => true) true Try.f4.params.toList args.toList ds p := hA0
  rw [Try.params4] at hA hval
  obtain ⟨v0, vs0, d0, ds0, p0, q0, hargs, rfl, rfl, h0, r0⟩ := trodAll_cons hA
  obtain ⟨v1, vs1, d1, ds1, p1, q1, rfl, rfl, rfl, h1, r1⟩ := trodAll_cons r0
  obtain ⟨v2, vs2, d2, ds2, p2, q2, rfl, rfl, rfl, h2, r2⟩ := trodAll_cons r1
  obtain ⟨v3, vs3, d3, ds3, p3, q3, rfl, rfl, rfl, h3, r3⟩ := trodAll_cons r2
  obtain ⟨rfl, rfl, rfl⟩ := trodAll_nil r3
  obtain rfl : args = #[v0, v1, v2, v3] := by cases args; simp_all
  obtain ⟨rfl, rfl⟩ := trodVars_none hV
  obtain ⟨a, b, rfl, ua, ub⟩ := open_window (hval 0 25 v0 rfl rfl) h0
  obtain ⟨c, d, rfl, uc, ud⟩ := open_window (hval 1 25 v1 rfl rfl) h1
  obtain ⟨t, rfl, e2, f2, w2⟩ := open_int Try.underlying2 (hval 2 2 v2 rfl rfl) h2
  obtain ⟨zs, z3, y3⟩ := open_events (hval 3 35 v3 rfl rfl) h3
  refine (windows_true a b c d t _ zs W z3 y3).mono fun e W' ⟨he, hg⟩ => ?_
  subst he
  exact ⟨_, rfl, law_post Try.laidOut (by kernel_rfl) (by kernel_rfl) hW' hg (trodAll_cons_mk (shut_bool Try.underlying4 _) trodAll_mk0) rfl rfl⟩

/-- the statement -/
theorem windows_holds : Rows.ClockWindowsSaid :=
  OpenClaim.holds_of_wide 4 Try.f4 rfl rfl rfl rfl rfl rfl rfl ⟨rfl, rfl, rfl, rfl, rfl⟩ rfl rfl rfl rfl rfl (by kernel_rfl) Try.func4 (by kernel_rfl)
    (of_decide_eq_true (by kernel_rfl)) (by unfold Func.isWrapper; rw [if_neg (of_decide_eq_false (by kernel_rfl))]; exact ⟨rfl, rfl⟩)
    (fun os started H enc _ => windows_lifted os started H enc)
#print axioms windows_holds
end Go.Proofs.Ytopdblkgchcdnaa
