/- NumberChecks: for every input, the functions of package number that reckon with addresses, prefixes and names answer as the reference does. No condition. -/
import Derived.Test.YtjpngoccmjpckaaNumChecks
import Derived.Test.YtjpngoccmjpckaaNumOpen
namespace Go.Proofs.Ytjpngoccmjpckaa
open Go.ChangeShapes Go.WideShapes Go.ChangeAt Go.RowKit Nm
open Go.WideMaps Go.WideElems
open Go.ChangeMaps (open_string shut_string)
set_option linter.unusedVariables false
theorem checks_true (f h l h' l' n pf ph pl pn qf qh ql qn : Int) (s : ByteArray) (w : World) (uh : U64 h) (ul : U64 l) (uph : U64 ph) (upl : U64 pl) (uqh : U64 qh) (uql : U64 ql) (hs : s.size ≤ maxLen) :
    Calls Try.prog 3 #[.int .u8 f, .agg #[.int .u64 h, .int .u64 l], .agg #[.int .u64 h', .int .u64 l'], .int .i64 n, .agg #[.int .u8 pf, .int .u64 ph, .int .u64 pl, .int .i64 pn], .agg #[.int .u8 qf, .int .u64 qh, .int .u64 ql, .int .i64 qn], .string s] w fun e w' => e = .returned (.bool true) ∧ Below w.heap.size w w' := by
  by_cases hb : s.size ≤ 1000
  · exact checks_any f h l h' l' n pf ph pl pn qf qh ql qn s w uh ul uph upl uqh uql hs hb
  · exact checks_big f h l h' l' n pf ph pl pn qf qh ql qn s w hs (by omega)

set_option maxRecDepth 100000 in
theorem checks_lifted (os : Os) (started : os.Started) (H : Type) (enc : TypeId × Value → H) :
    ReturnsInHanded {} Try.checked os 3 .any (Rows.numberChecksSpec.pre6 enc Try.prog Try.f3 Rows.numberChecksRow.domain false) (Rows.numberChecksSpec.post enc Try.prog Try.f3 false true false false) := by
  refine returnsInHanded_of_change (C := Try.checked) Try.own started (by kernel_rfl) Try.func3
    (ChangeSpec.witness6 (enc := enc) (C := Try.checked) false ⟨#[], #[.int .u8 0, .agg #[.int .u64 0, .int .u64 0], .agg #[.int .u64 0, .int .u64 0], .int .i64 0, .agg #[.int .u8 0, .int .u64 0, .int .u64 0, .int .i64 0], .agg #[.int .u8 0, .int .u64 0, .int .u64 0, .int .i64 0], .string ⟨#[]⟩], []⟩ 8 (by kernel_rfl) (by kernel_rfl) (by kernel_rfl) (by kernel_rfl)) ?_
  intro W base args ds gs before hval0 hW hcnd _
  have hval : ∀ (j : Nat) t v, Try.f3.params[j]? = some t → args[j]? = some v → Value.okWide Try.prog W .any base t v := hval0
  have hW' := hW
  obtain ⟨p, q, hA0, hV, rfl, hfz, hnd⟩ := hW
  have hA : DataW.TrodAll enc Try.prog W 0 (fun _ => true) true Try.f3.params.toList args.toList ds p := hA0
  rw [Try.params3] at hA hval
  obtain ⟨v0, vs0, d0, ds0, p0, q0, hargs, rfl, rfl, h0, r0⟩ := trodAll_cons hA
  obtain ⟨v1, vs1, d1, ds1, p1, q1, rfl, rfl, rfl, h1, r1⟩ := trodAll_cons r0
  obtain ⟨v2, vs2, d2, ds2, p2, q2, rfl, rfl, rfl, h2, r2⟩ := trodAll_cons r1
  obtain ⟨v3, vs3, d3, ds3, p3, q3, rfl, rfl, rfl, h3, r3⟩ := trodAll_cons r2
  obtain ⟨v4, vs4, d4, ds4, p4, q4, rfl, rfl, rfl, h4, r4⟩ := trodAll_cons r3
  obtain ⟨v5, vs5, d5, ds5, p5, q5, rfl, rfl, rfl, h5, r5⟩ := trodAll_cons r4
  obtain ⟨v6, vs6, d6, ds6, p6, q6, rfl, rfl, rfl, h6, r6⟩ := trodAll_cons r5
  obtain ⟨rfl, rfl, rfl⟩ := trodAll_nil r6
  obtain rfl : args = #[v0, v1, v2, v3, v4, v5, v6] := by cases args; simp_all
  obtain ⟨rfl, rfl⟩ := trodVars_none hV
  obtain ⟨a0, rfl, e0, f0, w0⟩ := open_int Try.underlying5 (hval 0 5 v0 rfl rfl) h0
  obtain ⟨a1, b1, rfl, ua1, ub1⟩ := open_addr (hval 1 24 v1 rfl rfl) h1
  obtain ⟨a2, b2, rfl, ua2, ub2⟩ := open_addr (hval 2 24 v2 rfl rfl) h2
  obtain ⟨a3, rfl, e3, f3, w3⟩ := open_int Try.underlying3 (hval 3 3 v3 rfl rfl) h3
  obtain ⟨a4, b4, c4, n4, rfl, ub4, uc4, wa4, wn4⟩ := open_prefix (hval 4 26 v4 rfl rfl) h4
  obtain ⟨a5, b5, c5, n5, rfl, ub5, uc5, wa5, wn5⟩ := open_prefix (hval 5 26 v5 rfl rfl) h5
  obtain ⟨s, rfl, e6, f6, ws⟩ := open_string Try.underlying9 (hval 6 9 v6 rfl rfl) h6
  refine (checks_true a0 a1 b1 a2 b2 a3 a4 b4 c4 n4 a5 b5 c5 n5 s W ua1 ub1 ub4 uc4 ub5 uc5 ws).mono fun e W' ⟨he, hg⟩ => ?_
  subst he
  exact ⟨_, rfl, law_post Try.laidOut (by kernel_rfl) (by kernel_rfl) hW' hg (trodAll_cons_mk (shut_bool Try.underlying4 _) trodAll_mk0) rfl rfl⟩

/-- the statement -/
theorem checks_holds : Rows.NumberChecksSaid :=
  OpenClaim.holds_of_wide 3 Try.f3 rfl rfl rfl rfl rfl rfl rfl ⟨rfl, rfl, rfl, rfl, rfl⟩ rfl rfl rfl rfl rfl (by kernel_rfl) Try.func3 (by kernel_rfl)
    (of_decide_eq_true (by kernel_rfl)) (by unfold Func.isWrapper; rw [if_neg (of_decide_eq_false (by kernel_rfl))]; exact ⟨rfl, rfl⟩)
    (fun os started H enc _ => checks_lifted os started H enc)
#print axioms checks_holds
end Go.Proofs.Ytjpngoccmjpckaa
