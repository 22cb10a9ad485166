/- RoaOrigins: for every input, the law of layer 14 answers true. No condition. Written by wip/gen-rolaws.py. -/
import Derived.Test.YthfgdgcdicacpaaRoOr
import Derived.Test.YthfgdgcdicacpaaRoO
import Derived.Test.YthfgdgcdicacpaaRoQ
import Derived.Test.YthfgdgcdicacpaaRows
namespace Go.Proofs.Ythfgdgcdicacpaa
open Go.ChangeShapes Go.WideShapes Go.ChangeAt Go.RowKit Go.Joins Sha Ro Adr
set_option linter.unusedVariables false
set_option maxRecDepth 100000 in
theorem roaorigins_lifted (os : Os) (started : os.Started) (H : Type) (enc : TypeId × Value → H) :
  ReturnsInHanded {} Try.checked os 7 .any (Rows.roaOriginsSpec.pre6 enc Try.prog Try.f7 Rows.roaOriginsRow.domain false) (Rows.roaOriginsSpec.post enc Try.prog Try.f7 false true false false) := by
 refine sized_of_change14 (C := Try.checked) Try.own started (by kernel_rfl) Try.func7 rfl
  (ChangeSpec.witness6 (enc := enc) (C := Try.checked) false ⟨#[], #[.agg #[.int .u32 0, .slice none 0 0], .agg #[.int .u8 0, .int .u64 0, .int .u64 0, .int .i64 0], .int .u32 0], []⟩ 8 (by kernel_rfl) (by kernel_rfl) (by kernel_rfl) (by kernel_rfl)) ?_
 intro W base args ds gs before hval0 hW hwts
 have hval : ∀ (j : Nat) t v, Try.f7.params[j]? = some t → args[j]? = some v → Value.okWide Try.prog W .any base t v := hval0
 have hW' := hW
 obtain ⟨p, q, hA0, hV, rfl, hfz, hnd⟩ := hW
 have hA : DataW.TrodAll enc Try.prog W 0 (fun _ => true) true Try.f7.params.toList args.toList ds p := hA0
 have hwt : ∀ n ∈ DataW.weightsEach Try.prog Try.f7.params.toList ds, n ≤ 140737488355328 := hwts
 rw [Try.params7] at hA hval hwt
 obtain ⟨v0, vs0, d0, ds0, p0, q0, hargs, rfl, rfl, h0, r0⟩ := trodAll_cons hA
 obtain ⟨v1, vs1, d1, ds1, p1, q1, rfl, rfl, rfl, h1, r1⟩ := trodAll_cons r0
 obtain ⟨v2, vs2, d2, ds2, p2, q2, rfl, rfl, rfl, h2, r2⟩ := trodAll_cons r1
 obtain ⟨rfl, rfl, rfl⟩ := trodAll_nil r2
 obtain rfl : args = #[v0, v1, v2] := by cases args; simp_all
 obtain ⟨rfl, rfl⟩ := trodVars_none hV
 obtain ⟨a0, A0, c0, rfl, hA0n, hwf0, hp0⟩ := open_ra (hval 0 25 v0 rfl rfl) h0
 obtain ⟨a1, b1, e1, n1, rfl, ub1, uc1, wa1, wn1⟩ := open_prefix (hval 1 44 v1 rfl rfl) h1
 obtain ⟨a2, rfl, e2, f2, w2⟩ := open_int Try.underlying22 (hval 2 22 v2 rfl rfl) h2
 refine (laworigins_any a0 hwf0 A0 c0 a1 b1 e1 n1 ub1 uc1 a2 W hp0).mono fun e W' ⟨he, hg⟩ => ?_
 subst he
 exact ⟨_, rfl, law_post Try.laidOut (by kernel_rfl) (by kernel_rfl) hW' hg (trodAll_cons_mk (shut_bool Try.underlying4 _) trodAll_mk0) rfl rfl⟩

/-- the statement -/
theorem roaorigins_holds : Rows.RoaOriginsSaid :=
 OpenClaim.holds_of_wide 7 Try.f7 rfl rfl rfl rfl rfl rfl rfl ⟨rfl, rfl, rfl, rfl, rfl⟩ rfl rfl rfl rfl rfl (by kernel_rfl) Try.func7 (by kernel_rfl)
  (of_decide_eq_true (by kernel_rfl)) (by unfold Func.isWrapper; rw [if_neg (of_decide_eq_false (by kernel_rfl))]; exact ⟨rfl, rfl⟩)
  (fun os started H enc _ => roaorigins_lifted os started H enc)
#print axioms roaorigins_holds
end Go.Proofs.Ythfgdgcdicacpaa
