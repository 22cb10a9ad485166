/- RoaBack: for every input, the law of layer 14 answers true. No condition. Written by wip/gen-rolaws.py. -/
import Derived.Test.YthfgdgcdicacpaaRoBk
import Derived.Test.YthfgdgcdicacpaaRoO
import Derived.Test.YthfgdgcdicacpaaRoQ
import Derived.Test.YthfgdgcdicacpaaRows
namespace Go.Proofs.Ythfgdgcdicacpaa
open Go.ChangeShapes Go.WideShapes Go.ChangeAt Go.RowKit Go.Joins Sha Ro Adr
set_option linter.unusedVariables false
set_option maxRecDepth 100000 in
theorem roaback_lifted (os : Os) (started : os.Started) (H : Type) (enc : TypeId × Value → H) :
  ReturnsInHanded {} Try.checked os 5 .any (Rows.roaBackSpec.pre6 enc Try.prog Try.f5 Rows.roaBackRow.domain false) (Rows.roaBackSpec.post enc Try.prog Try.f5 false true false false) := by
 refine sized_of_change14 (C := Try.checked) Try.own started (by kernel_rfl) Try.func5 rfl
  (ChangeSpec.witness6 (enc := enc) (C := Try.checked) false ⟨#[], #[.agg #[.int .u32 0, .slice none 0 0]], []⟩ 8 (by kernel_rfl) (by kernel_rfl) (by kernel_rfl) (by kernel_rfl)) ?_
 intro W base args ds gs before hval0 hW hwts
 have hval : ∀ (j : Nat) t v, Try.f5.params[j]? = some t → args[j]? = some v → Value.okWide Try.prog W .any base t v := hval0
 have hW' := hW
 obtain ⟨p, q, hA0, hV, rfl, hfz, hnd⟩ := hW
 have hA : DataW.TrodAll enc Try.prog W 0 (fun _ => true) true Try.f5.params.toList args.toList ds p := hA0
 have hwt : ∀ n ∈ DataW.weightsEach Try.prog Try.f5.params.toList ds, n ≤ 140737488355328 := hwts
 rw [Try.params5] at hA hval hwt
 obtain ⟨v0, vs0, d0, ds0, p0, q0, hargs, rfl, rfl, h0, r0⟩ := trodAll_cons hA
 obtain ⟨rfl, rfl, rfl⟩ := trodAll_nil r0
 obtain rfl : args = #[v0] := by cases args; simp_all
 obtain ⟨rfl, rfl⟩ := trodVars_none hV
 obtain ⟨a0, A0, c0, rfl, hA0n, hwf0, hp0⟩ := open_ra (hval 0 25 v0 rfl rfl) h0
 refine (lawback_any a0 hwf0 A0 c0 hA0n W hp0).mono fun e W' ⟨he, hg⟩ => ?_
 subst he
 exact ⟨_, rfl, law_post Try.laidOut (by kernel_rfl) (by kernel_rfl) hW' hg (trodAll_cons_mk (shut_bool Try.underlying4 _) trodAll_mk0) rfl rfl⟩

/-- the statement -/
theorem roaback_holds : Rows.RoaBackSaid :=
 OpenClaim.holds_of_wide 5 Try.f5 rfl rfl rfl rfl rfl rfl rfl ⟨rfl, rfl, rfl, rfl, rfl⟩ rfl rfl rfl rfl rfl (by kernel_rfl) Try.func5 (by kernel_rfl)
  (of_decide_eq_true (by kernel_rfl)) (by unfold Func.isWrapper; rw [if_neg (of_decide_eq_false (by kernel_rfl))]; exact ⟨rfl, rfl⟩)
  (fun os started H enc _ => roaback_lifted os started H enc)
#print axioms roaback_holds
end Go.Proofs.Ythfgdgcdicacpaa
