/-
 REVOKECODES. Written by wip/gen-rvu.py.
-/
import Derived.Test.YtcgffkkfeimifaaGreatRvSU
import Derived.Test.YtcgffkkfeimifaaGreatRxJ
import Derived.Test.YtcgffkkfeimifaaGreatRows
namespace Go.Proofs.YtcgffkkfeimifaaGreat
open Go.ChangeShapes Go.WideShapes Go.ChangeAt Go.RowKit Go.Joins Sha Oc Sg
set_option linter.unusedVariables false
set_option maxRecDepth 100000 in
theorem revcodes_lifted (os : Os) (started : os.Started) (H : Type) (enc : TypeId × Value → H) :
  ReturnsInHanded {} Tryz.checked os 3 .any (Rows.revokeCodesSpec.pre6 enc Tryz.prog Tryz.f3 Rows.revokeCodesRow.domain false) (Rows.revokeCodesSpec.post enc Tryz.prog Tryz.f3 false true false false) := by
 refine sized_of_change (C := Tryz.checked) Tryz.own started (by kernel_rfl) Tryz.func3 rfl
  (ChangeSpec.witness6 (enc := enc) (C := Tryz.checked) false ⟨#[], #[.agg #[.string ⟨#[]⟩, .int .u64 0, .int .i64 0, .int .i64 0, .slice none 0 0, .int .i64 0, .slice none 0 0, .slice none 0 0], .slice none 0 0], []⟩ 8 (by kernel_rfl) (by kernel_rfl) (by kernel_rfl) (by kernel_rfl)) ?_
 intro W base args ds gs before hval0 hW hwts
 have hval : ∀ (j : Nat) t v, Tryz.f3.params[j]? = some t → args[j]? = some v → Value.okWide Tryz.prog W .any base t v := hval0
 have hW' := hW
 obtain ⟨p, q, hA0, hV, rfl, hfz, hnd⟩ := hW
 have hA : DataW.TrodAll enc Tryz.prog W 0 (fun _ => true) true Tryz.f3.params.toList args.toList ds p := hA0
 have hwt : ∀ n ∈ DataW.weightsEach Tryz.prog Tryz.f3.params.toList ds, n ≤ 140737488355328 := hwts
 rw [Tryz.params3] at hA hval hwt
 obtain ⟨v0, vs0, d0, ds0, p0, q0, hargs, rfl, rfl, h0, r0⟩ := trodAll_cons hA
 obtain ⟨v1, vs1, d1, ds1, p1, q1, rfl, rfl, rfl, h1, r1⟩ := trodAll_cons r0
 obtain ⟨rfl, rfl, rfl⟩ := trodAll_nil r1
 obtain rfl : args = #[v0, v1] := by cases args; simp_all
 obtain ⟨rfl, rfl⟩ := trodVars_none hV
 obtain ⟨l0, m0, rfl, c0, a1, a2, a3, hwf⟩ := open_rev2 (hval 0 30 v0 rfl rfl) h0
 obtain ⟨A1, l1, c1, rfl, hc1, hm1, hn1, hs1⟩ := open_bytes8 (hval 1 31 v1 rfl rfl) h1 (fun n hn => hwt n (List.mem_append_right _ (List.mem_append_left _ hn)))
 refine (codes_any refdecode_any l0 m0 hwf l1 A1 c1 hc1 hm1 hn1 W a1 a2 a3 hs1).mono fun e W' ⟨he, hg⟩ => ?_
 subst he
 exact ⟨_, rfl, law_post Tryz.laidOut (by kernel_rfl) (by kernel_rfl) hW' hg (trodAll_cons_mk (shut_bool Tryz.underlying4 _) trodAll_mk0) rfl rfl⟩

/-- the statement -/
theorem revcodes_holds : Rows.RevokeCodesSaid :=
 OpenClaim.holds_of_wide 3 Tryz.f3 rfl rfl rfl rfl rfl rfl rfl ⟨rfl, rfl, rfl, rfl, rfl⟩ rfl rfl rfl rfl rfl (by kernel_rfl) Tryz.func3 (by kernel_rfl)
  (of_decide_eq_true (by kernel_rfl)) (by unfold Func.isWrapper; rw [if_neg (of_decide_eq_false (by kernel_rfl))]; exact ⟨rfl, rfl⟩)
  (fun os started H enc _ => revcodes_lifted os started H enc)
#print axioms revcodes_holds
end Go.Proofs.YtcgffkkfeimifaaGreat
