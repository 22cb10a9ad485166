/- RoaOnce: for every input, the law of layer 14 answers true. No condition. Written by wip/gen-rolaws.py. -/
import Derived.Test.YthfgdgcdicacpaaRoOn
import Derived.Test.YthfgdgcdicacpaaRoO
import Derived.Test.YthfgdgcdicacpaaOcRFJ
import Derived.Test.YthfgdgcdicacpaaRoQ
import Derived.Test.YthfgdgcdicacpaaRows
namespace Go.Proofs.Ythfgdgcdicacpaa
open Go.ChangeShapes Go.WideShapes Go.ChangeAt Go.RowKit Go.Joins Sha Ro Adr
set_option linter.unusedVariables false
set_option maxRecDepth 100000 in
theorem roaonce_lifted (os : Os) (started : os.Started) (H : Type) (enc : TypeId × Value → H) :
  ReturnsInHanded {} Try.checked os 6 .any (Rows.roaOnceSpec.pre6 enc Try.prog Try.f6 Rows.roaOnceRow.domain false) (Rows.roaOnceSpec.post enc Try.prog Try.f6 false true false false) := by
 refine sized_of_change14 (C := Try.checked) Try.own started (by kernel_rfl) Try.func6 rfl
  (ChangeSpec.witness6 (enc := enc) (C := Try.checked) false ⟨#[], #[.slice none 0 0], []⟩ 8 (by kernel_rfl) (by kernel_rfl) (by kernel_rfl) (by kernel_rfl)) ?_
 intro W base args ds gs before hval0 hW hwts
 have hval : ∀ (j : Nat) t v, Try.f6.params[j]? = some t → args[j]? = some v → Value.okWide Try.prog W .any base t v := hval0
 have hW' := hW
 obtain ⟨p, q, hA0, hV, rfl, hfz, hnd⟩ := hW
 have hA : DataW.TrodAll enc Try.prog W 0 (fun _ => true) true Try.f6.params.toList args.toList ds p := hA0
 have hwt : ∀ n ∈ DataW.weightsEach Try.prog Try.f6.params.toList ds, n ≤ 140737488355328 := hwts
 rw [Try.params6] at hA hval hwt
 obtain ⟨v0, vs0, d0, ds0, p0, q0, hargs, rfl, rfl, h0, r0⟩ := trodAll_cons hA
 obtain ⟨rfl, rfl, rfl⟩ := trodAll_nil r0
 obtain rfl : args = #[v0] := by cases args; simp_all
 obtain ⟨rfl, rfl⟩ := trodVars_none hV
 obtain ⟨A1, l1, k1, rfl, hc1, hm1, hn1, hs1⟩ := open_bytes8 (hval 0 26 v0 rfl rfl) h0 (fun n hn => hwt n (List.mem_append_left _ hn))
 refine (lawonce_any l1 A1 k1 hc1 hn1 W hs1).mono fun e W' ⟨he, hg⟩ => ?_
 subst he
 exact ⟨_, rfl, law_post Try.laidOut (by kernel_rfl) (by kernel_rfl) hW' hg (trodAll_cons_mk (shut_bool Try.underlying4 _) trodAll_mk0) rfl rfl⟩

/-- the statement -/
theorem roaonce_holds : Rows.RoaOnceSaid :=
 OpenClaim.holds_of_wide 6 Try.f6 rfl rfl rfl rfl rfl rfl rfl ⟨rfl, rfl, rfl, rfl, rfl⟩ rfl rfl rfl rfl rfl (by kernel_rfl) Try.func6 (by kernel_rfl)
  (of_decide_eq_true (by kernel_rfl)) (by unfold Func.isWrapper; rw [if_neg (of_decide_eq_false (by kernel_rfl))]; exact ⟨rfl, rfl⟩)
  (fun os started H enc _ => roaonce_lifted os started H enc)
#print axioms roaonce_holds
end Go.Proofs.Ythfgdgcdicacpaa
