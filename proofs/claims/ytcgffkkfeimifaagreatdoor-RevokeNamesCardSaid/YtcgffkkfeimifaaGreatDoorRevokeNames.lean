/-
 REVOKENAMES. Written by wip/gen-rwlaws.py.
-/
import Derived.Test.YtcgffkkfeimifaaGreatDoorRwP
import Derived.Test.YtcgffkkfeimifaaGreatDoorDigDoor
import Derived.Test.YtcgffkkfeimifaaGreatDoorCards
import Derived.Test.YtcgffkkfeimifaaGreatDoorTie
namespace Go.Proofs.YtcgffkkfeimifaaGreatDoor
open Go.ChangeShapes Go.WideShapes Go.ChangeAt Go.RowKit Go.Joins Sha Oc Sg
set_option linter.unusedVariables false
set_option maxRecDepth 100000
set_option maxRecDepth 100000 in
theorem names11_lifted (os : Os) (started : os.Started) (H : Type) (enc : TypeId × Value → H) :
  ReturnsInHanded {} Tryz.checked os 3 .any (fun w args => (Rows.revokeNamesSpec.pre enc Tryz.prog Tryz.f3 Rows.revokeNamesRow.domain false w args ∧ laidMet Tryz.prog laidDig w) ∧ sizedMet enc Tryz.prog Tryz.f3 (OpenSpec.ofChange Rows.revokeNamesSpec) false w args)
   (Rows.revokeNamesSpec.post enc Tryz.prog Tryz.f3 false true false false) := by
 refine returns_laid (C := Tryz.checked) (X := fun w => laidMet Tryz.prog laidDig w) (fun _ _ hh h => h.of_heap hh) Tryz.own started (by kernel_rfl) Tryz.func3
  (ChangeSpec.witness_at (enc := enc) (C := Tryz.checked) (os := os) (X := fun w _ => laidMet Tryz.prog laidDig w) false (laidWorldD os) #[] 8 rfl (by kernel_rfl) (by kernel_rfl) (by kernel_rfl) (by kernel_rfl) (by kernel_rfl) (laidWorldD_met os _)) ?_
 intro W base args ds gs before hval0 hW hL hsh
 have hval : ∀ (j : Nat) t v, Tryz.f3.params[j]? = some t → args[j]? = some v → Value.okWide Tryz.prog W .any base t v := hval0
 have env := denv_of_laid hL
 have hW' := hW
 obtain ⟨p, q, hA0, hV, rfl, hfz, hnd⟩ := hW
 have hA : DataW.TrodAll enc Tryz.prog W 0 (fun _ => true) true Tryz.f3.params.toList args.toList ds p := hA0
 rw [Tryz.params3] at hA hval
 obtain ⟨hargs, rfl, rfl⟩ := trodAll_nil hA
 obtain rfl : args = #[] := by cases args; simp_all
 obtain ⟨rfl, rfl⟩ := trodVars_none hV
 refine (names_any  W  env).mono fun e W' ⟨he, hg⟩ => ?_
 subst he
 exact ⟨_, rfl, law_post Tryz.laidOut (by kernel_rfl) (by kernel_rfl) hW' hg (trodAll_cons_mk (shut_bool Tryz.underlying4 _) trodAll_mk0) rfl rfl⟩
/-- the row -/
theorem names11_row : Rows.RevokeNamesSaid :=
 OpenClaim.holds_of_wide 3 Tryz.f3 rfl rfl rfl rfl rfl rfl rfl ⟨rfl, rfl, rfl, rfl, rfl⟩ rfl rfl rfl rfl rfl (by kernel_rfl) Tryz.func3 (by kernel_rfl)
  (of_decide_eq_true (by kernel_rfl)) (by unfold Func.isWrapper; rw [if_neg (of_decide_eq_false (by kernel_rfl))]; exact ⟨rfl, rfl⟩)
  (fun os started H enc _ => names11_lifted os started H enc)
/-- the statement -/
theorem names11_holds : Rows.RevokeNamesCardSaid :=
 Claim7.holds_tied_plain_at .later [] [.data, .data] true (true, "a32df0fef6852a9a72a89e0a6e7cd175698e1f5552c99b75f63a3d04887a76f1") false
  names11_row (fun _ h => by cases h) (by kernel_rfl) (fun _ h => by cases h) revokeNames_row_tie rfl ⟨rfl, rfl⟩ (by kernel_rfl) rfl
  (fun f fn hf hfn => by
   obtain rfl : f = 3 := Option.some.inj ((show Tryz.prog.funcNamed "gatepath/gatepathlaw11.RevokeNames" = some 3 by kernel_rfl).symm.trans hf) |>.symm
   obtain rfl : fn = Tryz.f3 := (Option.some.inj (Tryz.func3.symm.trans hfn)).symm
   exact ⟨by kernel_rfl, fun j t ht => by
    rw [Tryz.params3] at ht
    simp at ht⟩)
  (by kernel_rfl)
#print axioms names11_holds
end Go.Proofs.YtcgffkkfeimifaaGreatDoor
