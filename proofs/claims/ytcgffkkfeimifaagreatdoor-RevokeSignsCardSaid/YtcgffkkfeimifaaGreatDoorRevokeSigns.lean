/-
 REVOKESIGNS, for every list, seed, numbers and key. Written by wip/gen-rwlaws.py.
-/
import Derived.Test.YtcgffkkfeimifaaGreatDoorRwJ
import Derived.Test.YtcgffkkfeimifaaGreatDoorDigDoor
import Derived.Test.YtcgffkkfeimifaaGreatDoorCards
import Derived.Test.YtcgffkkfeimifaaGreatDoorTie
namespace Go.Proofs.YtcgffkkfeimifaaGreatDoor
open Go.ChangeShapes Go.WideShapes Go.ChangeAt Go.RowKit Go.Joins Sha Oc Sg
set_option linter.unusedVariables false
set_option maxRecDepth 100000
set_option maxRecDepth 100000 in
theorem signs11_lifted (os : Os) (started : os.Started) (H : Type) (enc : TypeId × Value → H) :
  ReturnsInHanded {} Tryz.checked os 4 .any (fun w args => (Rows.revokeSignsSpec.pre enc Tryz.prog Tryz.f4 Rows.revokeSignsRow.domain false w args ∧ laidMet Tryz.prog laidDig w) ∧ sizedMet enc Tryz.prog Tryz.f4 (OpenSpec.ofChange Rows.revokeSignsSpec) false w args)
   (Rows.revokeSignsSpec.post enc Tryz.prog Tryz.f4 false true false false) := by
 refine returns_laid (C := Tryz.checked) (X := fun w => laidMet Tryz.prog laidDig w) (fun _ _ hh h => h.of_heap hh) Tryz.own started (by kernel_rfl) Tryz.func4
  (ChangeSpec.witness_at (enc := enc) (C := Tryz.checked) (os := os) (X := fun w _ => laidMet Tryz.prog laidDig w) false (laidWorldD os) #[.agg #[.string ⟨#[]⟩, .int .u64 0, .int .i64 0, .int .i64 0, .slice none 0 0, .int .i64 0, .slice none 0 0, .slice none 0 0], .agg #[.int .u8 0, .int .u8 0, .int .u8 0, .int .u8 0, .int .u8 0, .int .u8 0, .int .u8 0, .int .u8 0, .int .u8 0, .int .u8 0, .int .u8 0, .int .u8 0, .int .u8 0, .int .u8 0, .int .u8 0, .int .u8 0], .int .i64 0, .int .i64 0, .agg #[.int .u8 0, .int .u8 0, .int .u8 0, .int .u8 0, .int .u8 0, .int .u8 0, .int .u8 0, .int .u8 0, .int .u8 0, .int .u8 0, .int .u8 0, .int .u8 0, .int .u8 0, .int .u8 0, .int .u8 0, .int .u8 0, .int .i64 0]] 8 rfl (by kernel_rfl) (by kernel_rfl) (by kernel_rfl) (by kernel_rfl) (by kernel_rfl) (laidWorldD_met os _)) ?_
 intro W base args ds gs before hval0 hW hL hsh
 have hval : ∀ (j : Nat) t v, Tryz.f4.params[j]? = some t → args[j]? = some v → Value.okWide Tryz.prog W .any base t v := hval0
 have env := denv_of_laid hL
 have hW' := hW
 obtain ⟨p, q, hA0, hV, rfl, hfz, hnd⟩ := hW
 have hA : DataW.TrodAll enc Tryz.prog W 0 (fun _ => true) true Tryz.f4.params.toList args.toList ds p := hA0
 rw [Tryz.params4] at hA hval
 obtain ⟨v0, vs0, d0, ds0, p0, q0, hargs, rfl, rfl, h0, r0⟩ := trodAll_cons hA
 obtain ⟨v1, vs1, d1, ds1, p1, q1, rfl, rfl, rfl, h1, r1⟩ := trodAll_cons r0
 obtain ⟨v2, vs2, d2, ds2, p2, q2, rfl, rfl, rfl, h2, r2⟩ := trodAll_cons r1
 obtain ⟨v3, vs3, d3, ds3, p3, q3, rfl, rfl, rfl, h3, r3⟩ := trodAll_cons r2
 obtain ⟨v4, vs4, d4, ds4, p4, q4, rfl, rfl, rfl, h4, r4⟩ := trodAll_cons r3
 obtain ⟨rfl, rfl, rfl⟩ := trodAll_nil r4
 obtain rfl : args = #[v0, v1, v2, v3, v4] := by cases args; simp_all
 obtain ⟨rfl, rfl⟩ := trodVars_none hV
 obtain ⟨l0, m0, rfl, hcp0, hn0, hs0, ht0, hwf0⟩ := open_rev2 (hval 0 32 v0 rfl rfl) h0
 obtain ⟨l1, g1, rfl⟩ := open_short (hval 1 41 v1 rfl rfl) h1
 obtain ⟨a2, rfl, e2, f2, w2⟩ := open_int Tryz.underlying3 (hval 2 3 v2 rfl rfl) h2
 obtain ⟨a3, rfl, e3, f3, w3⟩ := open_int Tryz.underlying3 (hval 3 3 v3 rfl rfl) h3
 obtain ⟨R4, x4, g4, rfl⟩ := open_pk (hval 4 43 v4 rfl rfl) h4
 refine (signs_open l0 m0 hcp0 hwf0 l1 g1 a2 a3 R4 g4 x4 W hn0 hs0 ht0 env).mono fun e W' ⟨he, hg⟩ => ?_
 subst he
 exact ⟨_, rfl, law_post Tryz.laidOut (by kernel_rfl) (by kernel_rfl) hW' hg (trodAll_cons_mk (shut_bool Tryz.underlying4 _) trodAll_mk0) rfl rfl⟩
/-- the row -/
theorem signs11_row : Rows.RevokeSignsSaid :=
 OpenClaim.holds_of_wide 4 Tryz.f4 rfl rfl rfl rfl rfl rfl rfl ⟨rfl, rfl, rfl, rfl, rfl⟩ rfl rfl rfl rfl rfl (by kernel_rfl) Tryz.func4 (by kernel_rfl)
  (of_decide_eq_true (by kernel_rfl)) (by unfold Func.isWrapper; rw [if_neg (of_decide_eq_false (by kernel_rfl))]; exact ⟨rfl, rfl⟩)
  (fun os started H enc _ => signs11_lifted os started H enc)
/-- the statement -/
theorem signs11_holds : Rows.RevokeSignsCardSaid :=
 Claim7.holds_tied_plain_at .later [] [.data, .data] true (true, "a32df0fef6852a9a72a89e0a6e7cd175698e1f5552c99b75f63a3d04887a76f1") false
  signs11_row (fun _ h => by cases h) (by kernel_rfl) (fun _ h => by cases h) revokeSigns_row_tie rfl ⟨rfl, rfl⟩ (by kernel_rfl) rfl
  (fun f fn hf hfn => by
   obtain rfl : f = 4 := Option.some.inj ((show Tryz.prog.funcNamed "gatepath/gatepathlaw11.RevokeSigns" = some 4 by kernel_rfl).symm.trans hf) |>.symm
   obtain rfl : fn = Tryz.f4 := (Option.some.inj (Tryz.func4.symm.trans hfn)).symm
   exact ⟨by kernel_rfl, fun j t ht => by
    rw [Tryz.params4] at ht
    have hp : t = 32 ∨ t = 41 ∨ t = 3 ∨ t = 43 := by
     rcases j with _ | _ | _ | _ | _ | j
     ·
      left; simpa using ht.symm
     ·
      right; left; simpa using ht.symm
     ·
      right; right; left; simpa using ht.symm
     ·
      right; right; left; simpa using ht.symm
     ·
      right; right; right; simpa using ht.symm
     ·
      simp at ht
    rcases hp with rfl | rfl | rfl | rfl
    ·
     exact (show Tryz.prog.wantsStandIn 32 = false by kernel_rfl)
    ·
     exact (show Tryz.prog.wantsStandIn 41 = false by kernel_rfl)
    ·
     exact (show Tryz.prog.wantsStandIn 3 = false by kernel_rfl)
    ·
     exact (show Tryz.prog.wantsStandIn 43 = false by kernel_rfl)⟩)
  (by kernel_rfl)
#print axioms signs11_holds
end Go.Proofs.YtcgffkkfeimifaaGreatDoor
