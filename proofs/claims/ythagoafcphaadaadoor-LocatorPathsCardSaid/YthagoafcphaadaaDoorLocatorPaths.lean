/- LocatorPaths: Join and Within return what the reference returns, for every two strings of at most 500 bytes (longer ones are passed over by the statement itself). No condition. -/
import Derived.Test.YthagoafcphaadaaDoorLocDoor
import Derived.Test.YthagoafcphaadaaDoorLocWrap
import Derived.Test.YthagoafcphaadaaDoorLocRQ
namespace Go.Proofs.YthagoafcphaadaaDoor
open Go.ChangeShapes Go.WideShapes Go.ChangeAt Go.RowKit Lo
open Go.WideMaps Go.WideElems
open Go.ChangeMaps (open_string shut_string)
set_option linter.unusedVariables false
set_option linter.unusedSimpArgs false
set_option maxRecDepth 100000 in
set_option maxHeartbeats 16000000 in
theorem paths_true (d n : List UInt8) (w : World) (env : LEnv true w) :
    Calls Tryd.prog 5 #[.string (str d), .string (str n)] w fun e w' => e = .returned (.bool true) ∧ Below w.heap.size w w' := by
  have hG := env.big
  have HE := Lib.hid env
  clear env
  by_cases hd : d.length ≤ 500
  · have i1 : ¬ ((str d).size : Int) > 500 := by rw [str_size]; omega
    by_cases hn : n.length ≤ 500
    · have i2 : ¬ ((str n).size : Int) > 500 := by rw [str_size]; omega
      have H1 := Lib.hid (Join_any d n (by omega) (by omega))
      have H2 := Lib.hid (rJoin_any d n (by omega) (by omega))
      have H3 := Lib.hid (Within_any d n (by omega) (by omega))
      have H4 := Lib.hid (rWithin_any d n (by omega) (by omega))
      generalize joinL d n = JL at H1 H2
      generalize withinL d n = WL at H3 H4
      obtain ⟨j1, j2⟩ := JL
      obtain ⟨b1, b2⟩ := WL
      simp only at H1 H2 H3 H4
      have ie : ((str j1).toList == (str j1).toList) = true := beq_self_eq_true _
      have ib : (b1 == b1) = true := beq_self_eq_true _
      have ij : (j2 == j2) = true := beq_self_eq_true _
      have ik : (b2 == b2) = true := beq_self_eq_true _
      go_enter Tryd.func5, Tryd.ntmps5
      go_wp2_with fail
      refine (H1.out w HE.out).mono ?_
      rintro e w2 ⟨rfl, hb⟩
      have HB2 := Lib.hid hb
      clear hb
      go_wp2_with fail
      refine (H2.out w2).mono ?_
      rintro e w3 ⟨rfl, hb⟩
      have HB3 := Lib.hid (HB2.out.trans (hb.mono HB2.out.size))
      clear hb
      go_wp2_with fail
      refine (H3.out w3 (HE.out.below HB3.out hG)).mono ?_
      rintro e w4 ⟨rfl, hb⟩
      have HB4 := Lib.hid (HB3.out.trans (hb.mono HB3.out.size))
      clear hb
      go_wp2_with fail
      refine (H4.out w4).mono ?_
      rintro e w5 ⟨rfl, hb⟩
      have HB5 := Lib.hid (HB4.out.trans (hb.mono HB4.out.size))
      clear hb
      go_wp2_with fail
      go_ret
      exact ⟨by first | rfl | simp, HB5.out⟩
    · have i2 : ((str n).size : Int) > 500 := by rw [str_size]; omega
      go_enter Tryd.func5, Tryd.ntmps5
      go_wp2_with fail
      go_ret
      exact ⟨rfl, Below.refl _ _⟩
  · have i1 : ((str d).size : Int) > 500 := by rw [str_size]; omega
    go_enter Tryd.func5, Tryd.ntmps5
    go_wp2_with fail
    go_ret
    exact ⟨rfl, Below.refl _ _⟩
set_option maxRecDepth 100000 in
theorem paths9_lifted (os : Os) (started : os.Started) (H : Type) (enc : TypeId × Value → H) :
    ReturnsInHanded {} Tryd.checked os 5 .any (fun w args => (Rows.locatorPathsSpec.pre enc Tryd.prog Tryd.f5 Rows.locatorPathsRow.domain false w args ∧ laidMet Tryd.prog laidAll w) ∧ sizedMet enc Tryd.prog Tryd.f5 (OpenSpec.ofChange Rows.locatorPathsSpec) false w args)
      (Rows.locatorPathsSpec.post enc Tryd.prog Tryd.f5 false true false false) := by
  refine returns_laid (C := Tryd.checked) (X := fun w => laidMet Tryd.prog laidAll w) (fun _ _ hh h => h.of_heap hh) Tryd.own started (by kernel_rfl) Tryd.func5
    (ChangeSpec.witness_at (enc := enc) (C := Tryd.checked) (os := os) (X := fun w _ => laidMet Tryd.prog laidAll w) false (laidWorld os) #[.string ⟨#[]⟩, .string ⟨#[]⟩] 8 rfl (by kernel_rfl) (by kernel_rfl) (by kernel_rfl) (by kernel_rfl) (by kernel_rfl) (laidWorld_met os _)) ?_
  intro W base args ds gs before hval0 hW hL hsh
  have hval : ∀ (j : Nat) t v, Tryd.f5.params[j]? = some t → args[j]? = some v → Value.okWide Tryd.prog W .any base t v := hval0
  have env := env_of_laid hL hsh
  have hW' := hW
  obtain ⟨p, q, hA0, hV, rfl, hfz, hnd⟩ := hW
  have hA : DataW.TrodAll enc Tryd.prog W 0 (fun _ => true) true Tryd.f5.params.toList args.toList ds p := hA0
  rw [Tryd.params5] at hA hval
  obtain ⟨v0, vs0, d0, ds0, p0, q0, hargs, rfl, rfl, h0, r0⟩ := trodAll_cons hA
  obtain ⟨v1, vs1, d1, ds1, p1, q1, rfl, rfl, rfl, h1, r1⟩ := trodAll_cons r0
  obtain ⟨rfl, rfl, rfl⟩ := trodAll_nil r1
  obtain rfl : args = #[v0, v1] := by cases args; simp_all
  obtain ⟨rfl, rfl⟩ := trodVars_none hV
  obtain ⟨s0, rfl, e0, f0, w0⟩ := open_string Tryd.underlying9 (hval 0 9 v0 rfl rfl) h0
  obtain ⟨l0, rfl⟩ : ∃ l, s0 = str l := ⟨s0.data.toList, (str_of s0).symm⟩
  obtain ⟨s1, rfl, e1, f1, w1⟩ := open_string Tryd.underlying9 (hval 1 9 v1 rfl rfl) h1
  obtain ⟨l1, rfl⟩ : ∃ l, s1 = str l := ⟨s1.data.toList, (str_of s1).symm⟩
  refine (paths_true l0 l1 W env ).mono fun e W' ⟨he, hg⟩ => ?_
  subst he
  exact ⟨_, rfl, law_post Tryd.laidOut (by kernel_rfl) (by kernel_rfl) hW' hg (trodAll_cons_mk (shut_bool Tryd.underlying4 _) trodAll_mk0) rfl rfl⟩
/-- the row -/
theorem paths9_row : Rows.LocatorPathsSaid :=
  OpenClaim.holds_of_wide 5 Tryd.f5 rfl rfl rfl rfl rfl rfl rfl ⟨rfl, rfl, rfl, rfl, rfl⟩ rfl rfl rfl rfl rfl (by kernel_rfl) Tryd.func5 (by kernel_rfl)
    (of_decide_eq_true (by kernel_rfl)) (by unfold Func.isWrapper; rw [if_neg (of_decide_eq_false (by kernel_rfl))]; exact ⟨rfl, rfl⟩)
    (fun os started H enc _ => paths9_lifted os started H enc)
/-- the statement -/
theorem paths9_holds : Rows.LocatorPathsCardSaid :=
  Claim7.holds_tied_plain_at .later [] [.data, .data, .data, .data, .sentinel, .sentinel, .data, .data, .pinned] true (true, "fb45ebfbbde856ea65fcb9411cdac8c309d7a2ce8580e590b8026810d88ebf7c") true
    paths9_row (fun _ h => by cases h) (by kernel_rfl) (fun _ h => by cases h) locatorPaths_row_tie rfl ⟨rfl, rfl⟩ (by kernel_rfl) rfl
    (fun f fn hf hfn => by
      obtain rfl : f = 5 := Option.some.inj ((show Tryd.prog.funcNamed "gatepath/gatepathlaw09.LocatorPaths" = some 5 by kernel_rfl).symm.trans hf) |>.symm
      obtain rfl : fn = Tryd.f5 := (Option.some.inj (Tryd.func5.symm.trans hfn)).symm
      exact ⟨by kernel_rfl, fun j t ht => by
        rw [Tryd.params5] at ht
        have hp : t = 9 := by
          rcases j with _ | _ | j
          · simpa using ht.symm
          · simpa using ht.symm
          · simp at ht
        rcases hp with rfl
        · exact (show Tryd.prog.wantsStandIn 9 = false by kernel_rfl)⟩)
    (by kernel_rfl)
#print axioms paths9_holds
end Go.Proofs.YthagoafcphaadaaDoor
