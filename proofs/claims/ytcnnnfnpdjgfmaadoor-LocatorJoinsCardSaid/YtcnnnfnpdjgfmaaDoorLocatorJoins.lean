/- LocatorJoins: Split of Join returns what was joined, Join of Split returns the file, and its directory contains it. For every two strings. No condition. -/
import Derived.Test.YtcnnnfnpdjgfmaaDoorLocDoor
import Derived.Test.YtcnnnfnpdjgfmaaDoorLocWrap
import Derived.Test.YtcnnnfnpdjgfmaaDoorLocOpen
namespace Go.Proofs.YtcnnnfnpdjgfmaaDoor
open Go.ChangeShapes Go.WideShapes Go.ChangeAt Go.RowKit Lo
open Go.WideMaps Go.WideElems
open Go.ChangeMaps (open_string shut_string)
set_option linter.unusedVariables false
set_option linter.unusedSimpArgs false
theorem joinL_len {d n s : List UInt8} (h : joinL d n = (s, 0)) : s.length ≤ 200 := by
  unfold joinL at h
  split at h
  · injection h with h1 h2; cases h2
  · split at h
    · obtain ⟨h0, rfl⟩ := text_zero h
      exact (chk_zero h0).2.2
    · injection h with h1 h2; cases h2
theorem splitS_len {s d n : List UInt8} (h : splitS s = (d, n, 0)) : d.length ≤ 200 ∧ n.length ≤ 200 := by
  have hj := split_join s d n h
  have hl := joinL_len hj
  unfold joinL at hj
  cases hp : parseL d with
  | none => rw [hp] at hj; injection hj with h1 h2; cases h2
  | some l =>
    rw [hp] at hj
    simp only at hj
    split at hj
    · rename_i hc
      refine ⟨?_, by have := name_len hc.2; omega⟩
      obtain ⟨k0, k1⟩ := (parse_iff d l).1 hp
      rw [← k1]
      exact (chk_zero k0).2.2
    · injection hj with h1 h2; cases h2
set_option maxRecDepth 100000 in
set_option maxHeartbeats 16000000 in
theorem joins_core (a b : List UInt8) (w : World) (env : LEnv true w) (ha : a.length ≤ 500) (hb : b.length ≤ 500) :
    Calls Tryd.prog 9 #[.string (str a), .string (str b)] w fun e w' => e = .returned (.bool true) ∧ Below w.heap.size w w' := by
  have hG := env.big
  have HE := Lib.hid env
  have HAL := Lib.hid (alive_any w env)
  have ia : ¬ ((str a).size : Int) > 500 := by rw [str_size]; omega
  have ib : ¬ ((str b).size : Int) > 500 := by rw [str_size]; omega
  have HJ := Lib.hid (fun (V : World) (e : LEnv true V) => Join_any a b (by omega) (by omega) V e)
  have HSP := Lib.hid (fun (V : World) (e : LEnv true V) => Split_any a (by omega) V e)
  have HNM := Lib.hid (fun (V : World) (e : LEnv true V) => name_any (str b) V e (by rw [str_size]; omega))
  rw [str_dat] at HNM
  have haa : ((str a).toList == (str a).toList) = true := beq_self_eq_true _
  have hbb : ((str b).toList == (str b).toList) = true := beq_self_eq_true _
  obtain ⟨js, je, hj⟩ : ∃ js je, joinL a b = (js, je) := ⟨_, _, rfl⟩
  obtain ⟨sx, sy, se, hsp⟩ : ∃ sx sy se, splitS a = (sx, sy, se) := ⟨_, _, _, rfl⟩
  rw [hj] at HJ
  rw [hsp] at HSP
  clear env
  -- the second half, from any world
  by_cases hje : je = 0
  · subst hje
    obtain ⟨q1, q2, q3⟩ := join_split a b js hj
    have hjl := joinL_len hj
    have HS2 := Lib.hid (fun (V : World) (e : LEnv true V) => Split_any js (by omega) V e)
    have HW2 := Lib.hid (fun (V : World) (e : LEnv true V) => Within_any a js (by omega) (by omega) V e)
    rw [q1] at HS2
    rw [q2] at HW2
    rw [q3] at HNM
    clear q1 q2 q3 hj hjl
    by_cases hse : se = 0
    · subst hse
      have hl := splitS_len hsp
      have HJ3 := Lib.hid (fun (V : World) (e : LEnv true V) => Join_any sx sy (by omega) (by omega) V e)
      rw [split_join a sx sy hsp] at HJ3
      clear hsp hl
      go_enter Tryd.func9, Tryd.ntmps9
      go_wp2_with fail
      refine HAL.out.mono ?_
      rintro e w2 ⟨rfl, hb2⟩
      have HB2 := Lib.hid hb2
      clear hb2
      go_wp2_with fail
      refine (HJ.out w2 (HE.out.below HB2.out hG)).mono ?_
      rintro e w3 ⟨rfl, hb⟩
      have HB3 := Lib.hid (HB2.out.trans (hb.mono HB2.out.size))
      clear hb
      go_wp2_with fail
      refine (HS2.out w3 (HE.out.below HB3.out hG)).mono ?_
      rintro e w4 ⟨rfl, hb⟩
      have HB4 := Lib.hid (HB3.out.trans (hb.mono HB3.out.size))
      clear hb
      go_wp2_with fail
      refine (HW2.out w4 (HE.out.below HB4.out hG)).mono ?_
      rintro e w5 ⟨rfl, hb⟩
      have HB5 := Lib.hid (HB4.out.trans (hb.mono HB4.out.size))
      clear hb
      go_wp2_with fail
      refine (HNM.out w5 (HE.out.below HB5.out hG)).mono ?_
      rintro e w6 ⟨rfl, hb⟩
      have HB6 := Lib.hid (HB5.out.trans (hb.mono HB5.out.size))
      clear hb
      go_wp2_with fail
      refine (HSP.out w6 (HE.out.below HB6.out hG)).mono ?_
      rintro e v2 ⟨rfl, hb⟩
      have HV2 := Lib.hid (HB6.out.trans (hb.mono HB6.out.size))
      clear hb
      go_wp2_with fail
      refine (HJ3.out v2 (HE.out.below HV2.out hG)).mono ?_
      rintro e v3 ⟨rfl, hb⟩
      have HV3 := Lib.hid (HV2.out.trans (hb.mono HV2.out.size))
      clear hb
      go_wp2_with fail
      go_ret
      exact ⟨rfl, HV3.out⟩
    · obtain ⟨rfl, rfl⟩ := split_bad a sx sy se hsp hse
      have is : (se != 0) = true := by rw [bne_iff_ne]; exact hse
      have iz : ((str []).toList == []) = true := by rw [eqS, str_dat]; exact decide_eq_true rfl
      clear hsp hse
      go_enter Tryd.func9, Tryd.ntmps9
      go_wp2_with fail
      refine HAL.out.mono ?_
      rintro e w2 ⟨rfl, hb2⟩
      have HB2 := Lib.hid hb2
      clear hb2
      go_wp2_with fail
      refine (HJ.out w2 (HE.out.below HB2.out hG)).mono ?_
      rintro e w3 ⟨rfl, hb⟩
      have HB3 := Lib.hid (HB2.out.trans (hb.mono HB2.out.size))
      clear hb
      go_wp2_with fail
      refine (HS2.out w3 (HE.out.below HB3.out hG)).mono ?_
      rintro e w4 ⟨rfl, hb⟩
      have HB4 := Lib.hid (HB3.out.trans (hb.mono HB3.out.size))
      clear hb
      go_wp2_with fail
      refine (HW2.out w4 (HE.out.below HB4.out hG)).mono ?_
      rintro e w5 ⟨rfl, hb⟩
      have HB5 := Lib.hid (HB4.out.trans (hb.mono HB4.out.size))
      clear hb
      go_wp2_with fail
      refine (HNM.out w5 (HE.out.below HB5.out hG)).mono ?_
      rintro e w6 ⟨rfl, hb⟩
      have HB6 := Lib.hid (HB5.out.trans (hb.mono HB5.out.size))
      clear hb
      go_wp2_with fail
      refine (HSP.out w6 (HE.out.below HB6.out hG)).mono ?_
      rintro e v2 ⟨rfl, hb⟩
      have HV2 := Lib.hid (HB6.out.trans (hb.mono HB6.out.size))
      clear hb
      go_wp2_with fail
      go_ret
      exact ⟨rfl, HV2.out⟩
  · have ij : (je == 0) = false := by rw [beq_eq_false_iff_ne]; exact hje
    clear hj hje
    by_cases hse : se = 0
    · subst hse
      have hl := splitS_len hsp
      have HJ3 := Lib.hid (fun (V : World) (e : LEnv true V) => Join_any sx sy (by omega) (by omega) V e)
      rw [split_join a sx sy hsp] at HJ3
      clear hsp hl
      go_enter Tryd.func9, Tryd.ntmps9
      go_wp2_with fail
      refine HAL.out.mono ?_
      rintro e w2 ⟨rfl, hb2⟩
      have HB2 := Lib.hid hb2
      clear hb2
      go_wp2_with fail
      refine (HJ.out w2 (HE.out.below HB2.out hG)).mono ?_
      rintro e w3 ⟨rfl, hb⟩
      have HB3 := Lib.hid (HB2.out.trans (hb.mono HB2.out.size))
      clear hb
      go_wp2_with fail
      refine (HSP.out w3 (HE.out.below HB3.out hG)).mono ?_
      rintro e v2 ⟨rfl, hb⟩
      have HV2 := Lib.hid (HB3.out.trans (hb.mono HB3.out.size))
      clear hb
      go_wp2_with fail
      refine (HJ3.out v2 (HE.out.below HV2.out hG)).mono ?_
      rintro e v3 ⟨rfl, hb⟩
      have HV3 := Lib.hid (HV2.out.trans (hb.mono HV2.out.size))
      clear hb
      go_wp2_with fail
      go_ret
      exact ⟨rfl, HV3.out⟩
    · obtain ⟨rfl, rfl⟩ := split_bad a sx sy se hsp hse
      have is : (se != 0) = true := by rw [bne_iff_ne]; exact hse
      have iz : ((str []).toList == []) = true := by rw [eqS, str_dat]; exact decide_eq_true rfl
      clear hsp hse
      go_enter Tryd.func9, Tryd.ntmps9
      go_wp2_with fail
      refine HAL.out.mono ?_
      rintro e w2 ⟨rfl, hb2⟩
      have HB2 := Lib.hid hb2
      clear hb2
      go_wp2_with fail
      refine (HJ.out w2 (HE.out.below HB2.out hG)).mono ?_
      rintro e w3 ⟨rfl, hb⟩
      have HB3 := Lib.hid (HB2.out.trans (hb.mono HB2.out.size))
      clear hb
      go_wp2_with fail
      refine (HSP.out w3 (HE.out.below HB3.out hG)).mono ?_
      rintro e v2 ⟨rfl, hb⟩
      have HV2 := Lib.hid (HB3.out.trans (hb.mono HB3.out.size))
      clear hb
      go_wp2_with fail
      go_ret
      exact ⟨rfl, HV2.out⟩
set_option maxRecDepth 100000 in
set_option maxHeartbeats 4000000 in
theorem joins_true (a b : List UInt8) (w : World) (env : LEnv true w) :
    Calls Tryd.prog 9 #[.string (str a), .string (str b)] w fun e w' => e = .returned (.bool true) ∧ Below w.heap.size w w' := by
  by_cases ha : a.length ≤ 500
  · by_cases hb : b.length ≤ 500
    · exact joins_core a b w env ha hb
    · have ia : ¬ ((str a).size : Int) > 500 := by rw [str_size]; omega
      have ib : ((str b).size : Int) > 500 := by rw [str_size]; omega
      have HAL := Lib.hid (alive_any w env)
      clear env
      go_enter Tryd.func9, Tryd.ntmps9
      go_wp2_with fail
      refine HAL.out.mono ?_
      rintro e w2 ⟨rfl, hb2⟩
      have HB2 := Lib.hid hb2
      clear hb2
      go_wp2_with fail
      go_ret
      exact ⟨rfl, HB2.out⟩
  · have ia : ((str a).size : Int) > 500 := by rw [str_size]; omega
    have HAL := Lib.hid (alive_any w env)
    clear env
    go_enter Tryd.func9, Tryd.ntmps9
    go_wp2_with fail
    refine HAL.out.mono ?_
    rintro e w2 ⟨rfl, hb2⟩
    have HB2 := Lib.hid hb2
    clear hb2
    go_wp2_with fail
    go_ret
    exact ⟨rfl, HB2.out⟩
set_option maxRecDepth 100000 in
theorem joins9_lifted (os : Os) (started : os.Started) (H : Type) (enc : TypeId × Value → H) :
    ReturnsInHanded {} Tryd.checked os 9 .any (fun w args => (Rows.locatorJoinsSpec.pre enc Tryd.prog Tryd.f9 Rows.locatorJoinsRow.domain false w args ∧ laidMet Tryd.prog laidAll w) ∧ sizedMet enc Tryd.prog Tryd.f9 (OpenSpec.ofChange Rows.locatorJoinsSpec) false w args)
      (Rows.locatorJoinsSpec.post enc Tryd.prog Tryd.f9 false true false false) := by
  refine returns_laid (C := Tryd.checked) (X := fun w => laidMet Tryd.prog laidAll w) (fun _ _ hh h => h.of_heap hh) Tryd.own started (by kernel_rfl) Tryd.func9
    (ChangeSpec.witness_at (enc := enc) (C := Tryd.checked) (os := os) (X := fun w _ => laidMet Tryd.prog laidAll w) false (laidWorld os) #[.string ⟨#[]⟩, .string ⟨#[]⟩] 8 rfl (by kernel_rfl) (by kernel_rfl) (by kernel_rfl) (by kernel_rfl) (by kernel_rfl) (laidWorld_met os _)) ?_
  intro W base args ds gs before hval0 hW hL hsh
  have hval : ∀ (j : Nat) t v, Tryd.f9.params[j]? = some t → args[j]? = some v → Value.okWide Tryd.prog W .any base t v := hval0
  have env := env_of_laid hL hsh
  have hW' := hW
  obtain ⟨p, q, hA0, hV, rfl, hfz, hnd⟩ := hW
  have hA : DataW.TrodAll enc Tryd.prog W 0 (fun _ => true) true Tryd.f9.params.toList args.toList ds p := hA0
  rw [Tryd.params9] at hA hval
  obtain ⟨v0, vs0, d0, ds0, p0, q0, hargs, rfl, rfl, h0, r0⟩ := trodAll_cons hA
  obtain ⟨v1, vs1, d1, ds1, p1, q1, rfl, rfl, rfl, h1, r1⟩ := trodAll_cons r0
  obtain ⟨rfl, rfl, rfl⟩ := trodAll_nil r1
  obtain rfl : args = #[v0, v1] := by cases args; simp_all
  obtain ⟨rfl, rfl⟩ := trodVars_none hV
  obtain ⟨s0, rfl, e0, f0, w0⟩ := open_string Tryd.underlying9 (hval 0 9 v0 rfl rfl) h0
  obtain ⟨l0, rfl⟩ : ∃ l, s0 = str l := ⟨s0.data.toList, (str_of s0).symm⟩
  obtain ⟨s1, rfl, e1, f1, w1⟩ := open_string Tryd.underlying9 (hval 1 9 v1 rfl rfl) h1
  obtain ⟨l1, rfl⟩ : ∃ l, s1 = str l := ⟨s1.data.toList, (str_of s1).symm⟩
  refine (joins_true l0 l1 W env ).mono fun e W' ⟨he, hg⟩ => ?_
  subst he
  exact ⟨_, rfl, law_post Tryd.laidOut (by kernel_rfl) (by kernel_rfl) hW' hg (trodAll_cons_mk (shut_bool Tryd.underlying4 _) trodAll_mk0) rfl rfl⟩
/-- the row -/
theorem joins9_row : Rows.LocatorJoinsSaid :=
  OpenClaim.holds_of_wide 9 Tryd.f9 rfl rfl rfl rfl rfl rfl rfl ⟨rfl, rfl, rfl, rfl, rfl⟩ rfl rfl rfl rfl rfl (by kernel_rfl) Tryd.func9 (by kernel_rfl)
    (of_decide_eq_true (by kernel_rfl)) (by unfold Func.isWrapper; rw [if_neg (of_decide_eq_false (by kernel_rfl))]; exact ⟨rfl, rfl⟩)
    (fun os started H enc _ => joins9_lifted os started H enc)
/-- the statement -/
theorem joins9_holds : Rows.LocatorJoinsCardSaid :=
  Claim7.holds_tied_plain_at .later [] [.data, .data, .data, .data, .sentinel, .sentinel, .data, .data, .pinned] true (true, "e11af721ae8c6e5129fd735740f1445bd35404deed9d82c6da72676743633320") true
    joins9_row (fun _ h => by cases h) (by kernel_rfl) (fun _ h => by cases h) locatorJoins_row_tie rfl ⟨rfl, rfl⟩ (by kernel_rfl) rfl
    (fun f fn hf hfn => by
      obtain rfl : f = 9 := Option.some.inj ((show Tryd.prog.funcNamed "gatepath/gatepathlaw09.LocatorJoins" = some 9 by kernel_rfl).symm.trans hf) |>.symm
      obtain rfl : fn = Tryd.f9 := (Option.some.inj (Tryd.func9.symm.trans hfn)).symm
      exact ⟨by kernel_rfl, fun j t ht => by
        rw [Tryd.params9] at ht
        have hp : t = 9 := by
          rcases j with _ | _ | j
          · simpa using ht.symm
          · simpa using ht.symm
          · simp at ht
        rcases hp with rfl
        · exact (show Tryd.prog.wantsStandIn 9 = false by kernel_rfl)⟩)
    (by kernel_rfl)
#print axioms joins9_holds
end Go.Proofs.YtcnnnfnpdjgfmaaDoor
