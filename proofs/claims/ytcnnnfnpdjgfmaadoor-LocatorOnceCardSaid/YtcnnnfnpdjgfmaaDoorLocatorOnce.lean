/- LocatorOnce: a string that is accepted is just the string of a valid locator. For every string. No condition. -/
import Derived.Test.YtcnnnfnpdjgfmaaDoorLocDoor
import Derived.Test.YtcnnnfnpdjgfmaaDoorLocWrap
import Derived.Test.YtcnnnfnpdjgfmaaDoorLocOpen
namespace Go.Proofs.YtcnnnfnpdjgfmaaDoor
open Go.ChangeShapes Go.WideShapes Go.ChangeAt Go.RowKit Lo
open Go.WideMaps Go.WideElems
open Go.ChangeMaps (open_string shut_string)
set_option linter.unusedVariables false
set_option linter.unusedSimpArgs false
set_option maxRecDepth 100000 in
set_option maxHeartbeats 16000000 in
theorem once_true (s : List UInt8) (w : World) (env : LEnv true w) :
    Calls Tryd.prog 8 #[.string (str s)] w fun e w' => e = .returned (.bool true) ∧ Below w.heap.size w w' := by
  have hG := env.big
  have HE := Lib.hid env
  have HAL := Lib.hid (alive_any w env)
  clear env
  by_cases hs : s.length ≤ 500
  · have ia : ¬ ((str s).size : Int) > 500 := by rw [str_size]; omega
    have HP := Lib.hid (parse_g s (by omega))
    cases hp : parseL s with
    | none =>
      obtain ⟨e1, e2⟩ := plc_none hp
      rw [e1, e2] at HP
      have HS := Lib.hid (fun (A : Option Addr) (c : Nat) (V : World) (h : LocAt Lc.no A c V) => same_no Lc.no A c V h (by decide))
      rw [show sameB Lc.no Lc.no = true by decide] at HS
      unfold PPostG locV at HP
      clear hp e1 e2
      go_enter Tryd.func8, Tryd.ntmps8
      go_wp2_with fail
      refine HAL.out.mono ?_
      rintro e w2 ⟨rfl, hb2⟩
      have HB2 := Lib.hid hb2
      clear hb2
      go_wp2_with fail
      refine (HP.out w2 (HE.out.below HB2.out hG)).mono ?_
      rintro e w3 ⟨A, c, rfl, hpx⟩
      go_upto_region 5 with (fail)
      generalize World.alloc w3 _ = w4 at hpx ⊢
      generalize w3.heap.size = M at hpx ⊢
      have HX := Lib.hid hpx
      clear hpx
      obtain ⟨hz, m0, m1, m2, m3, m4, -, -, -, -, -⟩ := locfacts HX.out.box
      go_wp2_with fail
      refine (HS.out A c w4 HX.out.at_).mono ?_
      rintro e w5 ⟨rfl, hb⟩
      have HB5 := Lib.hid (HB2.out.trans ((HX.out.bl.trans (hb.mono HX.out.bl.size)).mono HB2.out.size))
      clear hb
      go_wp2_with fail
      go_ret
      exact ⟨rfl, HB5.out⟩
    | some l =>
      obtain ⟨e1, e2⟩ := plc_some hp
      rw [e1, e2] at HP
      obtain ⟨k0, k1⟩ := (parse_iff s l).1 hp
      have HT := Lib.hid (fun (A : Option Addr) (c : Nat) (V : World) (ev : LEnv true V) (h : LocAt l A c V) => Text_any l A c V ev h)
      rw [show textL l = (s, 0) by unfold textL; rw [if_pos k0, k1]] at HT
      unfold PPostG locV at HP
      unfold locV at HT
      have ie : ((str s).toList == (str s).toList) = true := beq_self_eq_true _
      clear hp e1 e2 k0 k1
      obtain ⟨S, H, p, L, d⟩ := l
      simp only at HP HT
      go_enter Tryd.func8, Tryd.ntmps8
      go_wp2_with fail
      refine HAL.out.mono ?_
      rintro e w2 ⟨rfl, hb2⟩
      have HB2 := Lib.hid hb2
      clear hb2
      go_wp2_with fail
      refine (HP.out w2 (HE.out.below HB2.out hG)).mono ?_
      rintro e w3 ⟨A, c, rfl, hpx⟩
      go_upto_region 5 with (fail)
      generalize World.alloc w3 _ = w4 at hpx ⊢
      generalize w3.heap.size = M at hpx ⊢
      have HX := Lib.hid hpx
      clear hpx
      have HB4 := Lib.hid (HB2.out.trans (HX.out.bl.mono HB2.out.size))
      obtain ⟨hz, m0, m1, m2, m3, m4, -, -, -, -, -⟩ := locfacts HX.out.box
      go_wp2_with fail
      refine (HT.out A c w4 (HE.out.below HB4.out hG) HX.out.at_).mono ?_
      rintro e w5 ⟨rfl, hb⟩
      have HB5 := Lib.hid (HB4.out.trans (hb.mono HB4.out.size))
      clear hb
      go_wp2_with fail
      go_ret
      exact ⟨rfl, HB5.out⟩
  · have ia : ((str s).size : Int) > 500 := by rw [str_size]; omega
    go_enter Tryd.func8, Tryd.ntmps8
    go_wp2_with fail
    refine HAL.out.mono ?_
    rintro e w2 ⟨rfl, hb2⟩
    have HB2 := Lib.hid hb2
    clear hb2
    go_wp2_with fail
    go_ret
    exact ⟨rfl, HB2.out⟩
set_option maxRecDepth 100000 in
theorem once9_lifted (os : Os) (started : os.Started) (H : Type) (enc : TypeId × Value → H) :
    ReturnsInHanded {} Tryd.checked os 8 .any (fun w args => (Rows.locatorOnceSpec.pre enc Tryd.prog Tryd.f8 Rows.locatorOnceRow.domain false w args ∧ laidMet Tryd.prog laidAll w) ∧ sizedMet enc Tryd.prog Tryd.f8 (OpenSpec.ofChange Rows.locatorOnceSpec) false w args)
      (Rows.locatorOnceSpec.post enc Tryd.prog Tryd.f8 false true false false) := by
  refine returns_laid (C := Tryd.checked) (X := fun w => laidMet Tryd.prog laidAll w) (fun _ _ hh h => h.of_heap hh) Tryd.own started (by kernel_rfl) Tryd.func8
    (ChangeSpec.witness_at (enc := enc) (C := Tryd.checked) (os := os) (X := fun w _ => laidMet Tryd.prog laidAll w) false (laidWorld os) #[.string ⟨#[]⟩] 8 rfl (by kernel_rfl) (by kernel_rfl) (by kernel_rfl) (by kernel_rfl) (by kernel_rfl) (laidWorld_met os _)) ?_
  intro W base args ds gs before hval0 hW hL hsh
  have hval : ∀ (j : Nat) t v, Tryd.f8.params[j]? = some t → args[j]? = some v → Value.okWide Tryd.prog W .any base t v := hval0
  have env := env_of_laid hL hsh
  have hW' := hW
  obtain ⟨p, q, hA0, hV, rfl, hfz, hnd⟩ := hW
  have hA : DataW.TrodAll enc Tryd.prog W 0 (fun _ => true) true Tryd.f8.params.toList args.toList ds p := hA0
  rw [Tryd.params8] at hA hval
  obtain ⟨v0, vs0, d0, ds0, p0, q0, hargs, rfl, rfl, h0, r0⟩ := trodAll_cons hA
  obtain ⟨rfl, rfl, rfl⟩ := trodAll_nil r0
  obtain rfl : args = #[v0] := by cases args; simp_all
  obtain ⟨rfl, rfl⟩ := trodVars_none hV
  obtain ⟨s0, rfl, e0, f0, w0⟩ := open_string Tryd.underlying9 (hval 0 9 v0 rfl rfl) h0
  obtain ⟨l0, rfl⟩ : ∃ l, s0 = str l := ⟨s0.data.toList, (str_of s0).symm⟩
  refine (once_true l0 W env ).mono fun e W' ⟨he, hg⟩ => ?_
  subst he
  exact ⟨_, rfl, law_post Tryd.laidOut (by kernel_rfl) (by kernel_rfl) hW' hg (trodAll_cons_mk (shut_bool Tryd.underlying4 _) trodAll_mk0) rfl rfl⟩
/-- the row -/
theorem once9_row : Rows.LocatorOnceSaid :=
  OpenClaim.holds_of_wide 8 Tryd.f8 rfl rfl rfl rfl rfl rfl rfl ⟨rfl, rfl, rfl, rfl, rfl⟩ rfl rfl rfl rfl rfl (by kernel_rfl) Tryd.func8 (by kernel_rfl)
    (of_decide_eq_true (by kernel_rfl)) (by unfold Func.isWrapper; rw [if_neg (of_decide_eq_false (by kernel_rfl))]; exact ⟨rfl, rfl⟩)
    (fun os started H enc _ => once9_lifted os started H enc)
/-- the statement -/
theorem once9_holds : Rows.LocatorOnceCardSaid :=
  Claim7.holds_tied_plain_at .later [] [.data, .data, .data, .data, .sentinel, .sentinel, .data, .data, .pinned] true (true, "e11af721ae8c6e5129fd735740f1445bd35404deed9d82c6da72676743633320") true
    once9_row (fun _ h => by cases h) (by kernel_rfl) (fun _ h => by cases h) locatorOnce_row_tie rfl ⟨rfl, rfl⟩ (by kernel_rfl) rfl
    (fun f fn hf hfn => by
      obtain rfl : f = 8 := Option.some.inj ((show Tryd.prog.funcNamed "gatepath/gatepathlaw09.LocatorOnce" = some 8 by kernel_rfl).symm.trans hf) |>.symm
      obtain rfl : fn = Tryd.f8 := (Option.some.inj (Tryd.func8.symm.trans hfn)).symm
      exact ⟨by kernel_rfl, fun j t ht => by
        rw [Tryd.params8] at ht
        have hp : t = 9 := by
          rcases j with _ | j
          · simpa using ht.symm
          · simp at ht
        rcases hp with rfl
        · exact (show Tryd.prog.wantsStandIn 9 = false by kernel_rfl)⟩)
    (by kernel_rfl)
#print axioms once9_holds
end Go.Proofs.YtcnnnfnpdjgfmaaDoor
