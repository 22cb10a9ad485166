/- LocatorBack: the locator with the string of a locator is the locator. For every locator. No condition. -/
import Derived.Test.YtcnnnfnpdjgfmaaDoorLocDoor
import Derived.Test.YtcnnnfnpdjgfmaaDoorLocWrap
import Derived.Test.YtcnnnfnpdjgfmaaDoorLocOpen
namespace Go.Proofs.YtcnnnfnpdjgfmaaDoor
open Go.ChangeShapes Go.WideShapes Go.ChangeAt Go.RowKit Lo
open Go.WideMaps Go.WideElems
open Go.ChangeMaps (open_string shut_string)
set_option linter.unusedVariables false
set_option linter.unusedSimpArgs false
theorem LocAt.great {l : Lc} {A : Option Addr} {c : Nat} {w : World} (hs : l.sch < 256) (ha : StrsAt A l.parts w) (hc : l.parts.length ≤ c) (hg : greatB l = false) : LocAt l A c w := by
  unfold greatB at hg
  simp only [Bool.or_eq_false_iff, decide_eq_false_iff_not, List.any_eq_false, decide_eq_true_eq] at hg
  exact ⟨hs, by omega, ha, hc, fun p hp => by have := hg.2 p hp; omega⟩
theorem great_len {l : Lc} (hg : greatB l = false) : l.parts.length ≤ 30 := by
  unfold greatB at hg
  simp only [Bool.or_eq_false_iff, decide_eq_false_iff_not] at hg
  omega
set_option maxRecDepth 100000 in
set_option maxHeartbeats 16000000 in
theorem back_true (l : Lc) (A : Option Addr) (c : Nat) (w : World) (env : LEnv true w) (hs : l.sch < 256) (ha : StrsAt A l.parts w) (hc : l.parts.length ≤ c) :
    Calls Tryd.prog 7 #[locV l A c] w fun e w' => e = .returned (.bool true) ∧ Below w.heap.size w w' := by
  have hG := env.big
  have HE := Lib.hid env
  have HAL := Lib.hid (fun (V : World) (e : LEnv true V) => alive_any V e)
  have HGR := Lib.hid (fun (V : World) (hb : Below w.heap.size w V) => great_any l A c V (ha.on hb) hc)
  have hrow := heap_alloc_new w (.cells #[.int .u8 l.sch, .string (str l.host), .int .i64 l.port, .slice A l.parts.length c, .bool l.dir] 24)
  have hbel := below_new w (.cells #[.int .u8 l.sch, .string (str l.host), .int .i64 l.port, .slice A l.parts.length c, .bool l.dir] 24)
  clear env
  cases hg : greatB l with
  | true =>
    rw [hg] at HGR
    obtain ⟨S, H, p, L, d⟩ := l
    unfold locV at HGR ⊢
    simp only at HGR hrow hbel ⊢
    clear hg
    go_enter Tryd.func7, Tryd.ntmps7
    go_upto_region 1 with (fail)
    generalize hw1 : World.alloc w _ = w1
    have HR1 := Lib.hid (show w1.heap[w.heap.size]? = some (.cells #[.int .u8 S, .string (str H), .int .i64 p, .slice A L.length c, .bool d] 24 (0, 0)) by rw [← hw1]; exact hrow)
    have HB1 := Lib.hid (show Below w.heap.size w w1 by rw [← hw1]; exact hbel)
    clear hw1 hrow hbel
    go_wp2_with fail
    refine (HAL.out w1 (HE.out.below HB1.out hG)).mono ?_
    rintro e w2 ⟨rfl, hb2⟩
    have HB2 := Lib.hid (HB1.out.trans (hb2.mono HB1.out.size))
    have HR2 := Lib.hid (row_on HR1.out hb2)
    clear hb2
    obtain ⟨hz, m0, m1, m2, m3, m4, -, -, -, -, -⟩ := locfacts HR2.out
    go_wp2_with fail
    refine (HGR.out w2 HB2.out).mono ?_
    rintro e w3 ⟨rfl, hb⟩
    have HB3 := Lib.hid (HB2.out.trans (hb.mono HB2.out.size))
    clear hb
    go_wp2_with fail
    go_ret
    exact ⟨rfl, HB3.out⟩
  | false =>
    rw [hg] at HGR
    have hat := LocAt.great hs ha hc hg
    have HAT := Lib.hid (fun (V : World) (hb : Below w.heap.size w V) => hat.on hb)
    have HTX := Lib.hid (fun (V : World) (ev : LEnv true V) (hb : Below w.heap.size w V) => Text_any l A c V ev (hat.on hb))
    by_cases hk : chk l = 0
    · rw [show textL l = (wrL l, 0) by unfold textL; rw [if_pos hk]] at HTX
      have hpw := parse_wr hk
      have hwl := (chk_zero hk).2.2
      have HP := Lib.hid (parse_g (wrL l) (by omega))
      rw [(plc_some hpw).1, (plc_some hpw).2] at HP
      have HSM := Lib.hid (fun (A2 : Option Addr) (c2 : Nat) (V : World) (h1 : LocAt l A c V) (h2 : LocAt l A2 c2 V) => same_any l l A c A2 c2 V h1.parts h2.parts (by have := great_len hg; omega) h1.cap h2.cap)
      rw [show sameB l l = true by unfold sameB; exact decide_eq_true rfl] at HSM
      unfold PPostG locV at HP
      have il : ((str (wrL l)).size : Int) ≤ 200 := by rw [str_size]; omega
      have il2 : (str (wrL l)).size ≤ 200 := by rw [str_size]; exact hwl
      generalize wrL l = WR at HTX HP il il2
      obtain ⟨S, H, p, L, d⟩ := l
      unfold locV at HGR HTX HSM ⊢
      simp only at HGR HTX HP HSM hrow hbel ⊢
      clear hg hk hpw hwl hat
      go_enter Tryd.func7, Tryd.ntmps7
      go_upto_region 1 with (fail)
      generalize hw1 : World.alloc w _ = w1
      have HR1 := Lib.hid (show w1.heap[w.heap.size]? = some (.cells #[.int .u8 S, .string (str H), .int .i64 p, .slice A L.length c, .bool d] 24 (0, 0)) by rw [← hw1]; exact hrow)
      have HB1 := Lib.hid (show Below w.heap.size w w1 by rw [← hw1]; exact hbel)
      clear hw1 hrow hbel
      go_wp2_with fail
      refine (HAL.out w1 (HE.out.below HB1.out hG)).mono ?_
      rintro e w2 ⟨rfl, hb2⟩
      have HB2 := Lib.hid (HB1.out.trans (hb2.mono HB1.out.size))
      have HR2 := Lib.hid (row_on HR1.out hb2)
      clear hb2
      obtain ⟨hz, m0, m1, m2, m3, m4, -, -, -, -, -⟩ := locfacts HR2.out
      go_wp2_with fail
      refine (HGR.out w2 HB2.out).mono ?_
      rintro e w3 ⟨rfl, hb⟩
      have HB3 := Lib.hid (HB2.out.trans (hb.mono HB2.out.size))
      have HR3 := Lib.hid (row_on HR2.out hb)
      clear hb hz m0 m1 m2 m3 m4
      obtain ⟨hz, m0, m1, m2, m3, m4, -, -, -, -, -⟩ := locfacts HR3.out
      go_wp2_with fail
      refine (HTX.out w3 (HE.out.below HB3.out hG) HB3.out).mono ?_
      rintro e w4 ⟨rfl, hb⟩
      have HB4 := Lib.hid (HB3.out.trans (hb.mono HB3.out.size))
      have HR4 := Lib.hid (row_on HR3.out hb)
      clear hb hz m0 m1 m2 m3 m4
      go_wp2_with fail
      refine (HP.out w4 (HE.out.below HB4.out hG)).mono ?_
      rintro e w5 ⟨A2, c2, rfl, hpx⟩
      have hb6 : Below w4.heap.size w4 (w5.alloc _) := hpx.bl
      go_upto_region 8 with (fail)
      generalize World.alloc w5 _ = w6 at hpx hb6 ⊢
      generalize w5.heap.size = M at hpx ⊢
      have HX := Lib.hid hpx
      have HB6 := Lib.hid (HB4.out.trans (hb6.mono HB4.out.size))
      have HR6 := Lib.hid (row_on HR4.out hb6)
      clear hpx hb6
      obtain ⟨hz, m0, m1, m2, m3, m4, -, -, -, -, -⟩ := locfacts HR6.out
      obtain ⟨gz, g0, g1, g2, g3, g4, -, -, -, -, -⟩ := locfacts HX.out.box
      go_wp2_with fail
      refine (HSM.out A2 c2 w6 (HAT.out w6 HB6.out) HX.out.at_).mono ?_
      rintro e w7 ⟨rfl, hb⟩
      have HB7 := Lib.hid (HB6.out.trans (hb.mono HB6.out.size))
      clear hb hz m0 m1 m2 m3 m4 gz g0 g1 g2 g3 g4
      go_wp2_with fail
      go_ret
      exact ⟨rfl, HB7.out⟩
    · rw [show textL l = ([], chk l) by unfold textL; rw [if_neg hk]] at HTX
      have HCK := Lib.hid (fun (V : World) (ev : LEnv true V) (hb : Below w.heap.size w V) => check_any l A c V ev (hat.on hb))
      obtain ⟨S, H, p, L, d⟩ := l
      unfold locV at HGR HTX HCK ⊢
      simp only at HGR HTX HCK hrow hbel ⊢
      generalize chk ⟨S, H, p, L, d⟩ = CK at HTX HCK hk
      have ic : (CK != 0) = true := by rw [bne_iff_ne]; exact hk
      have iz : ((str []).toList == []) = true := by rw [eqS, str_dat]; exact decide_eq_true rfl
      clear hg hk hat
      go_enter Tryd.func7, Tryd.ntmps7
      go_upto_region 1 with (fail)
      generalize hw1 : World.alloc w _ = w1
      have HR1 := Lib.hid (show w1.heap[w.heap.size]? = some (.cells #[.int .u8 S, .string (str H), .int .i64 p, .slice A L.length c, .bool d] 24 (0, 0)) by rw [← hw1]; exact hrow)
      have HB1 := Lib.hid (show Below w.heap.size w w1 by rw [← hw1]; exact hbel)
      clear hw1 hrow hbel
      go_wp2_with fail
      refine (HAL.out w1 (HE.out.below HB1.out hG)).mono ?_
      rintro e w2 ⟨rfl, hb2⟩
      have HB2 := Lib.hid (HB1.out.trans (hb2.mono HB1.out.size))
      have HR2 := Lib.hid (row_on HR1.out hb2)
      clear hb2
      obtain ⟨hz, m0, m1, m2, m3, m4, -, -, -, -, -⟩ := locfacts HR2.out
      go_wp2_with fail
      refine (HGR.out w2 HB2.out).mono ?_
      rintro e w3 ⟨rfl, hb⟩
      have HB3 := Lib.hid (HB2.out.trans (hb.mono HB2.out.size))
      have HR3 := Lib.hid (row_on HR2.out hb)
      clear hb hz m0 m1 m2 m3 m4
      obtain ⟨hz, m0, m1, m2, m3, m4, -, -, -, -, -⟩ := locfacts HR3.out
      go_wp2_with fail
      refine (HTX.out w3 (HE.out.below HB3.out hG) HB3.out).mono ?_
      rintro e w4 ⟨rfl, hb⟩
      have HB4 := Lib.hid (HB3.out.trans (hb.mono HB3.out.size))
      have HR4 := Lib.hid (row_on HR3.out hb)
      clear hb hz m0 m1 m2 m3 m4
      obtain ⟨hz, m0, m1, m2, m3, m4, -, -, -, -, -⟩ := locfacts HR4.out
      go_wp2_with fail
      refine (HCK.out w4 (HE.out.below HB4.out hG) HB4.out).mono ?_
      rintro e w5 ⟨rfl, hb⟩
      have HB5 := Lib.hid (HB4.out.trans (hb.mono HB4.out.size))
      clear hb hz m0 m1 m2 m3 m4
      go_wp2_with fail
      go_ret
      exact ⟨rfl, HB5.out⟩
set_option maxRecDepth 100000 in
theorem back9_lifted (os : Os) (started : os.Started) (H : Type) (enc : TypeId × Value → H) :
    ReturnsInHanded {} Tryd.checked os 7 .any (fun w args => (Rows.locatorBackSpec.pre enc Tryd.prog Tryd.f7 Rows.locatorBackRow.domain false w args ∧ laidMet Tryd.prog laidAll w) ∧ sizedMet enc Tryd.prog Tryd.f7 (OpenSpec.ofChange Rows.locatorBackSpec) false w args)
      (Rows.locatorBackSpec.post enc Tryd.prog Tryd.f7 false true false false) := by
  refine returns_laid (C := Tryd.checked) (X := fun w => laidMet Tryd.prog laidAll w) (fun _ _ hh h => h.of_heap hh) Tryd.own started (by kernel_rfl) Tryd.func7
    (ChangeSpec.witness_at (enc := enc) (C := Tryd.checked) (os := os) (X := fun w _ => laidMet Tryd.prog laidAll w) false (laidWorld os) #[.agg #[.int .u8 0, .string ⟨#[]⟩, .int .i64 0, .slice none 0 0, .bool false]] 8 rfl (by kernel_rfl) (by kernel_rfl) (by kernel_rfl) (by kernel_rfl) (by kernel_rfl) (laidWorld_met os _)) ?_
  intro W base args ds gs before hval0 hW hL hsh
  have hval : ∀ (j : Nat) t v, Tryd.f7.params[j]? = some t → args[j]? = some v → Value.okWide Tryd.prog W .any base t v := hval0
  have env := env_of_laid hL hsh
  have hW' := hW
  obtain ⟨p, q, hA0, hV, rfl, hfz, hnd⟩ := hW
  have hA : DataW.TrodAll enc Tryd.prog W 0 (fun _ => true) true Tryd.f7.params.toList args.toList ds p := hA0
  rw [Tryd.params7] at hA hval
  obtain ⟨v0, vs0, d0, ds0, p0, q0, hargs, rfl, rfl, h0, r0⟩ := trodAll_cons hA
  obtain ⟨rfl, rfl, rfl⟩ := trodAll_nil r0
  obtain rfl : args = #[v0] := by cases args; simp_all
  obtain ⟨rfl, rfl⟩ := trodVars_none hV
  obtain ⟨l0, A0, c0, rfl, hs0, ha0, hc0⟩ := open_loc (hval 0 24 v0 rfl rfl) h0
  refine (back_true l0 A0 c0 W env hs0 ha0 hc0).mono fun e W' ⟨he, hg⟩ => ?_
  subst he
  exact ⟨_, rfl, law_post Tryd.laidOut (by kernel_rfl) (by kernel_rfl) hW' hg (trodAll_cons_mk (shut_bool Tryd.underlying4 _) trodAll_mk0) rfl rfl⟩
/-- the row -/
theorem back9_row : Rows.LocatorBackSaid :=
  OpenClaim.holds_of_wide 7 Tryd.f7 rfl rfl rfl rfl rfl rfl rfl ⟨rfl, rfl, rfl, rfl, rfl⟩ rfl rfl rfl rfl rfl (by kernel_rfl) Tryd.func7 (by kernel_rfl)
    (of_decide_eq_true (by kernel_rfl)) (by unfold Func.isWrapper; rw [if_neg (of_decide_eq_false (by kernel_rfl))]; exact ⟨rfl, rfl⟩)
    (fun os started H enc _ => back9_lifted os started H enc)
/-- the statement -/
theorem back9_holds : Rows.LocatorBackCardSaid :=
  Claim7.holds_tied_plain_at .later [] [.data, .data, .data, .data, .sentinel, .sentinel, .data, .data, .pinned] true (true, "e11af721ae8c6e5129fd735740f1445bd35404deed9d82c6da72676743633320") true
    back9_row (fun _ h => by cases h) (by kernel_rfl) (fun _ h => by cases h) locatorBack_row_tie rfl ⟨rfl, rfl⟩ (by kernel_rfl) rfl
    (fun f fn hf hfn => by
      obtain rfl : f = 7 := Option.some.inj ((show Tryd.prog.funcNamed "gatepath/gatepathlaw09.LocatorBack" = some 7 by kernel_rfl).symm.trans hf) |>.symm
      obtain rfl : fn = Tryd.f7 := (Option.some.inj (Tryd.func7.symm.trans hfn)).symm
      exact ⟨by kernel_rfl, fun j t ht => by
        rw [Tryd.params7] at ht
        have hp : t = 24 := by
          rcases j with _ | j
          · simpa using ht.symm
          · simp at ht
        rcases hp with rfl
        · exact (show Tryd.prog.wantsStandIn 24 = false by kernel_rfl)⟩)
    (by kernel_rfl)
#print axioms back9_holds
end Go.Proofs.YtcnnnfnpdjgfmaaDoor
