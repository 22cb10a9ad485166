/- LocatorParses: Parse, Split, Name and Kind return what the reference returns, for every string of at most 500 bytes (longer ones are passed over by the statement itself). No condition. -/
import Derived.Test.YthagoafcphaadaaDoorLocDoor
import Derived.Test.YthagoafcphaadaaDoorLocWrap
import Derived.Test.YthagoafcphaadaaDoorLocRQ
namespace Go.Proofs.YthagoafcphaadaaDoor
open Go.ChangeShapes Go.WideShapes Go.ChangeAt Go.RowKit Lo
open Go.WideMaps Go.WideElems
open Go.ChangeMaps (open_string shut_string)
set_option linter.unusedVariables false
set_option linter.unusedSimpArgs false
set_option maxRecDepth 100000 in
set_option maxHeartbeats 16000000 in
theorem parses_true (s : List UInt8) (w : World) (env : LEnv true w) :
    Calls Tryd.prog 4 #[.string (str s)] w fun e w' => e = .returned (.bool true) ∧ Below w.heap.size w w' := by
  have hG := env.big
  have HE := Lib.hid env
  clear env
  by_cases hs : s.length ≤ 500
  · have i1 : ¬ ((str s).size : Int) > 500 := by rw [str_size]; omega
    have H1 := Lib.hid (parse_g s (by omega))
    have H2 := Lib.hid (rparse_g s (by omega))
    have H3 := Lib.hid (Split_any s (by omega))
    have H4 := Lib.hid (rSplit_any s (by omega))
    have H5 := Lib.hid (fun (V : World) (ev : LEnv true V) => name_any (str s) V ev (by rw [str_size]; omega))
    have H6 := Lib.hid (fun (V : World) => rname_any (str s) V (by rw [str_size]; omega))
    have H7 := Lib.hid (fun (V : World) (ev : LEnv true V) => Kind_any s (by omega) V ev)
    have H8 := Lib.hid (fun (V : World) => rkind_any s (by omega) V)
    rw [str_dat] at H5 H6
    have hpl : (plc s).parts.length ≤ 10 := by
      unfold plc
      cases hq : parseL s with
      | none => decide
      | some l => exact (chk_zero ((parse_iff s l).1 hq).1).2.1
    have HS := Lib.hid (fun (A : Option Addr) (c : Nat) (B : Option Addr) (e : Nat) (V : World) (h1 : LocAt (plc s) A c V) (h2 : LocAt (plc s) B e V) => same_any (plc s) (plc s) A c B e V h1.parts h2.parts (by omega) h1.cap h2.cap)
    have hself : sameB (plc s) (plc s) = true := by unfold sameB; simp
    rw [hself] at HS
    clear hself hpl
    generalize splitS s = SP at H3 H4
    generalize nameB s = NB at H5 H6
    generalize kindL s = KD at H7 H8
    generalize plc s = l at H1 H2 HS
    generalize per s = q at H1 H2
    obtain ⟨S, H, p, L, dd⟩ := l
    obtain ⟨d1, d2, d3⟩ := SP
    unfold PPostG at H1 H2
    unfold locV at H1 H2 HS
    simp only at H1 H2 HS H3 H4
    have ie : ((str d1).toList == (str d1).toList) = true := beq_self_eq_true _
    have if_ : ((str d2).toList == (str d2).toList) = true := beq_self_eq_true _
    have iq : (q == q) = true := beq_self_eq_true _
    have id_ : (d3 == d3) = true := beq_self_eq_true _
    have ib : (NB == NB) = true := beq_self_eq_true _
    have ik : ((KD : Int) == (KD : Int)) = true := beq_self_eq_true _
    go_enter Tryd.func4, Tryd.ntmps4
    go_wp2_with fail
    refine (H1.out w HE.out).mono ?_
    rintro e w2 ⟨A, c, rfl, hpx⟩
    go_upto_region 4 with (fail)
    generalize World.alloc w2 _ = w3 at hpx ⊢
    generalize w2.heap.size = M at hpx ⊢
    have HX3 := Lib.hid hpx
    clear hpx
    go_wp2_with fail
    refine (H2.out w3).mono ?_
    rintro e w4 ⟨B, f, rfl, hpx⟩
    go_upto_region 5 with (fail)
    generalize World.alloc w4 _ = w5 at hpx ⊢
    generalize w4.heap.size = M2 at hpx ⊢
    have HY5 := Lib.hid hpx
    have HX5 := Lib.hid (HX3.out.on hpx.bl)
    clear hpx
    go_wp2_with fail
    refine (H3.out w5 (HE.out.below HX5.out.bl hG)).mono ?_
    rintro e w6 ⟨rfl, hb⟩
    have HX6 := Lib.hid (HX5.out.on hb)
    have HY6 := Lib.hid (HY5.out.on hb)
    clear hb
    go_wp2_with fail
    refine (H4.out w6).mono ?_
    rintro e w7 ⟨rfl, hb⟩
    have HX7 := Lib.hid (HX6.out.on hb)
    have HY7 := Lib.hid (HY6.out.on hb)
    clear hb
    obtain ⟨hz, m0, m1, m2, m3, m4, -, -, -, -, -⟩ := locfacts HX7.out.box
    obtain ⟨gz, g0, g1, g2, g3, g4, -, -, -, -, -⟩ := locfacts HY7.out.box
    have HS7 := Lib.hid (HS.out A c B f w7 HX7.out.at_ HY7.out.at_)
    go_wp2_with fail
    refine HS7.out.mono ?_
    rintro e w8 ⟨rfl, hb⟩
    have HX8 := Lib.hid (HX7.out.on hb)
    clear hb hz m0 m1 m2 m3 m4 gz g0 g1 g2 g3 g4
    go_wp2_with fail
    refine (H5.out w8 (HE.out.below HX8.out.bl hG)).mono ?_
    rintro e w9 ⟨rfl, hb⟩
    have HX9 := Lib.hid (HX8.out.on hb)
    clear hb
    go_wp2_with fail
    refine (H6.out w9).mono ?_
    rintro e w10 ⟨rfl, hw10⟩
    rw [hw10]
    clear hw10 w10
    go_wp2_with fail
    refine (H7.out w9 (HE.out.below HX9.out.bl hG)).mono ?_
    rintro e w11 ⟨rfl, hb⟩
    have HX11 := Lib.hid (HX9.out.on hb)
    clear hb
    go_wp2_with fail
    refine (H8.out w11).mono ?_
    rintro e w12 ⟨rfl, hw12⟩
    rw [hw12]
    clear hw12 w12
    go_wp2_with fail
    go_ret
    exact ⟨by first | rfl | simp, HX11.out.bl⟩
  · have i1 : ((str s).size : Int) > 500 := by rw [str_size]; omega
    go_enter Tryd.func4, Tryd.ntmps4
    go_wp2_with fail
    go_ret
    exact ⟨rfl, Below.refl _ _⟩
set_option maxRecDepth 100000 in
theorem parses9_lifted (os : Os) (started : os.Started) (H : Type) (enc : TypeId × Value → H) :
    ReturnsInHanded {} Tryd.checked os 4 .any (fun w args => (Rows.locatorParsesSpec.pre enc Tryd.prog Tryd.f4 Rows.locatorParsesRow.domain false w args ∧ laidMet Tryd.prog laidAll w) ∧ sizedMet enc Tryd.prog Tryd.f4 (OpenSpec.ofChange Rows.locatorParsesSpec) false w args)
      (Rows.locatorParsesSpec.post enc Tryd.prog Tryd.f4 false true false false) := by
  refine returns_laid (C := Tryd.checked) (X := fun w => laidMet Tryd.prog laidAll w) (fun _ _ hh h => h.of_heap hh) Tryd.own started (by kernel_rfl) Tryd.func4
    (ChangeSpec.witness_at (enc := enc) (C := Tryd.checked) (os := os) (X := fun w _ => laidMet Tryd.prog laidAll w) false (laidWorld os) #[.string ⟨#[]⟩] 8 rfl (by kernel_rfl) (by kernel_rfl) (by kernel_rfl) (by kernel_rfl) (by kernel_rfl) (laidWorld_met os _)) ?_
  intro W base args ds gs before hval0 hW hL hsh
  have hval : ∀ (j : Nat) t v, Tryd.f4.params[j]? = some t → args[j]? = some v → Value.okWide Tryd.prog W .any base t v := hval0
  have env := env_of_laid hL hsh
  have hW' := hW
  obtain ⟨p, q, hA0, hV, rfl, hfz, hnd⟩ := hW
  have hA : DataW.TrodAll enc Tryd.prog W 0 (fun _ => true) true Tryd.f4.params.toList args.toList ds p := hA0
  rw [Tryd.params4] at hA hval
  obtain ⟨v0, vs0, d0, ds0, p0, q0, hargs, rfl, rfl, h0, r0⟩ := trodAll_cons hA
  obtain ⟨rfl, rfl, rfl⟩ := trodAll_nil r0
  obtain rfl : args = #[v0] := by cases args; simp_all
  obtain ⟨rfl, rfl⟩ := trodVars_none hV
  obtain ⟨s0, rfl, e0, f0, w0⟩ := open_string Tryd.underlying9 (hval 0 9 v0 rfl rfl) h0
  obtain ⟨l0, rfl⟩ : ∃ l, s0 = str l := ⟨s0.data.toList, (str_of s0).symm⟩
  refine (parses_true l0 W env ).mono fun e W' ⟨he, hg⟩ => ?_
  subst he
  exact ⟨_, rfl, law_post Tryd.laidOut (by kernel_rfl) (by kernel_rfl) hW' hg (trodAll_cons_mk (shut_bool Tryd.underlying4 _) trodAll_mk0) rfl rfl⟩
/-- the row -/
theorem parses9_row : Rows.LocatorParsesSaid :=
  OpenClaim.holds_of_wide 4 Tryd.f4 rfl rfl rfl rfl rfl rfl rfl ⟨rfl, rfl, rfl, rfl, rfl⟩ rfl rfl rfl rfl rfl (by kernel_rfl) Tryd.func4 (by kernel_rfl)
    (of_decide_eq_true (by kernel_rfl)) (by unfold Func.isWrapper; rw [if_neg (of_decide_eq_false (by kernel_rfl))]; exact ⟨rfl, rfl⟩)
    (fun os started H enc _ => parses9_lifted os started H enc)
/-- the statement -/
theorem parses9_holds : Rows.LocatorParsesCardSaid :=
  Claim7.holds_tied_plain_at .later [] [.data, .data, .data, .data, .sentinel, .sentinel, .data, .data, .pinned] true (true, "fb45ebfbbde856ea65fcb9411cdac8c309d7a2ce8580e590b8026810d88ebf7c") true
    parses9_row (fun _ h => by cases h) (by kernel_rfl) (fun _ h => by cases h) locatorParses_row_tie rfl ⟨rfl, rfl⟩ (by kernel_rfl) rfl
    (fun f fn hf hfn => by
      obtain rfl : f = 4 := Option.some.inj ((show Tryd.prog.funcNamed "gatepath/gatepathlaw09.LocatorParses" = some 4 by kernel_rfl).symm.trans hf) |>.symm
      obtain rfl : fn = Tryd.f4 := (Option.some.inj (Tryd.func4.symm.trans hfn)).symm
      exact ⟨by kernel_rfl, fun j t ht => by
        rw [Tryd.params4] at ht
        have hp : t = 9 := by
          rcases j with _ | j
          · simpa using ht.symm
          · simp at ht
        rcases hp with rfl
        · exact (show Tryd.prog.wantsStandIn 9 = false by kernel_rfl)⟩)
    (by kernel_rfl)
#print axioms parses9_holds
end Go.Proofs.YthagoafcphaadaaDoor
