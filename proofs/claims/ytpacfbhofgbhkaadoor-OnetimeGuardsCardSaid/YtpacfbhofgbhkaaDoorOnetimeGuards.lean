/- OnetimeGuards, for every input: of two messages with different short digests each has a digit that is less than that of the other one. Condition: what the row lists of the program's tables (tied by the card). -/
import Derived.Test.YtpacfbhofgbhkaaDoorOneI
import Derived.Test.YtpacfbhofgbhkaaDoorOneO
import Derived.Test.YtpacfbhofgbhkaaDoorLawKit
import Derived.Test.YtpacfbhofgbhkaaDoorCards
namespace Go.Proofs.YtpacfbhofgbhkaaDoor
open Go.ChangeShapes Go.WideShapes Go.ChangeAt Go.RowKit Sha Ots
open Go.WideMaps Go.WideElems
set_option linter.unusedVariables false
set_option linter.unusedSimpArgs false
/-- of the first k digits one is less -/
def anyLt (x y : List Nat) : Nat → Bool
  | 0 => false
  | k + 1 => anyLt x y k || decide (x.getD k 0 < y.getD k 0)
theorem anyLt_of (x y : List Nat) : ∀ n k, k < n → x.getD k 0 < y.getD k 0 → anyLt x y n = true
  | 0, k, h, _ => by omega
  | n + 1, k, h, hlt => by
    rw [anyLt]
    by_cases e : k = n
    · subst e
      rw [decide_eq_true hlt, Bool.or_true]
    · rw [anyLt_of x y n k (by omega) hlt]
      rfl
theorem anyLt_same (x : List Nat) : ∀ n, anyLt x x n = false
  | 0 => rfl
  | n + 1 => by
    rw [anyLt, anyLt_same x n]
    simp
theorem anyLt_dig (a b : List UInt8) : anyLt (dig a) (dig b) 35 = !(sh a == sh b) := by
  by_cases e : sh a = sh b
  · rw [dig_same a b e, anyLt_same, e]
    simp
  · obtain ⟨k, hk, hlt⟩ := dig_guard a b e
    rw [anyLt_of _ _ 35 k hk hlt]
    have : (sh a == sh b) = false := by simpa using e
    rw [this]
    rfl
set_option maxRecDepth 100000 in
set_option maxHeartbeats 4000000 in
theorem guards6_true (la : List UInt8) (A : Option Addr) (ca : Nat) (lb : List UInt8) (B : Option Addr) (cb : Nat) (hca : la.length ≤ ca) (hcam : ca ≤ maxLen) (hcb : lb.length ≤ cb) (hcbm : cb ≤ maxLen) (w : World) (sa : SrcAt A la w) (sb : SrcAt B lb w) (env : DEnv w) :
    Calls Tryd.prog 7 #[.slice A la.length ca, .slice B lb.length cb] w fun e w' => e = .returned (.bool true) ∧ Below w.heap.size w w' := by
  have hal : ∀ V : World, Below w.heap.size w V → Calls Tryd.prog 15 #[] V fun e w' => e = .returned (.bool true) ∧ Below V.heap.size V w' := fun V hb => alive6_any V (env.on hb)
  have hlm1 : la.length ≤ 9223372036854775807 := by unfold maxLen at hcam; omega
  have hlm2 : lb.length ≤ 9223372036854775807 := by unfold maxLen at hcbm; omega
  have AL := Lib.hid hal
  by_cases h1 : la.length ≤ 2000
  · by_cases h2 : lb.length ≤ 2000
    · have hd1 := fun (V : World) (hb : Below w.heap.size w V) => digits_any la A ca (by omega) hca hcam V (sa.on hb) (env.on hb)
      have hd2 := fun (V : World) (hb : Below w.heap.size w V) => digits_any lb B cb (by omega) hcb hcbm V (sb.on hb) (env.on hb)
      have hs1 : ∀ V : World, Below w.heap.size w V → Calls Tryd.prog 14 #[.slice A la.length ca] V fun e w' => e = .returned (.agg (bcells (sh la))) ∧ Below V.heap.size V w' := fun V hb => short_any la A ca (by omega) hca hcam V (sa.on hb) (env.on hb)
      have hs2 : ∀ V : World, Below w.heap.size w V → Calls Tryd.prog 14 #[.slice B lb.length cb] V fun e w' => e = .returned (.agg (bcells (sh lb))) ∧ Below V.heap.size V w' := fun V hb => short_any lb B cb (by omega) hcb hcbm V (sb.on hb) (env.on hb)
      have g1 := anyLt_dig la lb
      have g2 := anyLt_dig lb la
      have hq := fun (w : World) => neq_short (sh la) (sh lb) (sh_len _) (sh_len _) w
      have hsy : (sh lb == sh la) = (sh la == sh lb) := Bool.beq_comm
      rw [hsy] at g2
      have d1 := dig_len la
      have d2 := dig_len lb
      have e1 := getD_le15 _ (dig_le la)
      have e2 := getD_le15 _ (dig_le lb)
      obtain ⟨D, hD⟩ : ∃ D, (!(sh la == sh lb)) = D := ⟨_, rfl⟩
      obtain ⟨S1, hS1⟩ : ∃ S1, sh la = S1 := ⟨_, rfl⟩
      obtain ⟨S2, hS2⟩ : ∃ S2, sh lb = S2 := ⟨_, rfl⟩
      obtain ⟨x, hx⟩ : ∃ x, dig la = x := ⟨_, rfl⟩
      obtain ⟨y, hy⟩ : ∃ y, dig lb = y := ⟨_, rfl⟩
      rw [hD] at g1 g2 hq
      rw [hS1] at hs1 hq
      rw [hS2] at hs2 hq
      rw [hx] at hd1 g1 g2 d1 e1
      rw [hy] at hd2 g1 g2 d2 e2
      have DA := Lib.hid hd1
      have DB := Lib.hid hd2
      have SA := Lib.hid hs1
      have SB := Lib.hid hs2
      have G1 := Lib.hid g1
      have G2 := Lib.hid g2
      have HQ := Lib.hid hq
      have HL := Lib.hid (And.intro d1 d2)
      have HE := Lib.hid (And.intro e1 e2)
      obtain ⟨n, hn⟩ : ∃ n, la.length = n := ⟨_, rfl⟩
      obtain ⟨m, hm⟩ : ∃ m, lb.length = m := ⟨_, rfl⟩
      rw [hn] at DA SA h1 hlm1 ⊢
      rw [hm] at DB SB h2 hlm2 ⊢
      clear hal hd1 hd2 hs1 hs2 g1 g2 hq hsy d1 d2 e1 e2 hD hS1 hS2 hx hy hn hm hca hcam hcb hcbm sa sb env
      go_enter Tryd.func7, Tryd.ntmps7
      go_wp2_with fail
      refine (AL.out _ (Below.refl _ _)).mono ?_
      rintro e w1 ⟨rfl, hb1⟩
      have HB1 := Lib.hid hb1
      clear hb1
      go_wp2_with fail
      refine (DA.out _ HB1.out).mono ?_
      rintro e w2 ⟨X, rfl, hX, hix, hb2⟩
      have HB2 := Lib.hid (chain HB1.out hb2)
      have HIX := Lib.hid hix
      clear hX hix hb2 HB1
      go_wp2_with fail
      refine (DB.out _ HB2.out).mono ?_
      rintro e w3 ⟨Y, rfl, hY, hiy, hb3⟩
      have HB3 := Lib.hid (chain HB2.out hb3)
      have HIX3 := Lib.hid (HIX.out.on hb3)
      have HIY3 := Lib.hid hiy
      clear hY hiy hb3 HB2 HIX
      go_wp2_with fail
      go_loopw [8, 9, 10] (fun p q i wr => ∃ k : Nat, k ≤ 35 ∧ i = .int .i64 (k : Int) ∧ p = .bool (anyLt x y k) ∧ q = .bool (anyLt y x k) ∧ RowKit.Hid (∃ dn, wr = w3.drewN dn)) (fun _ _ i _ => 35 - (intOf i).toNat)
      case atStart => exact ⟨0, by omega, rfl, rfl, rfl, Lib.hid ⟨0, rfl⟩⟩
      case round =>
        obtain ⟨k, hk, rfl, rfl, rfl, HWR⟩ := hrel
        obtain ⟨L, hL⟩ : ∃ L, anyLt x y k = L := ⟨_, rfl⟩
        obtain ⟨M, hM⟩ : ∃ M, anyLt y x k = M := ⟨_, rfl⟩
        by_cases hlt : k < 35
        · have hki : (k : Int) < 35 := by omega
          have cx : wr.cell? ⟨X, k, none⟩ = some (.int .i64 ((x.getD k 0 : Nat) : Int)) := by
            obtain ⟨dn, rfl⟩ := HWR.out
            exact HIX3.out.at k (by rw [HL.out.1]; exact hlt)
          have cy : wr.cell? ⟨Y, k, none⟩ = some (.int .i64 ((y.getD k 0 : Nat) : Int)) := by
            obtain ⟨dn, rfl⟩ := HWR.out
            exact HIY3.out.at k (by rw [HL.out.2]; exact hlt)
          have n1 : anyLt x y (k + 1) = (L || decide (x.getD k 0 < y.getD k 0)) := by rw [anyLt, hL]
          have n2 : anyLt y x (k + 1) = (M || decide (y.getD k 0 < x.getD k 0)) := by rw [anyLt, hM]
          have b1 := HE.out.1 k
          have b2 := HE.out.2 k
          rw [hL, hM]
          obtain ⟨p, hp⟩ : ∃ p, x.getD k 0 = p := ⟨_, rfl⟩
          obtain ⟨q, hq⟩ : ∃ q, y.getD k 0 = q := ⟨_, rfl⟩
          rw [hp] at cx n1 n2 b1
          rw [hq] at cy n1 n2 b2
          have N1 := Lib.hid n1
          have N2 := Lib.hid n2
          clear n1 n2 hp hq hL hM
          have b3 : ¬ ((p : Int) < 0) := by omega
          have b4 : ¬ ((15 : Int) < (p : Int)) := by omega
          by_cases t1 : p < q
          · have t2 : (p : Int) < (q : Int) := by omega
            have t3 : ¬ ((q : Int) < (p : Int)) := by omega
            have t4 : ¬ q < p := by omega
            cases L <;> cases M
            all_goals
              go_wp2_with fail
              go_quiet (fail)
              go_wp2_with fail
              go_quiet (fail)
              go_wp2_with fail
              refine ⟨⟨k + 1, by omega, by go_num, ?_, ?_, Lib.hid ?_⟩, by simp [intOf]; omega⟩
              · rw [N1.out]
                simp [*]
              · rw [N2.out]
                simp [*]
              · obtain ⟨dn, rfl⟩ := HWR.out
                exact ⟨_, by rw [World.drewN_drewN]⟩
          · by_cases s1 : q < p
            · have t2 : ¬ ((p : Int) < (q : Int)) := by omega
              have t3 : ((q : Int) < (p : Int)) := by omega
              cases L <;> cases M
              all_goals
                go_wp2_with fail
                go_quiet (fail)
                go_wp2_with fail
                go_quiet (fail)
                go_wp2_with fail
                refine ⟨⟨k + 1, by omega, by go_num, ?_, ?_, Lib.hid ?_⟩, by simp [intOf]; omega⟩
                · rw [N1.out]
                  simp [*]
                · rw [N2.out]
                  simp [*]
                · obtain ⟨dn, rfl⟩ := HWR.out
                  exact ⟨_, by rw [World.drewN_drewN]⟩
            · have t2 : ¬ ((p : Int) < (q : Int)) := by omega
              have t3 : ¬ ((q : Int) < (p : Int)) := by omega
              cases L <;> cases M
              all_goals
                go_wp2_with fail
                go_quiet (fail)
                go_wp2_with fail
                go_quiet (fail)
                go_wp2_with fail
                refine ⟨⟨k + 1, by omega, by go_num, ?_, ?_, Lib.hid ?_⟩, by simp [intOf]; omega⟩
                · rw [N1.out]
                  simp [*]
                · rw [N2.out]
                  simp [*]
                · obtain ⟨dn, rfl⟩ := HWR.out
                  exact ⟨_, by rw [World.drewN_drewN]⟩
        · have hkk : k = 35 := by omega
          subst hkk
          have hge : ¬ ((35 : Nat) : Int) < 35 := by omega
          have hDL : L = D := by rw [← hL]; exact G1.out
          have hDM : M = D := by rw [← hM]; exact G2.out
          rw [hL, hM, hDL, hDM]
          have HBW : RowKit.Hid (Below w.heap.size w wr) := Lib.hid (by
            obtain ⟨dn, rfl⟩ := HWR.out
            exact below_drewN HB3.out dn)
          clear hL hM hDL hDM
          go_wp2_with fail
          refine (SA.out _ HBW.out).mono ?_
          rintro e w4 ⟨rfl, hb4⟩
          have HB4 := Lib.hid (chain HBW.out hb4)
          clear hb4
          go_wp2_with fail
          refine (SB.out _ HB4.out).mono ?_
          rintro e w5 ⟨rfl, hb5⟩
          have HB5 := Lib.hid (chain HB4.out hb5)
          clear hb5
          have hq := HQ.out
          cases D
          all_goals
            go_wp2_with fail
            go_ret
            exact ⟨rfl, HB5.out⟩
    · have h6 : (2000 : Int) < (lb.length : Int) := by omega
      obtain ⟨n, hn⟩ : ∃ n, la.length = n := ⟨_, rfl⟩
      obtain ⟨m, hm⟩ : ∃ m, lb.length = m := ⟨_, rfl⟩
      rw [hn] at h1 hlm1 ⊢
      rw [hm] at h6 hlm2 ⊢
      clear hal hn hm sa sb env hca hcam hcb hcbm
      go_enter Tryd.func7, Tryd.ntmps7
      go_wp2_with fail
      refine (AL.out _ (Below.refl _ _)).mono ?_
      rintro e w1 ⟨rfl, hb1⟩
      have HB1 := Lib.hid hb1
      clear hb1
      go_wp2_with fail
      go_ret
      exact ⟨rfl, HB1.out⟩
  · have h6 : (2000 : Int) < (la.length : Int) := by omega
    obtain ⟨n, hn⟩ : ∃ n, la.length = n := ⟨_, rfl⟩
    obtain ⟨m, hm⟩ : ∃ m, lb.length = m := ⟨_, rfl⟩
    rw [hn] at h6 hlm1 ⊢
    rw [hm] at hlm2 ⊢
    clear hal hn hm sa sb env hca hcam hcb hcbm
    go_enter Tryd.func7, Tryd.ntmps7
    go_wp2_with fail
    refine (AL.out _ (Below.refl _ _)).mono ?_
    rintro e w1 ⟨rfl, hb1⟩
    have HB1 := Lib.hid hb1
    clear hb1
    go_wp2_with fail
    go_ret
    exact ⟨rfl, HB1.out⟩
set_option maxRecDepth 100000 in
theorem guards6_lifted (os : Os) (started : os.Started) (H : Type) (enc : TypeId × Value → H) :
    ReturnsInHanded {} Tryd.checked os 7 .any (fun w args => (Rows.onetimeGuardsSpec.pre enc Tryd.prog Tryd.f7 Rows.onetimeGuardsRow.domain false w args ∧ laidMet Tryd.prog laidDig w) ∧ sizedMet enc Tryd.prog Tryd.f7 (OpenSpec.ofChange Rows.onetimeGuardsSpec) false w args)
      (Rows.onetimeGuardsSpec.post enc Tryd.prog Tryd.f7 false true false false) := by
  refine returns_laid (C := Tryd.checked) (X := fun w => laidMet Tryd.prog laidDig w) (fun _ _ hh h => h.of_heap hh) Tryd.own started (by kernel_rfl) Tryd.func7
    (ChangeSpec.witness_at (enc := enc) (C := Tryd.checked) (os := os) (X := fun w _ => laidMet Tryd.prog laidDig w) false (laidWorldD os) #[.slice none 0 0, .slice none 0 0] 8 rfl (by kernel_rfl) (by kernel_rfl) (by kernel_rfl) (by kernel_rfl) (by kernel_rfl) (laidWorldD_met os _)) ?_
  intro W base args ds gs before hval0 hW hL hsh
  have hval : ∀ (j : Nat) t v, Tryd.f7.params[j]? = some t → args[j]? = some v → Value.okWide Tryd.prog W .any base t v := hval0
  have env := denv_of_laid hL
  have hW' := hW
  obtain ⟨p, q, hA0, hV, rfl, hfz, hnd⟩ := hW
  have hA : DataW.TrodAll enc Tryd.prog W 0 (fun _ => true) true Tryd.f7.params.toList args.toList ds p := hA0
  rw [Tryd.params7] at hA hval
  obtain ⟨v0, vs0, d0, ds0, p0, q0, hargs, rfl, rfl, h0, r0⟩ := trodAll_cons hA
  obtain ⟨v1, vs1, d1, ds1, p1, q1, rfl, rfl, rfl, h1, r1⟩ := trodAll_cons r0
  obtain ⟨rfl, rfl, rfl⟩ := trodAll_nil r1
  obtain rfl : args = #[v0, v1] := by cases args; simp_all
  obtain ⟨rfl, rfl⟩ := trodVars_none hV
  obtain ⟨A0, l0, c0, rfl, hc0, hm0, hs0⟩ := open_bytes (hval 0 33 v0 rfl rfl) h0
  obtain ⟨A1, l1, c1, rfl, hc1, hm1, hs1⟩ := open_bytes (hval 1 33 v1 rfl rfl) h1
  refine (guards6_true l0 A0 c0 l1 A1 c1 hc0 hm0 hc1 hm1 W hs0 hs1 env).mono fun e W' ⟨he, hg⟩ => ?_
  subst he
  exact ⟨_, rfl, law_post Tryd.laidOut (by kernel_rfl) (by kernel_rfl) hW' hg (trodAll_cons_mk (shut_bool Tryd.underlying4 _) trodAll_mk0) rfl rfl⟩
/-- the row -/
theorem guards6_row : Rows.OnetimeGuardsSaid :=
  OpenClaim.holds_of_wide 7 Tryd.f7 rfl rfl rfl rfl rfl rfl rfl ⟨rfl, rfl, rfl, rfl, rfl⟩ rfl rfl rfl rfl rfl (by kernel_rfl) Tryd.func7 (by kernel_rfl)
    (of_decide_eq_true (by kernel_rfl)) (by unfold Func.isWrapper; rw [if_neg (of_decide_eq_false (by kernel_rfl))]; exact ⟨rfl, rfl⟩)
    (fun os started H enc _ => guards6_lifted os started H enc)
/-- the statement -/
theorem guards6_holds : Rows.OnetimeGuardsCardSaid :=
  Claim7.holds_tied_plain_at .later [] [.data, .data] true (true, "40e343a43b00d35708239691a34d580eaa57c938b9af9db3cff3c6339d6703bd") false
    guards6_row (fun _ h => by cases h) (by kernel_rfl) (fun _ h => by cases h) onetimeGuards_row_tie rfl ⟨rfl, rfl⟩ (by kernel_rfl) rfl
    (fun f fn hf hfn => by
      obtain rfl : f = 7 := Option.some.inj ((show Tryd.prog.funcNamed "gatepath/gatepathlaw06.OnetimeGuards" = some 7 by kernel_rfl).symm.trans hf) |>.symm
      obtain rfl : fn = Tryd.f7 := (Option.some.inj (Tryd.func7.symm.trans hfn)).symm
      exact ⟨by kernel_rfl, fun j t ht => by
        rw [Tryd.params7] at ht
        have hp : t = 33 := by
          rcases j with _ | _ | j
          · simpa using ht.symm
          · simpa using ht.symm
          · simp at ht
        subst hp
        exact (show Tryd.prog.wantsStandIn 33 = false by kernel_rfl)⟩)
    (by kernel_rfl)
#print axioms guards6_holds
end Go.Proofs.YtpacfbhofgbhkaaDoor
