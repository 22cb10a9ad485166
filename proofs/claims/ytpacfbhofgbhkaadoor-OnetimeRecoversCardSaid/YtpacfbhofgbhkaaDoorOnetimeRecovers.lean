/- OnetimeRecovers, for every input: Recover returns what the reference returns, and changes nothing that it is given. Condition: what the row lists of the program's tables (tied by the card). -/
import Derived.Test.YtpacfbhofgbhkaaDoorOneRG
import Derived.Test.YtpacfbhofgbhkaaDoorOneO
import Derived.Test.YtpacfbhofgbhkaaDoorLawKit
import Derived.Test.YtpacfbhofgbhkaaDoorCards
namespace Go.Proofs.YtpacfbhofgbhkaaDoor
open Go.ChangeShapes Go.WideShapes Go.ChangeAt Go.RowKit Sha Ots
open Go.WideMaps Go.WideElems
set_option linter.unusedVariables false
set_option linter.unusedSimpArgs false
set_option maxRecDepth 100000 in
set_option maxHeartbeats 4000000 in
theorem recovers6_true (l : List UInt8) (A : Option Addr) (c : Nat) (ls : List (List UInt8)) (B : Option Addr) (cb : Nat) (hc : l.length ≤ c) (hcm : c ≤ maxLen) (hcn : A = none → c = 0) (hcb : ls.length ≤ cb) (hcbm : cb ≤ maxLen) (hcbn : B = none → cb = 0) (w : World) (sa : SrcAt A l w) (sb : Shorts B ls w) (env : DEnv w) :
    Calls Tryd.prog 5 #[.slice A l.length c, .slice B ls.length cb] w fun e w' => e = .returned (.bool true) ∧ Below w.heap.size w w' := by
  have hlm1 : l.length ≤ 9223372036854775807 := by unfold maxLen at hcm; omega
  have hlm2 : ls.length ≤ 9223372036854775807 := by unfold maxLen at hcbm; omega
  by_cases h1 : l.length ≤ 2000
  · by_cases h2 : ls.length ≤ 100
    · obtain ⟨K, E, hK16, hre, hrr⟩ : ∃ (K : List UInt8) (E : Int), K.length = 16 ∧ (∀ (V : World) (B' : Option Addr) (c' : Nat), Below w.heap.size w V → Shorts B' ls V → Calls Tryd.prog 11 #[.slice A l.length c, .slice B' ls.length c'] V fun e w' => e = .returned (.tuple #[.agg (bcells K), .int .i64 E]) ∧ Below V.heap.size V w') ∧
          (∀ (V : World), Below w.heap.size w V → Calls Tryd.prog 22 #[.slice A l.length c, .slice B ls.length cb] V fun e w' => e = .returned (.tuple #[.agg (bcells K), .int .i64 E]) ∧ Below V.heap.size V w') := by
        by_cases h35 : ls.length = 35
        · exact ⟨key l ls, 0, key_len l ls, fun V B' c' hb hsh => recover_any l A c (by omega) hc hcm ls B' c' h35 V (sa.on hb) hsh (env.on hb), fun V hb => recover_ref l A c (by omega) hc hcn ls B cb h35 V (sa.on hb) (sb.on hb)⟩
        · exact ⟨List.replicate 16 0, 12, rfl, fun V B' c' hb hsh => recover_bad _ ls B' c' h35 V, fun V hb => recover_ref_bad _ ls B cb h35 V⟩
      have hq1 : ∀ w, (binOp .eql 25 (.agg (bcells K)) (.agg (bcells K))).run Tryd.prog w = .ok (.bool true) w := fun w => by
        have h := eql_short K K hK16 hK16 w
        rw [show (K == K) = true by simp] at h
        exact h
      have hsm := fun (V : World) (A1 : Option Addr) (c1 : Nat) (hb : Below w.heap.size w V) (hsh : Shorts A1 ls V) => same_ref ls A1 B c1 cb (by omega) V hsh (sb.on hb)
      have SB := Lib.hid sb
      have RE := Lib.hid hre
      have RR := Lib.hid hrr
      have SM := Lib.hid hsm
      have HCN := Lib.hid hcbn
      have HSZ := Lib.hid (sz16 K hK16)
      have hso : (16 : Nat) = (bcells K).size := by rw [bcells_size, hK16]
      have HSO := Lib.hid hso
      obtain ⟨n, hn⟩ : ∃ n, l.length = n := ⟨_, rfl⟩
      obtain ⟨m, hm⟩ : ∃ m, ls.length = m := ⟨_, rfl⟩
      have HM := Lib.hid hm
      rw [hn] at RE RR h1 hlm1 ⊢
      rw [hm] at RE RR SM h2 hlm2 ⊢
      clear hre hrr hsm hso hn hm hc hcm hcn hcb hcbm hcbn sa sb env hK16
      go_enter Tryd.func5, Tryd.ntmps5
      go_wp2_with (at_builtin; refine append_copy rfl (.tmp 18) (.tmp 19) rfl w.heap.size rfl (heap_alloc_new _ _) B ls m cb rfl HM.out HCN.out (SB.out.on (below_new _ _)) (by omega) ?_; intro A1 c1 w1 hsh1 hb1; have HSH1 := Lib.hid hsh1; have HB1 := Lib.hid ((below_new w (.cells #[] 25)).trans hb1); clear hsh1 hb1)
      refine (RE.out _ A1 c1 HB1.out HSH1.out).mono ?_
      rintro e w2 ⟨rfl, hb2⟩
      have HB2 := Lib.hid (chain HB1.out hb2)
      have HSH2 := Lib.hid (HSH1.out.on hb2)
      clear hb2 HB1 HSH1
      go_upto_region 5 with (refine wpList_store_row rfl 25 (.tmp 6) (.tmp 25) rfl w2.heap.size (bcells K) rfl rfl 25 _ (heap_alloc_new _ _) HSZ.out HSO.out (bcells_one _) ?_)
      rw [World.setRow_alloc_new]
      obtain ⟨X1, hX1⟩ : ∃ X1, w2.heap.size = X1 := ⟨_, rfl⟩
      generalize hV : World.alloc w2 _ = V
      have hbb : Below w2.heap.size w2 V := by rw [← hV]; exact below_new _ _
      have HR1 : RowKit.Hid (V.heap[X1]? = some (.cells (bcells K) 25 (0, 0))) := Lib.hid (by rw [← hV, ← hX1]; exact heap_alloc_new _ _)
      have HB3 := Lib.hid (chain HB2.out hbb)
      have HSH3 := Lib.hid (HSH2.out.on hbb)
      try simp only [hX1]
      try simp only [Act.put]
      clear hV hbb HB2 HSH2 hX1
      go_wp2_with fail
      refine (RR.out _ HB3.out).mono ?_
      rintro e w4 ⟨rfl, hb4⟩
      have HB4 := Lib.hid (chain HB3.out hb4)
      have HSH4 := Lib.hid (HSH3.out.on hb4)
      have HR4 := Lib.hid ((hb4.block _ (Array.getElem?_eq_some_iff.1 HR1.out).1).trans HR1.out)
      clear hb4 HB3 HSH3 HR1
      go_upto_region 6 with (refine wpList_store_row rfl 25 (.tmp 8) (.tmp 31) rfl w4.heap.size (bcells K) rfl rfl 25 _ (heap_alloc_new _ _) HSZ.out HSO.out (bcells_one _) ?_)
      rw [World.setRow_alloc_new]
      obtain ⟨X2, hX2⟩ : ∃ X2, w4.heap.size = X2 := ⟨_, rfl⟩
      generalize hV : World.alloc w4 _ = V5
      have hbb : Below w4.heap.size w4 V5 := by rw [← hV]; exact below_new _ _
      have HR2 : RowKit.Hid (V5.heap[X2]? = some (.cells (bcells K) 25 (0, 0))) := Lib.hid (by rw [← hV, ← hX2]; exact heap_alloc_new _ _)
      have HR5 := Lib.hid ((hbb.block _ (Array.getElem?_eq_some_iff.1 HR4.out).1).trans HR4.out)
      have HB5 := Lib.hid (chain HB4.out hbb)
      have HSH5 := Lib.hid (HSH4.out.on hbb)
      try simp only [hX2]
      try simp only [Act.put]
      clear hV hbb HB4 HSH4 HR4 hX2
      go_wp2_with (first | (refine wpList_load_row rfl 25 (.tmp 6) rfl X1 rfl 25 (bcells K) (0, 0) _ HR5.out Tryd.underlying25 rfl HSZ.out ?_) | (refine wpList_load_row rfl 25 (.tmp 8) rfl X2 rfl 25 (bcells K) (0, 0) _ HR2.out Tryd.underlying25 rfl HSZ.out ?_))
      refine (SM.out _ A1 c1 HB5.out HSH5.out).mono ?_
      rintro e w6 ⟨rfl, hb6⟩
      have HB6 := Lib.hid (chain HB5.out hb6)
      clear hb6
      go_wp2_with fail
      go_ret
      exact ⟨rfl, HB6.out⟩
    · have h6 : (100 : Int) < (ls.length : Int) := by omega
      obtain ⟨n, hn⟩ : ∃ n, l.length = n := ⟨_, rfl⟩
      obtain ⟨m, hm⟩ : ∃ m, ls.length = m := ⟨_, rfl⟩
      rw [hn] at h1 hlm1 ⊢
      rw [hm] at h6 hlm2 ⊢
      clear hn hm sa sb env hc hcm hcn hcb hcbm hcbn
      go_enter Tryd.func5, Tryd.ntmps5
      go_wp2_with fail
      go_ret
      exact ⟨rfl, Below.refl _ _⟩
  · have h6 : (2000 : Int) < (l.length : Int) := by omega
    obtain ⟨n, hn⟩ : ∃ n, l.length = n := ⟨_, rfl⟩
    obtain ⟨m, hm⟩ : ∃ m, ls.length = m := ⟨_, rfl⟩
    rw [hn] at h6 hlm1 ⊢
    rw [hm] at hlm2 ⊢
    clear hn hm sa sb env hc hcm hcn hcb hcbm hcbn
    go_enter Tryd.func5, Tryd.ntmps5
    go_wp2_with fail
    go_ret
    exact ⟨rfl, Below.refl _ _⟩
set_option maxRecDepth 100000 in
theorem recovers6_lifted (os : Os) (started : os.Started) (H : Type) (enc : TypeId × Value → H) :
    ReturnsInHanded {} Tryd.checked os 5 .any (fun w args => (Rows.onetimeRecoversSpec.pre enc Tryd.prog Tryd.f5 Rows.onetimeRecoversRow.domain false w args ∧ laidMet Tryd.prog laidDig w) ∧ sizedMet enc Tryd.prog Tryd.f5 (OpenSpec.ofChange Rows.onetimeRecoversSpec) false w args)
      (Rows.onetimeRecoversSpec.post enc Tryd.prog Tryd.f5 false true false false) := by
  refine returns_laid (C := Tryd.checked) (X := fun w => laidMet Tryd.prog laidDig w) (fun _ _ hh h => h.of_heap hh) Tryd.own started (by kernel_rfl) Tryd.func5
    (ChangeSpec.witness_at (enc := enc) (C := Tryd.checked) (os := os) (X := fun w _ => laidMet Tryd.prog laidDig w) false (laidWorldD os) #[.slice none 0 0, .slice none 0 0] 8 rfl (by kernel_rfl) (by kernel_rfl) (by kernel_rfl) (by kernel_rfl) (by kernel_rfl) (laidWorldD_met os _)) ?_
  intro W base args ds gs before hval0 hW hL hsh
  have hval : ∀ (j : Nat) t v, Tryd.f5.params[j]? = some t → args[j]? = some v → Value.okWide Tryd.prog W .any base t v := hval0
  have env := denv_of_laid hL
  have hW' := hW
  obtain ⟨p, q, hA0, hV, rfl, hfz, hnd⟩ := hW
  have hA : DataW.TrodAll enc Tryd.prog W 0 (fun _ => true) true Tryd.f5.params.toList args.toList ds p := hA0
  rw [Tryd.params5] at hA hval
  obtain ⟨v0, vs0, d0, ds0, p0, q0, hargs, rfl, rfl, h0, r0⟩ := trodAll_cons hA
  obtain ⟨v1, vs1, d1, ds1, p1, q1, rfl, rfl, rfl, h1, r1⟩ := trodAll_cons r0
  obtain ⟨rfl, rfl, rfl⟩ := trodAll_nil r1
  obtain rfl : args = #[v0, v1] := by cases args; simp_all
  obtain ⟨rfl, rfl⟩ := trodVars_none hV
  obtain ⟨A0, l0, c0, rfl, hc0, hm0, hn0, hs0⟩ := open_bytesN (hval 0 33 v0 rfl rfl) h0
  obtain ⟨A1, ls1, c1, rfl, hc1, hm1, hn1, hs1⟩ := open_shorts (hval 1 22 v1 rfl rfl) h1
  refine (recovers6_true l0 A0 c0 ls1 A1 c1 hc0 hm0 hn0 hc1 hm1 hn1 W hs0 hs1 env).mono fun e W' ⟨he, hg⟩ => ?_
  subst he
  exact ⟨_, rfl, law_post Tryd.laidOut (by kernel_rfl) (by kernel_rfl) hW' hg (trodAll_cons_mk (shut_bool Tryd.underlying4 _) trodAll_mk0) rfl rfl⟩
/-- the row -/
theorem recovers6_row : Rows.OnetimeRecoversSaid :=
  OpenClaim.holds_of_wide 5 Tryd.f5 rfl rfl rfl rfl rfl rfl rfl ⟨rfl, rfl, rfl, rfl, rfl⟩ rfl rfl rfl rfl rfl (by kernel_rfl) Tryd.func5 (by kernel_rfl)
    (of_decide_eq_true (by kernel_rfl)) (by unfold Func.isWrapper; rw [if_neg (of_decide_eq_false (by kernel_rfl))]; exact ⟨rfl, rfl⟩)
    (fun os started H enc _ => recovers6_lifted os started H enc)
/-- the statement -/
theorem recovers6_holds : Rows.OnetimeRecoversCardSaid :=
  Claim7.holds_tied_plain_at .later [] [.data, .data] true (true, "40e343a43b00d35708239691a34d580eaa57c938b9af9db3cff3c6339d6703bd") false
    recovers6_row (fun _ h => by cases h) (by kernel_rfl) (fun _ h => by cases h) onetimeRecovers_row_tie rfl ⟨rfl, rfl⟩ (by kernel_rfl) rfl
    (fun f fn hf hfn => by
      obtain rfl : f = 5 := Option.some.inj ((show Tryd.prog.funcNamed "gatepath/gatepathlaw06.OnetimeRecovers" = some 5 by kernel_rfl).symm.trans hf) |>.symm
      obtain rfl : fn = Tryd.f5 := (Option.some.inj (Tryd.func5.symm.trans hfn)).symm
      exact ⟨by kernel_rfl, fun j t ht => by
        rw [Tryd.params5] at ht
        have hp : t = 33 ∨ t = 22 := by
          rcases j with _ | _ | j
          · left; simpa using ht.symm
          · right; simpa using ht.symm
          · simp at ht
        rcases hp with rfl | rfl
        · exact (show Tryd.prog.wantsStandIn 33 = false by kernel_rfl)
        · exact (show Tryd.prog.wantsStandIn 22 = false by kernel_rfl)⟩)
    (by kernel_rfl)
#print axioms recovers6_holds
end Go.Proofs.YtpacfbhofgbhkaaDoor
