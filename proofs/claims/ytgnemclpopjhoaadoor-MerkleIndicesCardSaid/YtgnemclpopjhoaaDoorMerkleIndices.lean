/- MerkleIndices, for every input: two signatures with indices of one tree have the same root that follows, and the path of one begins with the key of the other, if they are neighbours. Condition: what the row lists of the program's tables (tied by the card). -/
import Derived.Test.YtgnemclpopjhoaaDoorMkIAll
import Derived.Test.YtgnemclpopjhoaaDoorLawKit
import Derived.Test.YtgnemclpopjhoaaDoorCards
namespace Go.Proofs.YtgnemclpopjhoaaDoor
open Go.ChangeShapes Go.WideShapes Go.ChangeAt Go.RowKit Sha Ots
open Go.WideMaps Go.WideElems
set_option linter.unusedVariables false
set_option linter.unusedSimpArgs false
set_option maxRecDepth 100000 in
set_option maxHeartbeats 8000000 in
theorem indices7_true (seed : List UInt8) (hs : seed.length = 16) (h i j : Int) (l : List UInt8) (A : Option Addr) (c : Nat) (hc : l.length ≤ c) (hcm : c ≤ maxLen) (l2 : List UInt8) (A2 : Option Addr) (c2 : Nat) (hc2 : l2.length ≤ c2) (hcm2 : c2 ≤ maxLen) (w : World) (hsrc : SrcAt A l w) (hsrc2 : SrcAt A2 l2 w) (env : DEnv w) :
    Calls Tryd.prog 7 #[.agg (bcells seed), .int .i64 h, .int .i64 i, .int .i64 j, .slice A l.length c, .slice A2 l2.length c2] w fun e w' => e = .returned (.bool true) ∧ Below w.heap.size w w' := by
  have hal : ∀ V : World, Below w.heap.size w V → Calls Tryd.prog 18 #[] V fun e w' => e = .returned (.bool true) ∧ Below V.heap.size V w' := fun V hb => alive7_any V (env.on hb)
  have hlm : l.length ≤ 9223372036854775807 := by unfold maxLen at hcm; omega
  have hlm2 : l2.length ≤ 9223372036854775807 := by unfold maxLen at hcm2; omega
  have AL := Lib.hid hal
  have HSS := Lib.hid (sz16 seed hs)
  clear hal
  by_cases ha : l.length ≤ 2000
  · have h2i : ¬ (2000 : Int) < (l.length : Int) := by omega
    by_cases hbb : l2.length ≤ 2000
    · have h3i : ¬ (2000 : Int) < (l2.length : Int) := by omega
      by_cases hh0 : h < 0
      · obtain ⟨m, hm⟩ : ∃ m, l.length = m := ⟨_, rfl⟩
        obtain ⟨m2, hm2⟩ : ∃ m2, l2.length = m2 := ⟨_, rfl⟩
        rw [hm] at h2i hlm ⊢
        rw [hm2] at h3i hlm2 ⊢
        clear ha hbb
        clear hm hm2 hsrc hsrc2 env hc hcm hc2 hcm2 hs
        go_enter Tryd.func7, Tryd.ntmps7
        go_wp2_with fail
        refine (AL.out _ (below_new _ _)).mono ?_
        rintro e w1 ⟨rfl, hb1⟩
        have HS1 := Lib.hid (row_on (heap_alloc_new w _) hb1)
        have HB1 := Lib.hid (chain (below_new w _) hb1)
        clear hb1
        go_wp2_with fail
        go_ret
        exact ⟨rfl, HB1.out⟩
      · by_cases hh4 : 4 < h
        · obtain ⟨m, hm⟩ : ∃ m, l.length = m := ⟨_, rfl⟩
          obtain ⟨m2, hm2⟩ : ∃ m2, l2.length = m2 := ⟨_, rfl⟩
          rw [hm] at h2i hlm ⊢
          rw [hm2] at h3i hlm2 ⊢
          clear ha hbb
          clear hm hm2 hsrc hsrc2 env hc hcm hc2 hcm2 hs
          go_enter Tryd.func7, Tryd.ntmps7
          go_wp2_with fail
          refine (AL.out _ (below_new _ _)).mono ?_
          rintro e w1 ⟨rfl, hb1⟩
          have HS1 := Lib.hid (row_on (heap_alloc_new w _) hb1)
          have HB1 := Lib.hid (chain (below_new w _) hb1)
          clear hb1
          go_wp2_with fail
          go_ret
          exact ⟨rfl, HB1.out⟩
        · by_cases hi0 : i < 0
          · obtain ⟨m, hm⟩ : ∃ m, l.length = m := ⟨_, rfl⟩
            obtain ⟨m2, hm2⟩ : ∃ m2, l2.length = m2 := ⟨_, rfl⟩
            rw [hm] at h2i hlm ⊢
            rw [hm2] at h3i hlm2 ⊢
            clear ha hbb
            clear hm hm2 hsrc hsrc2 env hc hcm hc2 hcm2 hs
            go_enter Tryd.func7, Tryd.ntmps7
            go_wp2_with fail
            refine (AL.out _ (below_new _ _)).mono ?_
            rintro e w1 ⟨rfl, hb1⟩
            have HS1 := Lib.hid (row_on (heap_alloc_new w _) hb1)
            have HB1 := Lib.hid (chain (below_new w _) hb1)
            clear hb1
            go_wp2_with fail
            go_ret
            exact ⟨rfl, HB1.out⟩
          · obtain ⟨q, rfl⟩ : ∃ q : Nat, h = (q : Int) := ⟨h.toNat, by omega⟩
            have hq4 : q ≤ 4 := by omega
            have hwp0 := wrap_pow7 q hq4
            have hwu := wrap_u647 q hq4
            by_cases hip : ((2 ^ q : Nat) : Int) ≤ i
            · obtain ⟨p, hp⟩ : ∃ p : Int, ((2 ^ q : Nat) : Int) = p := ⟨_, rfl⟩
              obtain ⟨qI, hqI⟩ : ∃ qI : Int, (q : Int) = qI := ⟨_, rfl⟩
              rw [hp, hqI] at hwp0
              rw [hp] at hip
              rw [hqI] at hwu hh0 hh4 ⊢
              have HIP := Lib.hid hip
              clear hp hqI hq4 hip
              have HWP := Lib.hid hwp0
              clear hwp0
              obtain ⟨m, hm⟩ : ∃ m, l.length = m := ⟨_, rfl⟩
              obtain ⟨m2, hm2⟩ : ∃ m2, l2.length = m2 := ⟨_, rfl⟩
              rw [hm] at h2i hlm ⊢
              rw [hm2] at h3i hlm2 ⊢
              clear ha hbb
              clear hm hm2 hsrc hsrc2 env hc hcm hc2 hcm2 hs
              go_enter Tryd.func7, Tryd.ntmps7
              go_wp2_with fail
              refine (AL.out _ (below_new _ _)).mono ?_
              rintro e w1 ⟨rfl, hb1⟩
              have HS1 := Lib.hid (row_on (heap_alloc_new w _) hb1)
              have HB1 := Lib.hid (chain (below_new w _) hb1)
              clear hb1
              go_wp2_with fail
              all_goals first
                | (go_ret
                   exact ⟨rfl, HB1.out⟩)
                | (exfalso
                   have hcc := ‹i < wrap64 ((2 : Int) ^ qI.toNat)›
                   have c4 := hcc
                   rw [HWP.out] at c4
                   exact absurd HIP.out (Int.not_le.2 c4))
            · by_cases hj0 : j < 0
              · obtain ⟨p, hp⟩ : ∃ p : Int, ((2 ^ q : Nat) : Int) = p := ⟨_, rfl⟩
                obtain ⟨qI, hqI⟩ : ∃ qI : Int, (q : Int) = qI := ⟨_, rfl⟩
                rw [hp, hqI] at hwp0
                rw [hp] at hip
                rw [hqI] at hwu hh0 hh4 ⊢
                have HIP := Lib.hid hip
                clear hp hqI hq4 hip
                have HWP := Lib.hid hwp0
                clear hwp0
                obtain ⟨m, hm⟩ : ∃ m, l.length = m := ⟨_, rfl⟩
                obtain ⟨m2, hm2⟩ : ∃ m2, l2.length = m2 := ⟨_, rfl⟩
                rw [hm] at h2i hlm ⊢
                rw [hm2] at h3i hlm2 ⊢
                clear ha hbb
                clear hm hm2 hsrc hsrc2 env hc hcm hc2 hcm2 hs
                go_enter Tryd.func7, Tryd.ntmps7
                go_wp2_with fail
                refine (AL.out _ (below_new _ _)).mono ?_
                rintro e w1 ⟨rfl, hb1⟩
                have HS1 := Lib.hid (row_on (heap_alloc_new w _) hb1)
                have HB1 := Lib.hid (chain (below_new w _) hb1)
                clear hb1
                go_wp2_with fail
                all_goals first
                  | (go_ret
                     exact ⟨rfl, HB1.out⟩)
                  | (exfalso
                     have hcc := ‹i < wrap64 ((2 : Int) ^ qI.toNat)›
                     have c4 := hcc
                     rw [HWP.out] at c4
                     exact absurd HIP.out (Int.not_le.2 c4))
              · by_cases hjp : ((2 ^ q : Nat) : Int) ≤ j
                · obtain ⟨p, hp⟩ : ∃ p : Int, ((2 ^ q : Nat) : Int) = p := ⟨_, rfl⟩
                  obtain ⟨qI, hqI⟩ : ∃ qI : Int, (q : Int) = qI := ⟨_, rfl⟩
                  rw [hp, hqI] at hwp0
                  rw [hp] at hip hjp
                  rw [hqI] at hwu hh0 hh4 ⊢
                  have HIP := Lib.hid hjp
                  clear hp hqI hq4 hjp
                  have HWP := Lib.hid hwp0
                  clear hwp0
                  obtain ⟨m, hm⟩ : ∃ m, l.length = m := ⟨_, rfl⟩
                  obtain ⟨m2, hm2⟩ : ∃ m2, l2.length = m2 := ⟨_, rfl⟩
                  rw [hm] at h2i hlm ⊢
                  rw [hm2] at h3i hlm2 ⊢
                  clear ha hbb
                  clear hm hm2 hsrc hsrc2 env hc hcm hc2 hcm2 hs
                  go_enter Tryd.func7, Tryd.ntmps7
                  go_wp2_with fail
                  refine (AL.out _ (below_new _ _)).mono ?_
                  rintro e w1 ⟨rfl, hb1⟩
                  have HS1 := Lib.hid (row_on (heap_alloc_new w _) hb1)
                  have HB1 := Lib.hid (chain (below_new w _) hb1)
                  clear hb1
                  go_wp2_with fail
                  all_goals first
                    | (go_ret
                       exact ⟨rfl, HB1.out⟩)
                    | (exfalso
                       have hcc := ‹j < wrap64 ((2 : Int) ^ qI.toNat)›
                       have c4 := hcc
                       rw [HWP.out] at c4
                       exact absurd HIP.out (Int.not_le.2 c4))
                · clear hwp0 hwu
                  obtain ⟨a, rfl⟩ : ∃ a : Nat, i = (a : Int) := ⟨i.toNat, by omega⟩
                  obtain ⟨b, rfl⟩ : ∃ b : Nat, j = (b : Int) := ⟨j.toNat, by omega⟩
                  have haq : a < 2 ^ q := by have h9 := Int.not_le.1 hip; exact_mod_cast h9
                  have hbq : b < 2 ^ q := by have h9 := Int.not_le.1 hjp; exact_mod_cast h9
                  by_cases hh1 : a / 2 = b / 2
                  · by_cases hh2 : a = b
                    · exact ind7_same seed hs q a b l A c hc hcm l2 A2 c2 hc2 hcm2 ha hbb hq4 haq hbq hh2 w hsrc hsrc2 env
                    · exact ind7_nei seed hs q a b l A c hc hcm l2 A2 c2 hc2 hcm2 ha hbb hq4 haq hbq hh1 hh2 w hsrc hsrc2 env
                  · exact ind7_far seed hs q a b l A c hc hcm l2 A2 c2 hc2 hcm2 ha hbb hq4 haq hbq hh1 w hsrc hsrc2 env
    · have h6 : (2000 : Int) < (l2.length : Int) := by omega
      obtain ⟨m, hm⟩ : ∃ m, l.length = m := ⟨_, rfl⟩
      obtain ⟨m2, hm2⟩ : ∃ m2, l2.length = m2 := ⟨_, rfl⟩
      rw [hm] at h2i hlm ⊢
      rw [hm2] at h6 hlm2 ⊢
      clear ha hbb
      clear hm hm2 hsrc hsrc2 env hc hcm hc2 hcm2 hs
      go_enter Tryd.func7, Tryd.ntmps7
      go_wp2_with fail
      refine (AL.out _ (below_new _ _)).mono ?_
      rintro e w1 ⟨rfl, hb1⟩
      have HS1 := Lib.hid (row_on (heap_alloc_new w _) hb1)
      have HB1 := Lib.hid (chain (below_new w _) hb1)
      clear hb1
      go_wp2_with fail
      go_ret
      exact ⟨rfl, HB1.out⟩
  · have h6 : (2000 : Int) < (l.length : Int) := by omega
    obtain ⟨m, hm⟩ : ∃ m, l.length = m := ⟨_, rfl⟩
    obtain ⟨m2, hm2⟩ : ∃ m2, l2.length = m2 := ⟨_, rfl⟩
    rw [hm] at h6 hlm ⊢
    rw [hm2] at hlm2 ⊢
    clear ha
    clear hm hm2 hsrc hsrc2 env hc hcm hc2 hcm2 hs
    go_enter Tryd.func7, Tryd.ntmps7
    go_wp2_with fail
    refine (AL.out _ (below_new _ _)).mono ?_
    rintro e w1 ⟨rfl, hb1⟩
    have HS1 := Lib.hid (row_on (heap_alloc_new w _) hb1)
    have HB1 := Lib.hid (chain (below_new w _) hb1)
    clear hb1
    go_wp2_with fail
    go_ret
    exact ⟨rfl, HB1.out⟩
set_option maxRecDepth 100000 in
theorem indices7_lifted (os : Os) (started : os.Started) (H : Type) (enc : TypeId × Value → H) :
    ReturnsInHanded {} Tryd.checked os 7 .any (fun w args => (Rows.merkleIndicesSpec.pre enc Tryd.prog Tryd.f7 Rows.merkleIndicesRow.domain false w args ∧ laidMet Tryd.prog laidDig w) ∧ sizedMet enc Tryd.prog Tryd.f7 (OpenSpec.ofChange Rows.merkleIndicesSpec) false w args)
      (Rows.merkleIndicesSpec.post enc Tryd.prog Tryd.f7 false true false false) := by
  refine returns_laid (C := Tryd.checked) (X := fun w => laidMet Tryd.prog laidDig w) (fun _ _ hh h => h.of_heap hh) Tryd.own started (by kernel_rfl) Tryd.func7
    (ChangeSpec.witness_at (enc := enc) (C := Tryd.checked) (os := os) (X := fun w _ => laidMet Tryd.prog laidDig w) false (laidWorldD os) #[.agg #[.int .u8 0, .int .u8 0, .int .u8 0, .int .u8 0, .int .u8 0, .int .u8 0, .int .u8 0, .int .u8 0, .int .u8 0, .int .u8 0, .int .u8 0, .int .u8 0, .int .u8 0, .int .u8 0, .int .u8 0, .int .u8 0], .int .i64 0, .int .i64 0, .int .i64 0, .slice none 0 0, .slice none 0 0] 8 rfl (by kernel_rfl) (by kernel_rfl) (by kernel_rfl) (by kernel_rfl) (by kernel_rfl) (laidWorldD_met os _)) ?_
  intro W base args ds gs before hval0 hW hL hsh
  have hval : ∀ (j : Nat) t v, Tryd.f7.params[j]? = some t → args[j]? = some v → Value.okWide Tryd.prog W .any base t v := hval0
  have env := denv_of_laid hL
  have hW' := hW
  obtain ⟨p, q, hA0, hV, rfl, hfz, hnd⟩ := hW
  have hA : DataW.TrodAll enc Tryd.prog W 0 (fun _ => true) true Tryd.f7.params.toList args.toList ds p := hA0
  rw [Tryd.params7] at hA hval
  obtain ⟨v0, vs0, d0, ds0, p0, q0, hargs, rfl, rfl, h0, r0⟩ := trodAll_cons hA
  obtain ⟨v1, vs1, d1, ds1, p1, q1, rfl, rfl, rfl, h1, r1⟩ := trodAll_cons r0
  obtain ⟨v2, vs2, d2, ds2, p2, q2, rfl, rfl, rfl, h2, r2⟩ := trodAll_cons r1
  obtain ⟨v3, vs3, d3, ds3, p3, q3, rfl, rfl, rfl, h3, r3⟩ := trodAll_cons r2
  obtain ⟨v4, vs4, d4, ds4, p4, q4, rfl, rfl, rfl, h4, r4⟩ := trodAll_cons r3
  obtain ⟨v5, vs5, d5, ds5, p5, q5, rfl, rfl, rfl, h5, r5⟩ := trodAll_cons r4
  obtain ⟨rfl, rfl, rfl⟩ := trodAll_nil r5
  obtain rfl : args = #[v0, v1, v2, v3, v4, v5] := by cases args; simp_all
  obtain ⟨rfl, rfl⟩ := trodVars_none hV
  obtain ⟨l0, g0, rfl⟩ := open_short (hval 0 23 v0 rfl rfl) h0
  obtain ⟨a1, rfl, e1, f1, w1⟩ := open_int Tryd.underlying3 (hval 1 3 v1 rfl rfl) h1
  obtain ⟨a2, rfl, e2, f2, w2⟩ := open_int Tryd.underlying3 (hval 2 3 v2 rfl rfl) h2
  obtain ⟨a3, rfl, e3, f3, w3⟩ := open_int Tryd.underlying3 (hval 3 3 v3 rfl rfl) h3
  obtain ⟨A4, l4, c4, rfl, hc4, hm4, hs4⟩ := open_bytes (hval 4 42 v4 rfl rfl) h4
  obtain ⟨A5, l5, c5, rfl, hc5, hm5, hs5⟩ := open_bytes (hval 5 42 v5 rfl rfl) h5
  refine (indices7_true l0 g0 a1 a2 a3 l4 A4 c4 hc4 hm4 l5 A5 c5 hc5 hm5 W hs4 hs5 env).mono fun e W' ⟨he, hg⟩ => ?_
  subst he
  exact ⟨_, rfl, law_post Tryd.laidOut (by kernel_rfl) (by kernel_rfl) hW' hg (trodAll_cons_mk (shut_bool Tryd.underlying4 _) trodAll_mk0) rfl rfl⟩
/-- the row -/
theorem indices7_row : Rows.MerkleIndicesSaid :=
  OpenClaim.holds_of_wide 7 Tryd.f7 rfl rfl rfl rfl rfl rfl rfl ⟨rfl, rfl, rfl, rfl, rfl⟩ rfl rfl rfl rfl rfl (by kernel_rfl) Tryd.func7 (by kernel_rfl)
    (of_decide_eq_true (by kernel_rfl)) (by unfold Func.isWrapper; rw [if_neg (of_decide_eq_false (by kernel_rfl))]; exact ⟨rfl, rfl⟩)
    (fun os started H enc _ => indices7_lifted os started H enc)
/-- the statement -/
theorem indices7_holds : Rows.MerkleIndicesCardSaid :=
  Claim7.holds_tied_plain_at .later [] [.data, .data] true (true, "5c5ef3e3a029439297996ab8412620a6e742b6df2095b9fbc6f4dac02e25c51a") false
    indices7_row (fun _ h => by cases h) (by kernel_rfl) (fun _ h => by cases h) merkleIndices_row_tie rfl ⟨rfl, rfl⟩ (by kernel_rfl) rfl
    (fun f fn hf hfn => by
      obtain rfl : f = 7 := Option.some.inj ((show Tryd.prog.funcNamed "gatepath/gatepathlaw07.MerkleIndices" = some 7 by kernel_rfl).symm.trans hf) |>.symm
      obtain rfl : fn = Tryd.f7 := (Option.some.inj (Tryd.func7.symm.trans hfn)).symm
      exact ⟨by kernel_rfl, fun j t ht => by
        rw [Tryd.params7] at ht
        have hp : t = 23 ∨ t = 3 ∨ t = 42 := by
          rcases j with _ | _ | _ | _ | _ | _ | j
          · left; simpa using ht.symm
          · right; left; simpa using ht.symm
          · right; left; simpa using ht.symm
          · right; left; simpa using ht.symm
          · right; right; simpa using ht.symm
          · right; right; simpa using ht.symm
          · simp at ht
        rcases hp with rfl | rfl | rfl
        · exact (show Tryd.prog.wantsStandIn 23 = false by kernel_rfl)
        · exact (show Tryd.prog.wantsStandIn 3 = false by kernel_rfl)
        · exact (show Tryd.prog.wantsStandIn 42 = false by kernel_rfl)⟩)
    (by kernel_rfl)
#print axioms indices7_holds
end Go.Proofs.YtgnemclpopjhoaaDoor
