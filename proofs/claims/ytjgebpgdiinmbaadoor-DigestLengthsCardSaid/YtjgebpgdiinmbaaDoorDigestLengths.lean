/- DigestLengths, for every input: the lengths of the strings and their characters. Condition: what the row lists of the program's tables (tied by the card). -/
import Derived.Test.YtjgebpgdiinmbaaDoorDigLenM
import Derived.Test.YtjgebpgdiinmbaaDoorLawKit
import Derived.Test.YtjgebpgdiinmbaaDoorCards
namespace Go.Proofs.YtjgebpgdiinmbaaDoor
open Go.ChangeShapes Go.WideShapes Go.ChangeAt Go.RowKit Sha
open Go.WideMaps Go.WideElems
set_option linter.unusedVariables false
set_option linter.unusedSimpArgs false
set_option maxRecDepth 100000 in
set_option maxHeartbeats 4000000 in
theorem lengths_true (l : List UInt8) (A : Option Addr) (c : Nat) (hc : l.length ≤ c) (hcm : c ≤ maxLen) (w : World) (hs : SrcAt A l w) (env : DEnv w) :
    Calls Tryd.prog 8 #[.slice A l.length c] w fun e w' => e = .returned (.bool true) ∧ Below w.heap.size w w' := by
  have hal : ∀ V : World, Below w.heap.size w V → Calls Tryd.prog 15 #[] V fun e w' => e = .returned (.bool true) ∧ Below V.heap.size V w' := fun V hb => alive_any V (env.on hb)
  have hlm : l.length ≤ 9223372036854775807 := by unfold maxLen at hcm; omega
  have AL := Lib.hid hal
  by_cases h2 : l.length ≤ 2000
  · have hhx : ∀ V : World, Below w.heap.size w V → Calls Tryd.prog 21 #[.slice A l.length c] V fun e w' => e = .returned (.string (bs (hexS l))) ∧ Below V.heap.size V w' := fun V hb => hex_any l A c (by omega) hc V (hs.on hb)
    have hbx : ∀ V : World, Below w.heap.size w V → Calls Tryd.prog 12 #[.slice A l.length c] V fun e w' => e = .returned (.string (bs (b64S l))) ∧ Below V.heap.size V w' := fun V hb => b64_any l A c (by omega) hc V (hs.on hb)
    obtain ⟨X, hX⟩ : ∃ X, bs (hexS l) = X := ⟨_, rfl⟩
    obtain ⟨Y, hY⟩ : ∃ Y, bs (b64S l) = Y := ⟨_, rfl⟩
    rw [hX] at hhx
    rw [hY] at hbx
    have hXs : X.size = 2 * l.length := by rw [← hX, bs_size, hexS_len]
    have hYs : Y.size = (l.length + 2) / 3 * 4 := by rw [← hY, bs_size, b64S_len]
    have hXc : ∀ (k : Nat) (h : k < X.size), isHex (X[k]'h) = true := fun k h => by
      subst hX
      rw [bs_at]
      have h2 : k < (hexS l).length := h
      rw [List.getD_eq_getElem?_getD, List.getElem?_eq_getElem h2]
      exact hexS_is l _ (List.getElem_mem h2)
    obtain ⟨Dn, hDn⟩ : ∃ Dn, (b64D l).length = Dn := ⟨_, rfl⟩
    have hpad : Dn + (3 - l.length % 3) % 3 = Y.size := by rw [← hDn, (b64_pads l).2, hYs]
    have hYc : ∀ (k : Nat) (h : k < Y.size), (k < Dn → isB64 (Y[k]'h) = true) ∧ (Dn ≤ k → (Y[k]'h).toNat = 61) := fun k h => by
      subst hY
      rw [bs_at]
      have h2 : k < (b64S l).length := h
      unfold b64S at h2 ⊢
      refine ⟨fun hk => ?_, fun hk => ?_⟩
      · rw [List.getD_eq_getElem?_getD, List.getElem?_append_left (by omega), List.getElem?_eq_getElem (by omega)]
        exact b64D_is l _ (List.getElem_mem _)
      · rw [List.length_append, List.length_replicate] at h2
        rw [List.getD_eq_getElem?_getD, List.getElem?_append_right (by omega), List.getElem?_replicate, if_pos (by omega)]
        rfl
    obtain ⟨n, hn⟩ : ∃ n, l.length = n := ⟨_, rfl⟩
    rw [hn] at hhx hbx h2 hXs hYs hpad hlm ⊢
    have HH := Lib.hid hhx
    have HB := Lib.hid hbx
    have HXC := Lib.hid hXc
    have HYC := Lib.hid hYc
    have HXS := Lib.hid hXs
    have HYS := Lib.hid hYs
    have HPAD := Lib.hid hpad
    have hx1 : ((X.size : Int) != 2 * (n : Int)) = false := by rw [hXs]; simp
    have hy1 : ((Y.size : Int) != ((n : Int) + 2) / 3 * 4) = false := by rw [hYs]; simp
    have hX4 : X.size ≤ 4000 := by omega
    have hY4 : Y.size ≤ 4000 := by omega
    clear hal hhx hbx hXc hYc hXs hYs hpad hX hY hDn hn hs env hc hcm
    go_enter Tryd.func8, Tryd.ntmps8
    go_wp2_with fail
    refine (AL.out _ (Below.refl _ _)).mono ?_
    rintro e w1 ⟨rfl, hb1⟩
    have HB1 := Lib.hid hb1
    clear hb1
    go_wp2_with fail
    refine (HH.out _ HB1.out).mono ?_
    rintro e w2 ⟨rfl, hb2⟩
    have HB2 := Lib.hid (chain HB1.out hb2)
    clear hb2 HB1
    go_wp2_with fail
    refine (HB.out _ HB2.out).mono ?_
    rintro e w3 ⟨rfl, hb3⟩
    have HB3 := Lib.hid (chain HB2.out hb3)
    clear hb3 HB2
    go_wp2_with fail
    go_loop [6] (fun i => ∃ k : Nat, k ≤ X.size ∧ i = .int .i64 (k : Int)) (fun i => X.size - (intOf i).toNat)
    case atStart => exact ⟨0, by omega, rfl⟩
    case round =>
      obtain ⟨k, hk, rfl⟩ := hrel
      by_cases hlt : k < X.size
      · have hki : (k : Int) < (X.size : Int) := by omega
        rcases isHex_iff (HXC.out k hlt) with ⟨a1, a2⟩ | ⟨a0, a1, a2⟩
        · have b1 : (48 : Int) ≤ ((X[k]'hlt).toNat : Int) := by omega
          have b2 : ((X[k]'hlt).toNat : Int) ≤ 57 := by omega
          clear a1 a2
          go_wp2_with fail
          go_round
          case rel => exact ⟨k + 1, by omega, by go_num⟩
          case measure => simp [intOf]; omega
        · have b0 : ¬ ((X[k]'hlt).toNat : Int) ≤ 57 := by omega
          have b3 : (48 : Int) ≤ ((X[k]'hlt).toNat : Int) := by omega
          have b1 : (97 : Int) ≤ ((X[k]'hlt).toNat : Int) := by omega
          have b2 : ((X[k]'hlt).toNat : Int) ≤ 102 := by omega
          clear a0 a1 a2
          go_wp2_with fail
          go_round
          case rel => exact ⟨k + 1, by omega, by go_num⟩
          case measure => simp [intOf]; omega
      · have hge : ¬ ((k : Int) < (X.size : Int)) := by omega
        go_wp2_with fail
        go_loop [7, 8] (fun s i => ∃ k : Nat, k ≤ Y.size ∧ i = .int .i64 (k : Int) ∧ s = .int .i64 ((k - Dn : Nat) : Int)) (fun _ i => Y.size - (intOf i).toNat)
        case atStart => exact ⟨0, by omega, rfl, by simp⟩
        case round =>
          obtain ⟨j, hj, rfl, rfl⟩ := hrel
          by_cases hlt2 : j < Y.size
          · have hji : (j : Int) < (Y.size : Int) := by omega
            obtain ⟨y1, y2⟩ := HYC.out j hlt2
            by_cases hD : j < Dn
            · have hz : j - Dn = 0 := by omega
              rw [hz]
              have hcl := isB64_iff (y1 hD)
              have HZ := Lib.hid hz
              clear y1 y2 hz
              have hne : ((((Y[j]'hlt2).toNat : Int)) == 61) = false := by rw [beq_eq_false_iff_ne]; omega
              rcases hcl with ⟨a1, a2⟩ | ⟨a1, a2⟩ | ⟨a1, a2⟩ | a1 | a1
              · have b1 : (65 : Int) ≤ ((Y[j]'hlt2).toNat : Int) := by omega
                have b2 : ((Y[j]'hlt2).toNat : Int) ≤ 90 := by omega
                clear a1 a2
                go_wp2_with fail
                go_round
                case rel => exact ⟨j + 1, by omega, by go_num, by congr 1; omega⟩
                case measure => simp [intOf]; omega
              · have b1 : (97 : Int) ≤ ((Y[j]'hlt2).toNat : Int) := by omega
                have b2 : ((Y[j]'hlt2).toNat : Int) ≤ 122 := by omega
                clear a1 a2
                go_wp2_with fail
                go_round
                case rel => exact ⟨j + 1, by omega, by go_num, by congr 1; omega⟩
                case measure => simp [intOf]; omega
              · have b1 : (48 : Int) ≤ ((Y[j]'hlt2).toNat : Int) := by omega
                have b2 : ((Y[j]'hlt2).toNat : Int) ≤ 57 := by omega
                clear a1 a2
                go_wp2_with fail
                go_round
                case rel => exact ⟨j + 1, by omega, by go_num, by congr 1; omega⟩
                case measure => simp [intOf]; omega
              · have b1 : (43 : Int) ≤ ((Y[j]'hlt2).toNat : Int) := by omega
                have b2 : ((Y[j]'hlt2).toNat : Int) ≤ 43 := by omega
                have e43 : (((Y[j]'hlt2).toNat : Int) == 43) = true := by rw [a1]; rfl
                clear a1
                go_wp2_with fail
                go_round
                case rel => exact ⟨j + 1, by omega, by go_num, by congr 1; omega⟩
                case measure => simp [intOf]; omega
              · have b1 : (47 : Int) ≤ ((Y[j]'hlt2).toNat : Int) := by omega
                have b2 : ((Y[j]'hlt2).toNat : Int) ≤ 47 := by omega
                have e43 : (((Y[j]'hlt2).toNat : Int) == 43) = false := by rw [a1]; rfl
                have e47 : (((Y[j]'hlt2).toNat : Int) == 47) = true := by rw [a1]; rfl
                clear a1
                go_wp2_with fail
                go_round
                case rel => exact ⟨j + 1, by omega, by go_num, by congr 1; omega⟩
                case measure => simp [intOf]; omega
            · have h61 := y2 (by omega)
              have heq : ((((Y[j]'hlt2).toNat : Int)) == 61) = true := by rw [h61]; rfl
              have hjs : j - Dn ≤ 4000 := by omega
              clear y1 y2 h61
              go_wp2_with fail
              go_round
              case rel => exact ⟨j + 1, by omega, by go_num, by congr 1; omega⟩
              case measure => simp [intOf]; omega
          · have hge2 : ¬ ((j : Int) < (Y.size : Int)) := by omega
            have hjd : ((j - Dn : Nat) : Int) = (3 - (n : Int) % 3) % 3 := by have := HPAD.out; omega
            rw [hjd]
            go_wp2_with fail
            go_ret
            exact ⟨rfl, HB3.out⟩
  · have h6 : (2000 : Int) < (l.length : Int) := by omega
    obtain ⟨n, hn⟩ : ∃ n, l.length = n := ⟨_, rfl⟩
    rw [hn] at h6 hlm ⊢
    clear hal h2 hn hs env hc hcm
    go_enter Tryd.func8, Tryd.ntmps8
    go_wp2_with fail
    refine (AL.out _ (Below.refl _ _)).mono ?_
    rintro e w1 ⟨rfl, hb1⟩
    have HB1 := Lib.hid hb1
    clear hb1
    go_wp2_with fail
    go_ret
    exact ⟨rfl, HB1.out⟩
set_option maxRecDepth 100000 in
theorem lengths_lifted (os : Os) (started : os.Started) (H : Type) (enc : TypeId × Value → H) :
    ReturnsInHanded {} Tryd.checked os 8 .any (fun w args => (Rows.digestLengthsSpec.pre enc Tryd.prog Tryd.f8 Rows.digestLengthsRow.domain false w args ∧ laidMet Tryd.prog laidDig w) ∧ sizedMet enc Tryd.prog Tryd.f8 (OpenSpec.ofChange Rows.digestLengthsSpec) false w args)
      (Rows.digestLengthsSpec.post enc Tryd.prog Tryd.f8 false true false false) := by
  refine returns_laid (C := Tryd.checked) (X := fun w => laidMet Tryd.prog laidDig w) (fun _ _ hh h => h.of_heap hh) Tryd.own started (by kernel_rfl) Tryd.func8
    (ChangeSpec.witness_at (enc := enc) (C := Tryd.checked) (os := os) (X := fun w _ => laidMet Tryd.prog laidDig w) false (laidWorldD os) #[.slice none 0 0] 8 rfl (by kernel_rfl) (by kernel_rfl) (by kernel_rfl) (by kernel_rfl) (by kernel_rfl) (laidWorldD_met os _)) ?_
  intro W base args ds gs before hval0 hW hL hsh
  have hval : ∀ (j : Nat) t v, Tryd.f8.params[j]? = some t → args[j]? = some v → Value.okWide Tryd.prog W .any base t v := hval0
  have env := denv_of_laid hL
  have hW' := hW
  obtain ⟨p, q, hA0, hV, rfl, hfz, hnd⟩ := hW
  have hA : DataW.TrodAll enc Tryd.prog W 0 (fun _ => true) true Tryd.f8.params.toList args.toList ds p := hA0
  rw [Tryd.params8] at hA hval
  obtain ⟨v0, vs0, d0, ds0, p0, q0, hargs, rfl, rfl, h0, r0⟩ := trodAll_cons hA
  obtain ⟨rfl, rfl, rfl⟩ := trodAll_nil r0
  obtain rfl : args = #[v0] := by cases args; simp_all
  obtain ⟨rfl, rfl⟩ := trodVars_none hV
  obtain ⟨A0, l0, c0, rfl, hc0, hm0, hs0⟩ := open_bytes (hval 0 26 v0 rfl rfl) h0
  refine (lengths_true l0 A0 c0 hc0 hm0 W hs0 env).mono fun e W' ⟨he, hg⟩ => ?_
  subst he
  exact ⟨_, rfl, law_post Tryd.laidOut (by kernel_rfl) (by kernel_rfl) hW' hg (trodAll_cons_mk (shut_bool Tryd.underlying4 _) trodAll_mk0) rfl rfl⟩
/-- the row -/
theorem lengths_row : Rows.DigestLengthsSaid :=
  OpenClaim.holds_of_wide 8 Tryd.f8 rfl rfl rfl rfl rfl rfl rfl ⟨rfl, rfl, rfl, rfl, rfl⟩ rfl rfl rfl rfl rfl (by kernel_rfl) Tryd.func8 (by kernel_rfl)
    (of_decide_eq_true (by kernel_rfl)) (by unfold Func.isWrapper; rw [if_neg (of_decide_eq_false (by kernel_rfl))]; exact ⟨rfl, rfl⟩)
    (fun os started H enc _ => lengths_lifted os started H enc)
/-- the statement -/
theorem lengths_holds : Rows.DigestLengthsCardSaid :=
  Claim7.holds_tied_plain_at .later [] [.data, .data] true (true, "b86af4fe130f55cd64608773ec711eb422a857e1c5e1d3a0e74c34bd440be449") false
    lengths_row (fun _ h => by cases h) (by kernel_rfl) (fun _ h => by cases h) digestLengths_row_tie rfl ⟨rfl, rfl⟩ (by kernel_rfl) rfl
    (fun f fn hf hfn => by
      obtain rfl : f = 8 := Option.some.inj ((show Tryd.prog.funcNamed "gatepath/gatepathlaw05.DigestLengths" = some 8 by kernel_rfl).symm.trans hf) |>.symm
      obtain rfl : fn = Tryd.f8 := (Option.some.inj (Tryd.func8.symm.trans hfn)).symm
      exact ⟨by kernel_rfl, fun j t ht => by
        rw [Tryd.params8] at ht
        have hp : t = 26 := by
          rcases j with _ | j
          · simpa using ht.symm
          · simp at ht
        subst hp
        exact (show Tryd.prog.wantsStandIn 26 = false by kernel_rfl)⟩)
    (by kernel_rfl)
#print axioms lengths_holds
end Go.Proofs.YtjgebpgdiinmbaaDoor
