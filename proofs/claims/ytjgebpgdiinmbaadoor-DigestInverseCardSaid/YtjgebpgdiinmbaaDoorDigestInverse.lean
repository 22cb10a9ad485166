/- DigestInverse, for every input: strings and bytes are inverse. Condition: what the row lists of the program's tables (tied by the card). -/
import Derived.Test.YtjgebpgdiinmbaaDoorDigW
import Derived.Test.YtjgebpgdiinmbaaDoorLawKit
import Derived.Test.YtjgebpgdiinmbaaDoorCards
namespace Go.Proofs.YtjgebpgdiinmbaaDoor
open Go.ChangeShapes Go.WideShapes Go.ChangeAt Go.RowKit Sha
open Go.WideMaps Go.WideElems
open Go.ChangeMaps (open_string shut_string)
set_option linter.unusedVariables false
set_option linter.unusedSimpArgs false
/-- what FromHex, FromBase64 hand back: an error, or bytes with just this string -/
def Back (tf : Nat) (s : ByteArray) (v : Value) (g : Int) (w : World) : Prop :=
  g = 12 ∨ (g = 0 ∧ ∃ A n c, v = .slice A n c ∧ ∀ V, Below w.heap.size w V → Calls Tryd.prog tf #[.slice A n c] V fun e w' => e = .returned (.string s) ∧ Below V.heap.size V w')
theorem fh_back (s : ByteArray) (hs : s.size ≤ 20000) (w : World) :
    Calls Tryd.prog 14 #[.string s] w fun e w' => ∃ v g, e = .returned (.tuple #[v, .int .i64 g]) ∧ Back 21 s v g w' ∧ Below w.heap.size w w' := by
  by_cases h : bs (hexS (undX s)) = s
  · refine (fh_yes s hs h w).mono fun e w' ⟨v, he, hown, hnn, hb⟩ => ⟨v, 0, he, Or.inr ⟨rfl, ?_⟩, hb⟩
    obtain ⟨g, cap, rfl, hg, h1, h2, h3⟩ := own_src hown hnn
    refine ⟨_, _, _, rfl, fun V hV => ?_⟩
    have hx := hex_any (undX s) (some ⟨g, 0, none⟩) cap (by have := undX_len s; omega) h1 V (h3.on hV)
    rw [h] at hx
    exact hx
  · exact (fh_no s hs h w).mono fun e w' ⟨he, hb⟩ => ⟨_, 12, he, Or.inl rfl, hb⟩
theorem fb_back (s : ByteArray) (hs : s.size ≤ 20000) (w : World) :
    Calls Tryd.prog 13 #[.string s] w fun e w' => ∃ v g, e = .returned (.tuple #[v, .int .i64 g]) ∧ Back 12 s v g w' ∧ Below w.heap.size w w' := by
  by_cases h : bs (b64S (undB s)) = s
  · refine (fb_yes s hs h w).mono fun e w' ⟨v, he, hown, hnn, hb⟩ => ⟨v, 0, he, Or.inr ⟨rfl, ?_⟩, hb⟩
    obtain ⟨g, cap, rfl, hg, h1, h2, h3⟩ := own_src hown hnn
    refine ⟨_, _, _, rfl, fun V hV => ?_⟩
    have hx := b64_any (undB s) (some ⟨g, 0, none⟩) cap (by have := undB_len s; omega) h1 V (h3.on hV)
    rw [h] at hx
    exact hx
  · exact (fb_no s hs h w).mono fun e w' ⟨he, hb⟩ => ⟨_, 12, he, Or.inl rfl, hb⟩
set_option maxRecDepth 100000 in
set_option maxHeartbeats 4000000 in
theorem inverse_true (l : List UInt8) (A : Option Addr) (c : Nat) (s : ByteArray) (hc : l.length ≤ c) (hcm : c ≤ maxLen) (hsz : s.size ≤ maxLen) (w : World) (hs : SrcAt A l w) (env : DEnv w) :
    Calls Tryd.prog 7 #[.slice A l.length c, .string s] w fun e w' => e = .returned (.bool true) ∧ Below w.heap.size w w' := by
  have hal : ∀ V : World, Below w.heap.size w V → Calls Tryd.prog 15 #[] V fun e w' => e = .returned (.bool true) ∧ Below V.heap.size V w' := fun V hb => alive_any V (env.on hb)
  have hlm : l.length ≤ 9223372036854775807 := by unfold maxLen at hcm; omega
  have hsm : s.size ≤ 9223372036854775807 := by unfold maxLen at hsz; omega
  have AL := Lib.hid hal
  by_cases h2 : l.length ≤ 2000 ∧ s.size ≤ 2000
  · obtain ⟨h2, h3⟩ := h2
    have hhx : ∀ V : World, Below w.heap.size w V → Calls Tryd.prog 21 #[.slice A l.length c] V fun e w' => e = .returned (.string (bs (hexS l))) ∧ Below V.heap.size V w' := fun V hb => hex_any l A c (by omega) hc V (hs.on hb)
    have hbx : ∀ V : World, Below w.heap.size w V → Calls Tryd.prog 12 #[.slice A l.length c] V fun e w' => e = .returned (.string (bs (b64S l))) ∧ Below V.heap.size V w' := fun V hb => b64_any l A c (by omega) hc V (hs.on hb)
    have hfh : ∀ V : World, Calls Tryd.prog 14 #[.string (bs (hexS l))] V fun e w' => ∃ v, e = .returned (.tuple #[v, .int .i64 0]) ∧ w'.ownsRow V.heap.size 5 1 v l.length (bvals l) ∧ v ≠ .slice none 0 0 ∧ Below V.heap.size V w' := fun V => by
      have h := fh_yes (bs (hexS l)) (by rw [bs_size, hexS_len]; omega) (by rw [undX_back]) V
      rw [undX_back] at h
      exact h
    have hfb : ∀ V : World, Calls Tryd.prog 13 #[.string (bs (b64S l))] V fun e w' => ∃ v, e = .returned (.tuple #[v, .int .i64 0]) ∧ w'.ownsRow V.heap.size 5 1 v l.length (bvals l) ∧ v ≠ .slice none 0 0 ∧ Below V.heap.size V w' := fun V => by
      have h := fb_yes (bs (b64S l)) (by rw [bs_size, b64S_len]; omega) (by rw [undB_back]) V
      rw [undB_back] at h
      exact h
    have hsame : ∀ (V : World) (g cap : Nat), Below w.heap.size w V → l.length ≤ cap → SrcAt (some ⟨g, 0, none⟩) l V → Calls Tryd.prog 16 #[.slice (some ⟨g, 0, none⟩) l.length cap, .slice A l.length c] V fun e w' => e = .returned (.bool true) ∧ ∃ m, w' = V.drewN m := fun V g cap hb h1 h2 =>
      same_eq l (some ⟨g, 0, none⟩) A cap c (by omega) h1 hc V h2 (hs.on hb)
    obtain ⟨X, hX⟩ : ∃ X, bs (hexS l) = X := ⟨_, rfl⟩
    obtain ⟨Y, hY⟩ : ∃ Y, bs (b64S l) = Y := ⟨_, rfl⟩
    rw [hX] at hhx hfh
    rw [hY] at hbx hfb
    have HH := Lib.hid hhx
    have HB := Lib.hid hbx
    have FH := Lib.hid hfh
    have FB := Lib.hid hfb
    have SM := Lib.hid hsame
    have BH := Lib.hid (fun V => fh_back s (by omega) V)
    have BB := Lib.hid (fun V => fb_back s (by omega) V)
    obtain ⟨n, hn⟩ : ∃ n, l.length = n := ⟨_, rfl⟩
    have HLN := Lib.hid hn
    rw [hn] at HH HB FH FB SM h2 hlm ⊢
    clear hal hhx hbx hfh hfb hsame hX hY hn hs env hc hcm hsz
    go_enter Tryd.func7, Tryd.ntmps7
    go_wp2_with fail
    refine (AL.out _ (Below.refl _ _)).mono ?_
    rintro e w1 ⟨rfl, hb1⟩
    have HB1 := Lib.hid hb1
    clear hb1
    go_wp2_with fail
    refine (HH.out _ HB1.out).mono ?_
    rintro e w2 ⟨rfl, hb2⟩
    have HB2 := Lib.hid (chain HB1.out hb2)
    clear hb2 HB1
    go_wp2_with fail
    refine (FH.out _).mono ?_
    rintro e w3 ⟨v3, rfl, hown3, hnn3, hb3⟩
    rw [← HLN.out] at hown3
    obtain ⟨g3, k3, rfl, _, hk3, _, hs3⟩ := own_src hown3 hnn3
    have HB3 := Lib.hid (chain HB2.out hb3)
    have HK3 := Lib.hid hk3
    have HS3 := Lib.hid hs3
    clear hb3 HB2 hown3 hnn3 hk3 hs3
    go_wp2_with fail
    refine (HB.out _ HB3.out).mono ?_
    rintro e w4 ⟨rfl, hb4⟩
    have HS4 := Lib.hid (HS3.out.on hb4)
    have HB4 := Lib.hid (chain HB3.out hb4)
    clear hb4 HB3 HS3
    go_wp2_with fail
    refine (FB.out _).mono ?_
    rintro e w5 ⟨v5, rfl, hown5, hnn5, hb5⟩
    rw [← HLN.out] at hown5
    obtain ⟨g5, k5, rfl, _, hk5, _, hs5⟩ := own_src hown5 hnn5
    have HB5 := Lib.hid (chain HB4.out hb5)
    have HS45 := Lib.hid (HS4.out.on hb5)
    have HK5 := Lib.hid hk5
    have HS5 := Lib.hid hs5
    clear hb5 HB4 hown5 hnn5 hk5 hs5 HS4
    go_wp2_with fail
    have S1 := Lib.hid (SM.out w5 g3 k3 HB5.out (by rw [← HLN.out]; exact HK3.out) HS45.out)
    have S2 := Lib.hid (fun m => SM.out (w5.drewN m) g5 k5 (below_drewN HB5.out m) (by rw [← HLN.out]; exact HK5.out) HS5.out)
    try rw [HLN.out]
    refine S1.out.mono ?_
    rintro e w6 ⟨rfl, m6, hw6⟩
    subst hw6
    go_wp2_with fail
    try rw [HLN.out]
    refine (S2.out m6).mono ?_
    rintro e w7 ⟨rfl, m7, hw7⟩
    have HB7 : RowKit.Hid (Below w.heap.size w w7) := Lib.hid (by rw [hw7]; exact below_drewN (below_drewN HB5.out m6) m7)
    clear hw7
    go_wp2_with fail
    refine (BH.out _).mono ?_
    rintro e w8 ⟨v8, e8, rfl, hbk8, hb8⟩
    have HBK8 := Lib.hid hbk8
    have HB8 := Lib.hid (chain HB7.out hb8)
    clear hbk8 hb8 HB7
    go_wp2_with fail
    refine (BB.out _).mono ?_
    rintro e w9 ⟨v9, e9, rfl, hbk9, hb9⟩
    have HBK9 := Lib.hid hbk9
    have HB89 := Lib.hid hb9
    have HB9 := Lib.hid (chain HB8.out hb9)
    clear hbk9 hb9 HB8
    rcases HBK8.out with rfl | ⟨rfl, A8, n8, c8, rfl, hx8⟩
    · rcases HBK9.out with rfl | ⟨rfl, A9, n9, c9, rfl, hx9⟩
      · go_wp2_with fail
        go_ret
        exact ⟨rfl, HB9.out⟩
      · have X9 := Lib.hid hx9
        clear hx9
        go_wp2_with fail
        refine (X9.out _ (Below.refl _ _)).mono ?_
        rintro e w10 ⟨rfl, hb10⟩
        have HB10 := Lib.hid (chain HB9.out hb10)
        clear hb10
        go_wp2_with fail
        go_ret
        exact ⟨rfl, HB10.out⟩
    · have X8 := Lib.hid hx8
      clear hx8
      rcases HBK9.out with rfl | ⟨rfl, A9, n9, c9, rfl, hx9⟩
      · go_wp2_with fail
        refine (X8.out _ HB89.out).mono ?_
        rintro e w10 ⟨rfl, hb10⟩
        have HB10 := Lib.hid (chain HB9.out hb10)
        clear hb10
        go_wp2_with fail
        go_ret
        exact ⟨rfl, HB10.out⟩
      · have X9 := Lib.hid hx9
        clear hx9
        go_wp2_with fail
        refine (X8.out _ HB89.out).mono ?_
        rintro e w10 ⟨rfl, hb10⟩
        have HB10 := Lib.hid (chain HB9.out hb10)
        have HB910 := Lib.hid hb10
        clear hb10
        go_wp2_with fail
        refine (X9.out _ HB910.out).mono ?_
        rintro e w11 ⟨rfl, hb11⟩
        have HB11 := Lib.hid (chain HB10.out hb11)
        clear hb11
        go_wp2_with fail
        go_ret
        exact ⟨rfl, HB11.out⟩
  · obtain ⟨n, hn⟩ : ∃ n, l.length = n := ⟨_, rfl⟩
    rw [hn] at h2 hlm ⊢
    clear hal hn hs env hc hcm hsz
    by_cases h4 : n ≤ 2000
    · have h5 : (2000 : Int) < (s.size : Int) := by omega
      have h4i : ¬ (2000 : Int) < (n : Int) := by omega
      clear h2
      go_enter Tryd.func7, Tryd.ntmps7
      go_wp2_with fail
      refine (AL.out _ (Below.refl _ _)).mono ?_
      rintro e w1 ⟨rfl, hb1⟩
      have HB1 := Lib.hid hb1
      clear hb1
      go_wp2_with fail
      go_ret
      exact ⟨rfl, HB1.out⟩
    · have h5 : (2000 : Int) < (n : Int) := by omega
      clear h2
      go_enter Tryd.func7, Tryd.ntmps7
      go_wp2_with fail
      refine (AL.out _ (Below.refl _ _)).mono ?_
      rintro e w1 ⟨rfl, hb1⟩
      have HB1 := Lib.hid hb1
      clear hb1
      go_wp2_with fail
      go_ret
      exact ⟨rfl, HB1.out⟩
set_option maxRecDepth 100000 in
theorem inverse_lifted (os : Os) (started : os.Started) (H : Type) (enc : TypeId × Value → H) :
    ReturnsInHanded {} Tryd.checked os 7 .any (fun w args => (Rows.digestInverseSpec.pre enc Tryd.prog Tryd.f7 Rows.digestInverseRow.domain false w args ∧ laidMet Tryd.prog laidDig w) ∧ sizedMet enc Tryd.prog Tryd.f7 (OpenSpec.ofChange Rows.digestInverseSpec) false w args)
      (Rows.digestInverseSpec.post enc Tryd.prog Tryd.f7 false true false false) := by
  refine returns_laid (C := Tryd.checked) (X := fun w => laidMet Tryd.prog laidDig w) (fun _ _ hh h => h.of_heap hh) Tryd.own started (by kernel_rfl) Tryd.func7
    (ChangeSpec.witness_at (enc := enc) (C := Tryd.checked) (os := os) (X := fun w _ => laidMet Tryd.prog laidDig w) false (laidWorldD os) #[.slice none 0 0, .string ⟨#[]⟩] 8 rfl (by kernel_rfl) (by kernel_rfl) (by kernel_rfl) (by kernel_rfl) (by kernel_rfl) (laidWorldD_met os _)) ?_
  intro W base args ds gs before hval0 hW hL hsh
  have hval : ∀ (j : Nat) t v, Tryd.f7.params[j]? = some t → args[j]? = some v → Value.okWide Tryd.prog W .any base t v := hval0
  have env := denv_of_laid hL
  have hW' := hW
  obtain ⟨p, q, hA0, hV, rfl, hfz, hnd⟩ := hW
  have hA : DataW.TrodAll enc Tryd.prog W 0 (fun _ => true) true Tryd.f7.params.toList args.toList ds p := hA0
  rw [Tryd.params7] at hA hval
  obtain ⟨v0, vs0, d0, ds0, p0, q0, hargs, rfl, rfl, h0, r0⟩ := trodAll_cons hA
  obtain ⟨v1, vs1, d1, ds1, p1, q1, rfl, rfl, rfl, h1, r1⟩ := trodAll_cons r0
  obtain ⟨rfl, rfl, rfl⟩ := trodAll_nil r1
  obtain rfl : args = #[v0, v1] := by cases args; simp_all
  obtain ⟨rfl, rfl⟩ := trodVars_none hV
  obtain ⟨A0, l0, c0, rfl, hc0, hm0, hs0⟩ := open_bytes (hval 0 26 v0 rfl rfl) h0
  obtain ⟨s1, rfl, e1, f1, z1⟩ := open_string Tryd.underlying9 (hval 1 9 v1 rfl rfl) h1
  refine (inverse_true l0 A0 c0 s1 hc0 hm0 z1 W hs0 env).mono fun e W' ⟨he, hg⟩ => ?_
  subst he
  exact ⟨_, rfl, law_post Tryd.laidOut (by kernel_rfl) (by kernel_rfl) hW' hg (trodAll_cons_mk (shut_bool Tryd.underlying4 _) trodAll_mk0) rfl rfl⟩
/-- the row -/
theorem inverse_row : Rows.DigestInverseSaid :=
  OpenClaim.holds_of_wide 7 Tryd.f7 rfl rfl rfl rfl rfl rfl rfl ⟨rfl, rfl, rfl, rfl, rfl⟩ rfl rfl rfl rfl rfl (by kernel_rfl) Tryd.func7 (by kernel_rfl)
    (of_decide_eq_true (by kernel_rfl)) (by unfold Func.isWrapper; rw [if_neg (of_decide_eq_false (by kernel_rfl))]; exact ⟨rfl, rfl⟩)
    (fun os started H enc _ => inverse_lifted os started H enc)
/-- the statement -/
theorem inverse_holds : Rows.DigestInverseCardSaid :=
  Claim7.holds_tied_plain_at .later [] [.data, .data] true (true, "b86af4fe130f55cd64608773ec711eb422a857e1c5e1d3a0e74c34bd440be449") false
    inverse_row (fun _ h => by cases h) (by kernel_rfl) (fun _ h => by cases h) digestInverse_row_tie rfl ⟨rfl, rfl⟩ (by kernel_rfl) rfl
    (fun f fn hf hfn => by
      obtain rfl : f = 7 := Option.some.inj ((show Tryd.prog.funcNamed "gatepath/gatepathlaw05.DigestInverse" = some 7 by kernel_rfl).symm.trans hf) |>.symm
      obtain rfl : fn = Tryd.f7 := (Option.some.inj (Tryd.func7.symm.trans hfn)).symm
      exact ⟨by kernel_rfl, fun j t ht => by
        rw [Tryd.params7] at ht
        have hp : t = 26 ∨ t = 9 := by
          rcases j with _ | _ | j
          · left; simpa using ht.symm
          · right; simpa using ht.symm
          · simp at ht
        rcases hp with rfl | rfl
        · exact (show Tryd.prog.wantsStandIn 26 = false by kernel_rfl)
        · exact (show Tryd.prog.wantsStandIn 9 = false by kernel_rfl)⟩)
    (by kernel_rfl)
#print axioms inverse_holds
end Go.Proofs.YtjgebpgdiinmbaaDoor
