/- DigestTexts: for all bytes and strings, package digest's Hex, FromHex, Base64 and FromBase64 answer as the reference does. No condition. -/
import Derived.Test.YtjgebpgdiinmbaaDigTxE
import Derived.Test.YtjgebpgdiinmbaaLawKit
import Derived.Test.YtjgebpgdiinmbaaRows
namespace Go.Proofs.Ytjgebpgdiinmbaa
open Go.ChangeShapes Go.WideShapes Go.ChangeAt Go.RowKit Sha
open Go.WideMaps Go.WideElems
open Go.ChangeMaps (open_string shut_string)
set_option linter.unusedVariables false
set_option linter.unusedSimpArgs false
/-- what is handed back, as a list that can be read -/
def Rd (R : Option (List UInt8)) (v : Value) (w : World) : Prop := ∃ A c, v = .slice A (R.getD []).length c ∧ (R.getD []).length ≤ c ∧ SrcAt A (R.getD []) w
theorem own_rd {w : World} {base : Nat} {v : Value} {l : List UInt8} (h : w.ownsRow base 5 1 v l.length (bvals l)) : Rd (some l) v w := by
  by_cases hn : v = .slice none 0 0
  · subst hn
    have hl : l = [] := by
      obtain ⟨h1, h | ⟨g, cap, cur, hv, _⟩⟩ := h
      · exact List.length_eq_zero_iff.1 h.2
      · cases hv
    subst hl
    exact ⟨none, 0, rfl, Nat.le_refl _, fun e => absurd rfl e⟩
  · obtain ⟨g, cap, rfl, hg, h1, h2, h3⟩ := own_src h hn
    exact ⟨_, cap, rfl, h1, h3⟩
theorem ownR_rd {w : World} {base : Nat} {v : Value} {R : Option (List UInt8)} (h : OwnR w base v R) : Rd R v w := by
  cases R with
  | none =>
    obtain rfl : v = .slice none 0 0 := h
    exact ⟨none, 0, rfl, Nat.le_refl _, fun e => absurd rfl e⟩
  | some l => exact own_rd h
theorem fh_rd (s : ByteArray) (hs : s.size ≤ 20000) (w : World) :
    Calls Try.prog 4 #[.string s] w fun e w' => ∃ v, e = .returned (.tuple #[v, .int .i64 (erR (rfx s.data.toList))]) ∧ Rd (rfx s.data.toList) v w' ∧ Below w.heap.size w w' := by
  cases h : rfx s.data.toList with
  | none => exact (fh_no s hs (rfx_none h) w).mono fun e w' ⟨he, hb⟩ => ⟨_, he, ⟨none, 0, rfl, Nat.le_refl _, fun e => absurd rfl e⟩, hb⟩
  | some l =>
    obtain ⟨h1, h2⟩ := rfx_some h
    refine (fh_yes s hs h2 w).mono fun e w' ⟨v, he, hown, hnn, hb⟩ => ⟨v, he, ?_, hb⟩
    rw [h1] at hown
    exact own_rd hown
theorem fb_rd (s : ByteArray) (hs : s.size ≤ 20000) (w : World) :
    Calls Try.prog 6 #[.string s] w fun e w' => ∃ v, e = .returned (.tuple #[v, .int .i64 (erR (rfb s.data.toList))]) ∧ Rd (rfb s.data.toList) v w' ∧ Below w.heap.size w w' := by
  cases h : rfb s.data.toList with
  | none => exact (fb_no s hs (rfb_none h) w).mono fun e w' ⟨he, hb⟩ => ⟨_, he, ⟨none, 0, rfl, Nat.le_refl _, fun e => absurd rfl e⟩, hb⟩
  | some l =>
    obtain ⟨h1, h2⟩ := rfb_some h
    refine (fb_yes s hs h2 w).mono fun e w' ⟨v, he, hown, hnn, hb⟩ => ⟨v, he, ?_, hb⟩
    rw [h1] at hown
    exact own_rd hown
theorem rfx_len : ∀ (s l : List UInt8), rfx s = some l → l.length ≤ s.length := fun s l h => by
  have h1 := hex_rfx s l h
  rw [← h1, hexS_len]
  omega
theorem rfb_len : ∀ (s l : List UInt8), rfb s = some l → l.length ≤ s.length := fun s l h => by
  have h1 := b64_rfb s l h
  rw [← h1]
  refine three_rec (P := fun b => b.length ≤ (b64S b).length) (Nat.zero_le _) (fun a => by simp [b64S_one]) (fun a b => by simp [b64S_two]) (fun a b c r ih => by simp only [b64S_three, List.length_cons]; omega) l
theorem getD_len {R : Option (List UInt8)} {n : Nat} (h : ∀ l, R = some l → l.length ≤ n) : (R.getD []).length ≤ n := by
  cases R with
  | none => exact Nat.zero_le _
  | some l => exact h l rfl
theorem keepz {v z w : World} (h : Below v.heap.size v z) (hb : Below z.heap.size z w) : Below v.heap.size v w := chain h hb
set_option maxRecDepth 100000 in
set_option maxHeartbeats 4000000 in
theorem dtexts_true (l : List UInt8) (A : Option Addr) (c : Nat) (s : ByteArray) (hc : l.length ≤ c) (hcm : c ≤ maxLen) (hsz : s.size ≤ maxLen) (w : World) (hs : SrcAt A l w) :
    Calls Try.prog 3 #[.slice A l.length c, .string s] w fun e w' => e = .returned (.bool true) ∧ Below w.heap.size w w' := by
  have hlm : l.length ≤ 9223372036854775807 := by unfold maxLen at hcm; omega
  have hsm : s.size ≤ 9223372036854775807 := by unfold maxLen at hsz; omega
  by_cases h2 : l.length ≤ 2000 ∧ s.size ≤ 2000
  · obtain ⟨h2, h3⟩ := h2
    have hhx : ∀ V : World, Below w.heap.size w V → Calls Try.prog 8 #[.slice A l.length c] V fun e w' => e = .returned (.string (bs (hexS l))) ∧ Below V.heap.size V w' := fun V hb => hex_any l A c (by omega) hc V (hs.on hb)
    have hbx : ∀ V : World, Below w.heap.size w V → Calls Try.prog 10 #[.slice A l.length c] V fun e w' => e = .returned (.string (bs (b64S l))) ∧ Below V.heap.size V w' := fun V hb => b64_any l A c (by omega) hc V (hs.on hb)
    have hrx : ∀ V : World, Below w.heap.size w V → Calls Try.prog 9 #[.slice A l.length c] V fun e w' => e = .returned (.string (bs (hexS l))) ∧ Below V.heap.size V w' := fun V hb => (rhex_any l A c (by omega) hc V (hs.on hb)).mono fun e w' ⟨h1, m, h2⟩ => ⟨h1, by rw [h2]; exact below_drewN (Below.refl _ _) m⟩
    have hrb : ∀ V : World, Below w.heap.size w V → Calls Try.prog 11 #[.slice A l.length c] V fun e w' => e = .returned (.string (bs (b64S l))) ∧ Below V.heap.size V w' := fun V hb => rb64_any l A c (by omega) hc V (hs.on hb)
    have hfh := fun V => fh_rd s (by omega) V
    have hfb := fun V => fb_rd s (by omega) V
    have hrh : ∀ V, Calls Try.prog 5 #[.string s] V fun e w' => ∃ v, e = .returned (.tuple #[v, .int .i64 (erR (rfx s.data.toList))]) ∧ Rd (rfx s.data.toList) v w' ∧ Below V.heap.size V w' := fun V => (rfh_any s (by omega) V).mono fun e w' ⟨v, h1, h2, h3⟩ => ⟨v, h1, ownR_rd h2, h3⟩
    have hrg : ∀ V, Calls Try.prog 7 #[.string s] V fun e w' => ∃ v, e = .returned (.tuple #[v, .int .i64 (erR (rfb s.data.toList))]) ∧ Rd (rfb s.data.toList) v w' ∧ Below V.heap.size V w' := fun V => (rfb_any s (by omega) V).mono fun e w' ⟨v, h1, h2, h3⟩ => ⟨v, h1, ownR_rd h2, h3⟩
    have hL1 : ((rfx s.data.toList).getD []).length ≤ 1000000 := getD_len fun l hl => by have := rfx_len _ _ hl; simp at this; omega
    have hL2 : ((rfb s.data.toList).getD []).length ≤ 1000000 := getD_len fun l hl => by have := rfb_len _ _ hl; simp at this; omega
    obtain ⟨R1, hR1⟩ : ∃ R1, rfx s.data.toList = R1 := ⟨_, rfl⟩
    obtain ⟨R2, hR2⟩ : ∃ R2, rfb s.data.toList = R2 := ⟨_, rfl⟩
    rw [hR1] at hfh hrh hL1
    rw [hR2] at hfb hrg hL2
    have hsame : ∀ (L : List UInt8), L.length ≤ 1000000 → ∀ (V : World) (A1 A2 : Option Addr) (c1 c2 : Nat), L.length ≤ c1 → L.length ≤ c2 → SrcAt A1 L V → SrcAt A2 L V → Calls Try.prog 12 #[.slice A1 L.length c1, .slice A2 L.length c2] V fun e w' => e = .returned (.bool true) ∧ ∃ m, w' = V.drewN m := fun L hL V A1 A2 c1 c2 h1 h2 h3 h4 => same_eq L A1 A2 c1 c2 hL h1 h2 V h3 h4
    obtain ⟨L1, hl1⟩ : ∃ L1, R1.getD [] = L1 := ⟨_, rfl⟩
    obtain ⟨L2, hl2⟩ : ∃ L2, R2.getD [] = L2 := ⟨_, rfl⟩
    obtain ⟨E1, he1⟩ : ∃ E1, erR R1 = E1 := ⟨_, rfl⟩
    obtain ⟨E2, he2⟩ : ∃ E2, erR R2 = E2 := ⟨_, rfl⟩
    unfold Rd at hfh hrh hfb hrg
    rw [hl1] at hfh hrh hL1
    rw [hl2] at hfb hrg hL2
    rw [he1] at hfh hrh
    rw [he2] at hfb hrg
    have hE1 : E1 = 0 ∨ E1 = 12 := by rw [← he1]; cases R1 <;> simp [erR]
    have hE2 : E2 = 0 ∨ E2 = 12 := by rw [← he2]; cases R2 <;> simp [erR]
    obtain ⟨X, hX⟩ : ∃ X, bs (hexS l) = X := ⟨_, rfl⟩
    obtain ⟨Y, hY⟩ : ∃ Y, bs (b64S l) = Y := ⟨_, rfl⟩
    rw [hX] at hhx hrx
    rw [hY] at hbx hrb
    have HH := Lib.hid hhx
    have HBX := Lib.hid hbx
    have RH := Lib.hid hrx
    have RB := Lib.hid hrb
    have FH := Lib.hid hfh
    have FB := Lib.hid hfb
    have GH := Lib.hid hrh
    have GB := Lib.hid hrg
    have SM1 := Lib.hid (hsame L1 hL1)
    have SM2 := Lib.hid (hsame L2 hL2)
    obtain ⟨n, hn⟩ : ∃ n, l.length = n := ⟨_, rfl⟩
    rw [hn] at HH HBX RH RB h2 hlm ⊢
    have qE1 : (E1 == E1) = true := by simp
    have qE2 : (E2 == E2) = true := by simp
    obtain ⟨n1, hn1⟩ : ∃ n1, L1.length = n1 := ⟨_, rfl⟩
    obtain ⟨n2, hn2⟩ : ∃ n2, L2.length = n2 := ⟨_, rfl⟩
    rw [hn1] at FH GH SM1
    rw [hn2] at FB GB SM2
    clear hhx hbx hrx hrb hfh hfb hrh hrg hsame hX hY hn hs hc hcm hsz hR1 hR2 hl1 hl2 he1 he2 hL1 hL2 hE1 hE2 hn1 hn2
    go_enter Try.func3, Try.ntmps3
    go_wp2_with fail
    refine (FH.out _).mono ?_
    rintro e w1 ⟨v1, rfl, ⟨A1, c1, rfl, k1, s1⟩, hb1⟩
    have K1 := Lib.hid k1
    have S1 := Lib.hid s1
    have HB1 := Lib.hid hb1
    clear k1 s1 hb1
    go_wp2_with fail
    refine (GH.out _).mono ?_
    rintro e w2 ⟨v2, rfl, ⟨A2, c2, rfl, k2, s2⟩, hb2⟩
    have K2 := Lib.hid k2
    have S2 := Lib.hid s2
    have S12 := Lib.hid (S1.out.on hb2)
    have HB2 := Lib.hid (chain HB1.out hb2)
    clear k2 s2 hb2 HB1 S1
    go_wp2_with fail
    refine (FB.out _).mono ?_
    rintro e w3 ⟨v3, rfl, ⟨A3, c3, rfl, k3, s3⟩, hb3⟩
    have K3 := Lib.hid k3
    have S3 := Lib.hid s3
    have S13 := Lib.hid (S12.out.on hb3)
    have S23 := Lib.hid (S2.out.on hb3)
    have HB3 := Lib.hid (chain HB2.out hb3)
    clear k3 s3 hb3 HB2 S12 S2
    go_wp2_with fail
    refine (GB.out _).mono ?_
    rintro e w4 ⟨v4, rfl, ⟨A4, c4, rfl, k4, s4⟩, hb4⟩
    have K4 := Lib.hid k4
    have S4 := Lib.hid s4
    have S14 := Lib.hid (S13.out.on hb4)
    have S24 := Lib.hid (S23.out.on hb4)
    have S34 := Lib.hid (S3.out.on hb4)
    have HB4 := Lib.hid (chain HB3.out hb4)
    clear k4 s4 hb4 HB3 S13 S23 S3
    go_wp2_with fail
    refine (HH.out _ HB4.out).mono ?_
    rintro e w5 ⟨rfl, hb5⟩
    have T1 := Lib.hid (S14.out.on hb5)
    have T2 := Lib.hid (S24.out.on hb5)
    have T3 := Lib.hid (S34.out.on hb5)
    have T4 := Lib.hid (S4.out.on hb5)
    have HB5 := Lib.hid (chain HB4.out hb5)
    clear hb5 HB4 S14 S24 S34 S4
    go_wp2_with fail
    refine (RH.out _ HB5.out).mono ?_
    rintro e w6 ⟨rfl, hb6⟩
    have S1 := Lib.hid (T1.out.on hb6)
    have S2 := Lib.hid (T2.out.on hb6)
    have S3 := Lib.hid (T3.out.on hb6)
    have S4 := Lib.hid (T4.out.on hb6)
    have HB6 := Lib.hid (chain HB5.out hb6)
    clear hb6 HB5 T1 T2 T3 T4
    go_wp2_with fail
    refine (HBX.out _ HB6.out).mono ?_
    rintro e w7 ⟨rfl, hb7⟩
    have T1 := Lib.hid (S1.out.on hb7)
    have T2 := Lib.hid (S2.out.on hb7)
    have T3 := Lib.hid (S3.out.on hb7)
    have T4 := Lib.hid (S4.out.on hb7)
    have HB7 := Lib.hid (chain HB6.out hb7)
    clear hb7 HB6 S1 S2 S3 S4
    go_wp2_with fail
    refine (RB.out _ HB7.out).mono ?_
    rintro e w8 ⟨rfl, hb8⟩
    have S1 := Lib.hid (T1.out.on hb8)
    have S2 := Lib.hid (T2.out.on hb8)
    have S3 := Lib.hid (T3.out.on hb8)
    have S4 := Lib.hid (T4.out.on hb8)
    have HB8 := Lib.hid (chain HB7.out hb8)
    clear hb8 HB7 T1 T2 T3 T4
    go_wp2_with fail
    refine (SM1.out w8 A1 A2 c1 c2 K1.out K2.out S1.out S2.out).mono ?_
    rintro e w9 ⟨rfl, m9, hw9⟩
    have T3 : RowKit.Hid (SrcAt A3 L2 w9) := Lib.hid (by rw [hw9]; exact S3.out)
    have T4 : RowKit.Hid (SrcAt A4 L2 w9) := Lib.hid (by rw [hw9]; exact S4.out)
    have HB9 : RowKit.Hid (Below w.heap.size w w9) := Lib.hid (by rw [hw9]; exact below_drewN HB8.out m9)
    clear hw9 HB8 S1 S2 S3 S4
    go_wp2_with fail
    refine (SM2.out w9 A3 A4 c3 c4 K3.out K4.out T3.out T4.out).mono ?_
    rintro e w10 ⟨rfl, m10, hw10⟩
    have HB10 : RowKit.Hid (Below w.heap.size w w10) := Lib.hid (by rw [hw10]; exact below_drewN HB9.out m10)
    clear hw10 HB9 T3 T4
    go_wp2_with fail
    go_ret
    exact ⟨rfl, HB10.out⟩
  · by_cases h3 : l.length ≤ 2000
    · have h4 : ¬ s.size ≤ 2000 := fun e => h2 ⟨h3, e⟩
      obtain ⟨n, hn⟩ : ∃ n, l.length = n := ⟨_, rfl⟩
      rw [hn] at h3 hlm ⊢
      clear h2 hs hn hc hcm
      go_enter Try.func3, Try.ntmps3
      go_wp2_with fail
      go_ret
      exact ⟨rfl, Below.refl _ _⟩
    · obtain ⟨n, hn⟩ : ∃ n, l.length = n := ⟨_, rfl⟩
      rw [hn] at h3 hlm ⊢
      clear h2 hs hn hc hcm
      go_enter Try.func3, Try.ntmps3
      go_wp2_with fail
      go_ret
      exact ⟨rfl, Below.refl _ _⟩
/-! The row -/
set_option maxRecDepth 100000 in
theorem dtexts_lifted (os : Os) (started : os.Started) (H : Type) (enc : TypeId × Value → H) :
    ReturnsInHanded {} Try.checked os 3 .any (Rows.digestTextsSpec.pre6 enc Try.prog Try.f3 Rows.digestTextsRow.domain false) (Rows.digestTextsSpec.post enc Try.prog Try.f3 false true false false) := by
  refine returnsInHanded_of_change (C := Try.checked) Try.own started (by kernel_rfl) Try.func3
    (ChangeSpec.witness6 (enc := enc) (C := Try.checked) false ⟨#[], #[.slice none 0 0, .string ⟨#[]⟩], []⟩ 8 (by kernel_rfl) (by kernel_rfl) (by kernel_rfl) (by kernel_rfl)) ?_
  intro W base args ds gs before hval0 hW hcnd _
  have hval : ∀ (j : Nat) t v, Try.f3.params[j]? = some t → args[j]? = some v → Value.okWide Try.prog W .any base t v := hval0
  have hW' := hW
  obtain ⟨p, q, hA0, hV, rfl, hfz, hnd⟩ := hW
  have hA : DataW.TrodAll enc Try.prog W 0 (fun _ => true) true Try.f3.params.toList args.toList ds p := hA0
  rw [Try.params3] at hA hval
  obtain ⟨v0, vs0, d0, ds0, p0, q0, hargs, rfl, rfl, h0, r0⟩ := trodAll_cons hA
  obtain ⟨v1, vs1, d1, ds1, p1, q1, rfl, rfl, rfl, h1, r1⟩ := trodAll_cons r0
  obtain ⟨rfl, rfl, rfl⟩ := trodAll_nil r1
  obtain rfl : args = #[v0, v1] := by cases args; simp_all
  obtain ⟨rfl, rfl⟩ := trodVars_none hV
  obtain ⟨A0, l0, k0, rfl, hc0, hm0, hs0⟩ := open_bytes (hval 0 22 v0 rfl rfl) h0
  obtain ⟨s1, rfl, e1, f1, z1⟩ := open_string Try.underlying9 (hval 1 9 v1 rfl rfl) h1
  refine (dtexts_true l0 A0 k0 s1 hc0 hm0 z1 W hs0).mono fun e W' ⟨he, hg⟩ => ?_
  subst he
  exact ⟨_, rfl, law_post Try.laidOut (by kernel_rfl) (by kernel_rfl) hW' hg (trodAll_cons_mk (shut_bool Try.underlying4 _) trodAll_mk0) rfl rfl⟩

/-- the statement -/
theorem dtexts_holds : Rows.DigestTextsSaid :=
  OpenClaim.holds_of_wide 3 Try.f3 rfl rfl rfl rfl rfl rfl rfl ⟨rfl, rfl, rfl, rfl, rfl⟩ rfl rfl rfl rfl rfl (by kernel_rfl) Try.func3 (by kernel_rfl)
    (of_decide_eq_true (by kernel_rfl)) (by unfold Func.isWrapper; rw [if_neg (of_decide_eq_false (by kernel_rfl))]; exact ⟨rfl, rfl⟩)
    (fun os started H enc _ => dtexts_lifted os started H enc)
#print axioms dtexts_holds
end Go.Proofs.Ytjgebpgdiinmbaa
