/- NumberTexts: for every address, prefix, number and string, package number's AddrText, AddrParse, Text, Parse, AsText and AsParse answer as the reference does. For every input. -/
import Derived.Test.YtlikgfmcialepaaGreatDoorTxRefQ
import Derived.Test.YtlikgfmcialepaaGreatDoorAsText
import Derived.Test.YtlikgfmcialepaaGreatDoorTextI
import Derived.Test.YtlikgfmcialepaaGreatDoorDoorWrap
import Derived.Test.YtlikgfmcialepaaGreatDoorLawKit
import Derived.Test.YtlikgfmcialepaaGreatDoorCards
namespace Go.Proofs.YtlikgfmcialepaaGreatDoor
open Go.RowKit Adr
set_option linter.unusedVariables false
set_option linter.unusedSimpArgs false
set_option maxRecDepth 100000 in
set_option maxHeartbeats 8000000 in
theorem texts_core (f H L pf ph pl pn an : Int) (s : ByteArray) (w : World) (env : Env true w) (hs : s.size ≤ 1000)
    (X1 X2 X3 : ByteArray) (E1 E2 af ah al ae rf rh rl rn re m me : Int)
    (h1 : ∀ w, Env true w → Calls Tryz.prog 5 #[.int .u8 f, .agg #[.int .u64 H, .int .u64 L]] w fun e w' => e = .returned (.tuple #[.string X1, .int .i64 E1]) ∧ Below w.heap.size w w')
    (h2 : ∀ w, Calls Tryz.prog 6 #[.int .u8 f, .agg #[.int .u64 H, .int .u64 L]] w fun e w' => e = .returned (.tuple #[.string X1, .int .i64 E1]) ∧ Below w.heap.size w w')
    (h3 : ∀ w, Env true w → Calls Tryz.prog 7 #[.string s] w fun e w' => e = .returned (.tuple #[.int .u8 af, .agg #[.int .u64 ah, .int .u64 al], .int .i64 ae]) ∧ Below w.heap.size w w')
    (h4 : ∀ w, Calls Tryz.prog 8 #[.string s] w fun e w' => e = .returned (.tuple #[.int .u8 af, .agg #[.int .u64 ah, .int .u64 al], .int .i64 ae]) ∧ Below w.heap.size w w')
    (h5 : ∀ w, Env true w → Calls Tryz.prog 9 #[.agg #[.int .u8 pf, .int .u64 ph, .int .u64 pl, .int .i64 pn]] w fun e w' => e = .returned (.tuple #[.string X2, .int .i64 E2]) ∧ Below w.heap.size w w')
    (h6 : ∀ w, Calls Tryz.prog 10 #[.agg #[.int .u8 pf, .int .u64 ph, .int .u64 pl, .int .i64 pn]] w fun e w' => e = .returned (.tuple #[.string X2, .int .i64 E2]) ∧ Below w.heap.size w w')
    (h7 : ∀ w, Env true w → Calls Tryz.prog 11 #[.string s] w fun e w' => e = .returned (.tuple #[.agg #[.int .u8 rf, .int .u64 rh, .int .u64 rl, .int .i64 rn], .int .i64 re]) ∧ Below w.heap.size w w')
    (h8 : ∀ w, Calls Tryz.prog 12 #[.string s] w fun e w' => e = .returned (.tuple #[.agg #[.int .u8 rf, .int .u64 rh, .int .u64 rl, .int .i64 rn], .int .i64 re]) ∧ Below w.heap.size w w')
    (h9 : ∀ w, Env true w → Calls Tryz.prog 13 #[.string s] w fun e w' => e = .returned (.tuple #[.int .u32 m, .int .i64 me]) ∧ Below w.heap.size w w')
    (h10 : ∀ w, Calls Tryz.prog 14 #[.string s] w fun e w' => e = .returned (.tuple #[.int .u32 m, .int .i64 me]) ∧ w = w')
    (h11 : ∀ w, Env true w → Calls Tryz.prog 15 #[.int .u32 an] w fun e w' => e = .returned (.string X3) ∧ Below w.heap.size w w')
    (h12 : ∀ w, Calls Tryz.prog 16 #[.int .u32 an] w fun e w' => e = .returned (.string X3) ∧ w = w') :
    Calls Tryz.prog 3 #[.int .u8 f, .agg #[.int .u64 H, .int .u64 L], .agg #[.int .u8 pf, .int .u64 ph, .int .u64 pl, .int .i64 pn], .int .u32 an, .string s] w fun e w' => e = .returned (.bool true) ∧ Below w.heap.size w w' := by
  have hG := env.big
  have HE := Lib.hid env
  have hz : (s.size : Int) ≤ 1000 := by omega
  have H1 := Lib.hid h1
  have H2 := Lib.hid h2
  have H3 := Lib.hid h3
  have H4 := Lib.hid h4
  have H5 := Lib.hid h5
  have H6 := Lib.hid h6
  have H7 := Lib.hid h7
  have H8 := Lib.hid h8
  have H9 := Lib.hid h9
  have H10 := Lib.hid h10
  have H11 := Lib.hid h11
  have H12 := Lib.hid h12
  clear env hs h1 h2 h3 h4 h5 h6 h7 h8 h9 h10 h11 h12
  go_enter Tryz.func3, Tryz.ntmps3
  go_upto_region 3 with fail
  generalize hv : World.alloc (World.alloc _ _) _ = v
  have T0 : RowKit.Hid (Ad2 w.heap.size v H L) := Lib.hid (by rw [← hv]; exact (Ad2.new w H L _).on (below_new _ _))
  have P0 : RowKit.Hid (Pf4 (w.heap.size + 1) v pf ph pl pn) := Lib.hid (by
    rw [← hv]
    have := Pf4.new (w.alloc (.cells #[.int .u64 H, .int .u64 L] 24)) pf ph pl pn 26
    simpa using this)
  have HB0 := Lib.hid (show Below w.heap.size w v by rw [← hv]; exact ((Below.refl _ _).alloc (Nat.le_refl _) _).alloc (by simp) _)
  clear hv
  obtain ⟨a0, a1, _, _⟩ := T0.out
  go_wp2_with fail
  refine (H1.out _ (HE.out.below HB0.out hG)).mono ?_
  rintro e w1 ⟨rfl, hb1⟩
  have T1 := Lib.hid (T0.out.on hb1)
  have P1 := Lib.hid (P0.out.on hb1)
  have HB1 := Lib.hid (HB0.out.trans (hb1.mono HB0.out.size))
  clear hb1 T0 P0 HB0 a0 a1
  obtain ⟨a0, a1, _, _⟩ := T1.out
  go_wp2_with fail
  refine (H2.out _).mono ?_
  rintro e w2 ⟨rfl, hb2⟩
  have P2 := Lib.hid (P1.out.on hb2)
  have HB2 := Lib.hid (HB1.out.trans (hb2.mono HB1.out.size))
  clear hb2 T1 P1 HB1 a0 a1
  go_wp2_with fail
  refine (H3.out _ (HE.out.below HB2.out hG)).mono ?_
  rintro e w3 ⟨rfl, hb3⟩
  have P3 := Lib.hid (P2.out.on hb3)
  have HB3 := Lib.hid (HB2.out.trans (hb3.mono HB2.out.size))
  clear hb3 P2 HB2
  go_upto_region 8 with fail
  obtain ⟨N, hN⟩ : ∃ N, w3.heap.size = N := ⟨_, rfl⟩
  generalize hv : World.alloc _ _ = v
  have P4 : RowKit.Hid (Pf4 (w.heap.size + 1) v pf ph pl pn) := Lib.hid (by rw [← hv]; exact P3.out.on (below_new _ _))
  have A4 : RowKit.Hid (Ad2 N v ah al) := Lib.hid (by rw [← hv, ← hN]; exact Ad2.new w3 _ _ _)
  have HB4 : RowKit.Hid (Below w.heap.size w v) := Lib.hid (by rw [← hv]; exact HB3.out.alloc HB3.out.size _)
  clear hv P3 HB3
  try rw [hN]
  clear hN
  go_wp2_with fail
  refine (H4.out _).mono ?_
  rintro e w5 ⟨rfl, hb5⟩
  have P5 := Lib.hid (P4.out.on hb5)
  have A5 := Lib.hid (A4.out.on hb5)
  have HB5 := Lib.hid (HB4.out.trans (hb5.mono HB4.out.size))
  clear hb5 P4 A4 HB4
  go_upto_region 9 with fail
  obtain ⟨M, hM⟩ : ∃ M, w5.heap.size = M := ⟨_, rfl⟩
  generalize hv : World.alloc _ _ = v
  have P6 : RowKit.Hid (Pf4 (w.heap.size + 1) v pf ph pl pn) := Lib.hid (by rw [← hv]; exact P5.out.on (below_new _ _))
  have A6 : RowKit.Hid (Ad2 N v ah al) := Lib.hid (by rw [← hv]; exact A5.out.on (below_new _ _))
  have C6 : RowKit.Hid (Ad2 M v ah al) := Lib.hid (by rw [← hv, ← hM]; exact Ad2.new w5 _ _ _)
  have HB6 : RowKit.Hid (Below w.heap.size w v) := Lib.hid (by rw [← hv]; exact HB5.out.alloc HB5.out.size _)
  clear hv P5 A5 HB5
  try rw [hM]
  clear hM
  obtain ⟨a0, a1, _, _⟩ := A6.out
  obtain ⟨c0, c1, _, _⟩ := C6.out
  go_upto_region 11 with fail
  clear a0 a1 c0 c1 A6 C6
  obtain ⟨p0, p1, p2, p3, _, _, _, _⟩ := P6.out
  go_wp2_with fail
  refine (H5.out _ (HE.out.below HB6.out hG)).mono ?_
  rintro e w7 ⟨rfl, hb7⟩
  have P7 := Lib.hid (P6.out.on hb7)
  have HB7 := Lib.hid (HB6.out.trans (hb7.mono HB6.out.size))
  clear hb7 P6 HB6 p0 p1 p2 p3
  obtain ⟨p0, p1, p2, p3, _, _, _, _⟩ := P7.out
  go_wp2_with fail
  refine (H6.out _).mono ?_
  rintro e w8 ⟨rfl, hb8⟩
  have HB8 := Lib.hid (HB7.out.trans (hb8.mono HB7.out.size))
  clear hb8 P7 HB7 p0 p1 p2 p3
  go_wp2_with fail
  refine (H7.out _ (HE.out.below HB8.out hG)).mono ?_
  rintro e w9 ⟨rfl, hb9⟩
  have HB9 := Lib.hid (HB8.out.trans (hb9.mono HB8.out.size))
  clear hb9 HB8
  go_upto_region 16 with fail
  obtain ⟨Q, hQ⟩ : ∃ Q, w9.heap.size = Q := ⟨_, rfl⟩
  generalize hv : World.alloc _ _ = v
  have A10 : RowKit.Hid (Pf4 Q v rf rh rl rn) := Lib.hid (by rw [← hv, ← hQ]; exact Pf4.new w9 _ _ _ _ _)
  have HB10 : RowKit.Hid (Below w.heap.size w v) := Lib.hid (by rw [← hv]; exact HB9.out.alloc HB9.out.size _)
  clear hv HB9
  try rw [hQ]
  clear hQ
  go_wp2_with fail
  refine (H8.out _).mono ?_
  rintro e w11 ⟨rfl, hb11⟩
  have A11 := Lib.hid (A10.out.on hb11)
  have HB11 := Lib.hid (HB10.out.trans (hb11.mono HB10.out.size))
  clear hb11 A10 HB10
  go_upto_region 17 with fail
  obtain ⟨R, hR⟩ : ∃ R, w11.heap.size = R := ⟨_, rfl⟩
  generalize hv : World.alloc _ _ = v
  have A12 : RowKit.Hid (Pf4 Q v rf rh rl rn) := Lib.hid (by rw [← hv]; exact A11.out.on (below_new _ _))
  have C12 : RowKit.Hid (Pf4 R v rf rh rl rn) := Lib.hid (by rw [← hv, ← hR]; exact Pf4.new w11 _ _ _ _ _)
  have HB12 : RowKit.Hid (Below w.heap.size w v) := Lib.hid (by rw [← hv]; exact HB11.out.alloc HB11.out.size _)
  clear hv A11 HB11
  try rw [hR]
  clear hR
  go_wp2_with fail
  refine (H9.out _ (HE.out.below HB12.out hG)).mono ?_
  rintro e w13 ⟨rfl, hb13⟩
  have A13 := Lib.hid (A12.out.on hb13)
  have C13 := Lib.hid (C12.out.on hb13)
  have HB13 := Lib.hid (HB12.out.trans (hb13.mono HB12.out.size))
  clear hb13 A12 C12 HB12
  go_wp2_with fail
  refine (H10.out _).mono ?_
  rintro e w14 ⟨rfl, rfl⟩
  obtain ⟨a0, a1, a2, a3, _, _, _, _⟩ := A13.out
  obtain ⟨c0, c1, c2, c3, _, _, _, _⟩ := C13.out
  go_wp2_with fail
  refine (H11.out _ (HE.out.below HB13.out hG)).mono ?_
  rintro e w15 ⟨rfl, hb15⟩
  have HB15 := Lib.hid (HB13.out.trans (hb15.mono HB13.out.size))
  clear hb15 A13 C13 HB13 a0 a1 a2 a3 c0 c1 c2 c3
  go_wp2_with fail
  refine (H12.out _).mono ?_
  rintro e w16 ⟨rfl, rfl⟩
  go_wp2_with fail
  go_ret
  exact ⟨rfl, HB15.out⟩
set_option maxRecDepth 100000 in
set_option maxHeartbeats 1000000 in
theorem texts_long (f H L pf ph pl pn an : Int) (s : ByteArray) (w : World) (hs : 1000 < s.size) :
    Calls Tryz.prog 3 #[.int .u8 f, .agg #[.int .u64 H, .int .u64 L], .agg #[.int .u8 pf, .int .u64 ph, .int .u64 pl, .int .i64 pn], .int .u32 an, .string s] w fun e w' => e = .returned (.bool true) ∧ Below w.heap.size w w' := by
  have hz : (1000 : Int) < (s.size : Int) := by omega
  clear hs
  go_enter Tryz.func3, Tryz.ntmps3
  go_wp2_with fail
  go_ret
  exact ⟨rfl, ((Below.refl _ _).alloc (Nat.le_refl _) _).alloc (by simp) _⟩
end Go.Proofs.YtlikgfmcialepaaGreatDoor
namespace Go.Proofs.YtlikgfmcialepaaGreatDoor
open Go.ChangeShapes Go.WideShapes Go.ChangeAt Go.RowKit Adr
open Go.WideMaps Go.WideElems
open Go.ChangeMaps (open_string shut_string)
set_option linter.unusedVariables false
theorem chk_parts {f h l n : Int} (h0 : chk f h l n = 0) : ca f h l = true ∧ 0 ≤ n ∧ n ≤ 128 := by
  have hok : ok f h l n = true := by
    unfold chk at h0
    by_cases hh : ok f h l n = true
    · exact hh
    · rw [if_neg hh] at h0
      split at h0 <;> omega
  have hw := wid_hi f
  unfold ok cutOk at hok
  simp only [Bool.and_eq_true, decide_eq_true_eq] at hok
  exact ⟨hok.1.1.1, hok.1.1.2, by have := hok.1.2; omega⟩
theorem texts_true (f H L pf ph pl pn an : Int) (s : ByteArray) (w : World) (env : Env true w) (uH : U64 H) (uL : U64 L) (uph : U64 ph) (upl : U64 pl) (ua : 0 ≤ an ∧ an < 4294967296) :
    Calls Tryz.prog 3 #[.int .u8 f, .agg #[.int .u64 H, .int .u64 L], .agg #[.int .u8 pf, .int .u64 ph, .int .u64 pl, .int .i64 pn], .int .u32 an, .string s] w fun e w' => e = .returned (.bool true) ∧ Below w.heap.size w w' := by
  by_cases hs : s.size ≤ 1000
  · obtain ⟨Hn, rfl, hH⟩ := u64_nat uH
    obtain ⟨Ln, rfl, hL⟩ := u64_nat uL
    obtain ⟨phn, rfl, hph⟩ := u64_nat uph
    obtain ⟨pln, rfl, hpl⟩ := u64_nat upl
    obtain ⟨a, rfl⟩ : ∃ a : Nat, an = (a : Int) := ⟨an.toNat, by omega⟩
    have ha : a < 4294967296 := by omega
    have key : ∀ (X2 : ByteArray) (E2 : Int)
        (h5 : ∀ w, Env true w → Calls Tryz.prog 9 #[.agg #[.int .u8 pf, .int .u64 phn, .int .u64 pln, .int .i64 pn]] w fun e w' => e = .returned (.tuple #[.string X2, .int .i64 E2]) ∧ Below w.heap.size w w')
        (h6 : ∀ w, Calls Tryz.prog 10 #[.agg #[.int .u8 pf, .int .u64 phn, .int .u64 pln, .int .i64 pn]] w fun e w' => e = .returned (.tuple #[.string X2, .int .i64 E2]) ∧ Below w.heap.size w w'),
        Calls Tryz.prog 3 #[.int .u8 f, .agg #[.int .u64 Hn, .int .u64 Ln], .agg #[.int .u8 pf, .int .u64 phn, .int .u64 pln, .int .i64 pn], .int .u32 a, .string s] w fun e w' => e = .returned (.bool true) ∧ Below w.heap.size w w' := by
      intro X2 E2 h5 h6
      have fin := fun X1 E1 h1 h2 => texts_core f Hn Ln pf phn pln pn a s w env hs X1 X2 (str (asS a)) E1 E2 _ _ _ _ _ _ _ _ _ _ _ h1 h2 (ap_any s) (fun w => rap_same s w) h5 h6 (fun w env => pa_any s w env hs) (fun w => rpa_same s hs w) (fun w env => as_parse s w env (by omega)) (fun w => rasparse_any s hs w) (fun w env => as_text a w env ha) (fun w => rastext a ha w)
      cases hc : ca f Hn Ln
      · exact fin ⟨#[]⟩ 2 (fun w env => text_no f Hn Ln w hc) (fun w => rtext_bad f Hn Ln hc w)
      · exact fin _ 0 (fun w env => text_yes f Hn Ln w env hc hH hL) (fun w => rtext_yes f Hn Ln hc hH hL w)
    by_cases hc : chk pf phn pln pn = 0
    · obtain ⟨c1, c2, c3⟩ := chk_parts hc
      obtain ⟨n, rfl⟩ : ∃ n : Nat, pn = (n : Int) := ⟨pn.toNat, by omega⟩
      exact key _ 0 (fun w env => ptext_yes pf phn pln n w env hph hpl hc c1 (by omega)) (fun w => rptext_yes pf phn pln n w hph hpl hc c1 (by omega))
    · exact key ⟨#[]⟩ (chk pf phn pln pn) (fun w env => ptext_no pf phn pln pn _ w uph upl rfl (by rw [bne_iff_ne]; exact hc)) (fun w => rptext_no pf phn pln pn _ w uph upl rfl (by rw [bne_iff_ne]; exact hc))
  · exact texts_long f H L pf ph pl pn an s w (by omega)
set_option maxRecDepth 100000 in
theorem texts_lifted (os : Os) (started : os.Started) (H : Type) (enc : TypeId × Value → H) :
    ReturnsInHanded {} Tryz.checked os 3 .any (fun w args => (Rows.numberTextsSpec.pre enc Tryz.prog Tryz.f3 Rows.numberTextsRow.domain false w args ∧ laidMet Tryz.prog laidAll w) ∧ sizedMet enc Tryz.prog Tryz.f3 (OpenSpec.ofChange Rows.numberTextsSpec) false w args)
      (Rows.numberTextsSpec.post enc Tryz.prog Tryz.f3 false true false false) := by
  refine returns_laid (C := Tryz.checked) (X := fun w => laidMet Tryz.prog laidAll w) (fun _ _ hh h => h.of_heap hh) Tryz.own started (by kernel_rfl) Tryz.func3
    (ChangeSpec.witness_at (enc := enc) (C := Tryz.checked) (os := os) (X := fun w _ => laidMet Tryz.prog laidAll w) false (laidWorld os) #[.int .u8 0, .agg #[.int .u64 0, .int .u64 0], .agg #[.int .u8 0, .int .u64 0, .int .u64 0, .int .i64 0], .int .u32 0, .string ⟨#[]⟩] 8 rfl (by kernel_rfl) (by kernel_rfl) (by kernel_rfl) (by kernel_rfl) (by kernel_rfl) (laidWorld_met os _)) ?_
  intro W base args ds gs before hval0 hW hL hsh
  have hval : ∀ (j : Nat) t v, Tryz.f3.params[j]? = some t → args[j]? = some v → Value.okWide Tryz.prog W .any base t v := hval0
  have env := env_of_laid hL hsh
  have hW' := hW
  obtain ⟨p, q, hA0, hV, rfl, hfz, hnd⟩ := hW
  have hA : DataW.TrodAll enc Tryz.prog W 0 (fun _ => true) true Tryz.f3.params.toList args.toList ds p := hA0
  rw [Tryz.params3] at hA hval
  obtain ⟨v0, vs0, d0, ds0, p0, q0, hargs, rfl, rfl, h0, r0⟩ := trodAll_cons hA
  obtain ⟨v1, vs1, d1, ds1, p1, q1, rfl, rfl, rfl, h1, r1⟩ := trodAll_cons r0
  obtain ⟨v2, vs2, d2, ds2, p2, q2, rfl, rfl, rfl, h2, r2⟩ := trodAll_cons r1
  obtain ⟨v3, vs3, d3, ds3, p3, q3, rfl, rfl, rfl, h3, r3⟩ := trodAll_cons r2
  obtain ⟨v4, vs4, d4, ds4, p4, q4, rfl, rfl, rfl, h4, r4⟩ := trodAll_cons r3
  obtain ⟨rfl, rfl, rfl⟩ := trodAll_nil r4
  obtain rfl : args = #[v0, v1, v2, v3, v4] := by cases args; simp_all
  obtain ⟨rfl, rfl⟩ := trodVars_none hV
  obtain ⟨a0, rfl, e0, f0, w0⟩ := open_int Tryz.underlying5 (hval 0 5 v0 rfl rfl) h0
  obtain ⟨a1, b1, rfl, ua1, ub1⟩ := open_addr (hval 1 24 v1 rfl rfl) h1
  obtain ⟨a2, b2, c2, n2, rfl, ub2, uc2, wf2, wn2⟩ := open_prefix (hval 2 26 v2 rfl rfl) h2
  obtain ⟨a3, rfl, e3, f3, w3⟩ := open_int Tryz.underlying27 (hval 3 27 v3 rfl rfl) h3
  obtain ⟨s4, rfl, e4, f4, w4⟩ := open_string Tryz.underlying9 (hval 4 9 v4 rfl rfl) h4
  refine (texts_true a0 a1 b1 a2 b2 c2 n2 a3 s4 W env ua1 ub1 ub2 uc2 ⟨(bounds_u32 w3).1, by have := (bounds_u32 w3).2; omega⟩).mono fun e W' ⟨he, hg⟩ => ?_
  subst he
  exact ⟨_, rfl, law_post Tryz.laidOut (by kernel_rfl) (by kernel_rfl) hW' hg (trodAll_cons_mk (shut_bool Tryz.underlying4 _) trodAll_mk0) rfl rfl⟩

/-- the row -/
theorem texts_row : Rows.NumberTextsSaid :=
  OpenClaim.holds_of_wide 3 Tryz.f3 rfl rfl rfl rfl rfl rfl rfl ⟨rfl, rfl, rfl, rfl, rfl⟩ rfl rfl rfl rfl rfl (by kernel_rfl) Tryz.func3 (by kernel_rfl)
    (of_decide_eq_true (by kernel_rfl)) (by unfold Func.isWrapper; rw [if_neg (of_decide_eq_false (by kernel_rfl))]; exact ⟨rfl, rfl⟩)
    (fun os started H enc _ => texts_lifted os started H enc)

/-- the statement -/
theorem texts_holds : Rows.NumberTextsCardSaid :=
  Claim7.holds_tied_plain_at .later [] [.data, .data, .data, .data, .sentinel, .sentinel, .pinned] true (true, "418328774325961588037f1d2f81350676c7a0901aed42e1b6bba3267e123e12") true
    texts_row (fun _ h => by cases h) (by kernel_rfl) (fun _ h => by cases h) numberTexts_row_tie rfl ⟨rfl, rfl⟩ (by kernel_rfl) rfl
    (fun f fn hf hfn => by
      obtain rfl : f = 3 := Option.some.inj ((show Tryz.prog.funcNamed "gatepath/gatepathlaw01.NumberTexts" = some 3 by kernel_rfl).symm.trans hf) |>.symm
      obtain rfl : fn = Tryz.f3 := (Option.some.inj (Tryz.func3.symm.trans hfn)).symm
      exact ⟨by kernel_rfl, fun j t ht => by
        rw [Tryz.params3] at ht
        have hp : t = 5 ∨ t = 24 ∨ t = 26 ∨ t = 27 ∨ t = 9 := by
          rcases j with _ | _ | _ | _ | _ | j
          · left; simpa using ht.symm
          · right; left; simpa using ht.symm
          · right; right; left; simpa using ht.symm
          · right; right; right; left; simpa using ht.symm
          · right; right; right; right; simpa using ht.symm
          · simp at ht
        rcases hp with rfl | rfl | rfl | rfl | rfl
        · exact (show Tryz.prog.wantsStandIn 5 = false by kernel_rfl)
        · exact (show Tryz.prog.wantsStandIn 24 = false by kernel_rfl)
        · exact (show Tryz.prog.wantsStandIn 26 = false by kernel_rfl)
        · exact (show Tryz.prog.wantsStandIn 27 = false by kernel_rfl)
        · exact (show Tryz.prog.wantsStandIn 9 = false by kernel_rfl)⟩)
    (by kernel_rfl)
#print axioms texts_holds
end Go.Proofs.YtlikgfmcialepaaGreatDoor
