/-
  THE WALKS over package span: strings of spans; the chapter's examples.
-/
import Derived.Test.YtjngfieggacpiaaGreatDoorSpanG
import Derived.Test.YtjngfieggacpiaaGreatDoorTextI
namespace Go.Proofs.YtjngfieggacpiaaGreatDoor
open Go.RowKit Adr Spn
set_option linter.unusedVariables false
set_option linter.unusedSimpArgs false
variable {fl : Bool}
set_option maxRecDepth 100000 in
set_option maxHeartbeats 4000000 in
/-- the string of a span that is a prefix's -/
theorem stext_p {f : Int} {W : Nat} (hf : Fam f W) (A M k : Nat) (hAM : A ≤ M) (hM : M < 2 ^ W) (hk : gre W A (M + 1 - A) = k) (hpk : 2 ^ k = M + 1 - A) (w : World) (env : Env fl w) :
    Calls Tryz.prog 18 #[.int .u8 f, .agg #[.int .u64 (aH A), .int .u64 (aL A), .int .u64 (aH M), .int .u64 (aL M)]] w fun e w' => e = .returned (.tuple #[.string (str (pfxS f (A / 18446744073709551616) (A % 18446744073709551616) (W - k))), .int .i64 0]) ∧ Below w.heap.size w w' := by
  have hG := env.big
  have HE := Lib.hid env
  have HC := Lib.hid (fun w => schk_any f A M w)
  have hA : A < 2 ^ W := by omega
  have hs0 : schk f A M = 0 := by
    unfold schk
    rw [hf.isA 0 (Nat.two_pow_pos W), if_pos rfl, hf.isA A hA, hf.isA M hM]
    simp [hAM]
  rw [hs0] at HC
  obtain ⟨w1, w2, w3, w4⟩ := hf.wid
  have hfit := gre_fits W A (M + 1 - A) (by omega)
  have hkW := gre_le W A (M + 1 - A)
  rw [hk] at hfit hkW
  have HG := Lib.hid (fun w => gre_any hf A M hAM hM w)
  rw [hk] at HG
  have HL := Lib.hid (fun w => lastN_any hf A (W - k) hA (by omega) (by rw [show W - (W - k) = k by omega]; exact hfit.1) w)
  rw [show W - (W - k) = k by omega, show A + 2 ^ k - 1 = M by omega] at HL
  have h128 := hf.lt hA
  have h2 : (2 : Nat) ^ 128 = 340282366920938463463374607431768211456 := by decide
  have hchk : chk f (aH A) (aL A) ((W - k : Nat) : Int) = 0 := chk_of_num hf (by omega) hA (by rw [show W - (W - k) = k by omega]; exact hfit.1)
  have hca : ca f (aH A) (aL A) = true := by rw [ca_num]; exact hf.isA A hA
  have HT := Lib.hid (fun (w : World) (env : Env fl w) => ptext_yes f (A / 18446744073709551616) (A % 18446744073709551616) (W - k) w env (by omega) (by omega) hchk hca (by omega))
  obtain ⟨X, hX⟩ : ∃ X, str (pfxS f (A / 18446744073709551616) (A % 18446744073709551616) (W - k)) = X := ⟨_, rfl⟩
  rw [hX] at HT ⊢
  have hTT : RowKit.Hid (∀ w, Env fl w → Calls Tryz.prog 10 #[.agg #[.int .u8 f, .int .u64 (aH A), .int .u64 (aL A), .int .i64 ((W - k : Nat) : Int)]] w fun e w' => e = .returned (.tuple #[.string X, .int .i64 0]) ∧ Below w.heap.size w w') := HT
  obtain ⟨n, hn⟩ : ∃ n : Int, ((W - k : Nat) : Int) = n := ⟨_, rfl⟩
  rw [hn] at HG HL hTT
  clear env hs0 w1 w2 w3 w4 hfit hkW h128 h2 hchk hca HT hX hA hAM hM hk hpk hf hn
  go_enter Tryz.func18, Tryz.ntmps18
  go_wp2_with fail
  generalize hv : World.alloc _ _ = v
  have TS : RowKit.Hid (Sp4 w.heap.size v (aH A) (aL A) (aH M) (aL M)) := Lib.hid (by rw [← hv]; exact Sp4.new w _ _ _ _ _)
  have HB := Lib.hid (show Below w.heap.size w v by rw [← hv]; exact below_new _ _)
  clear hv
  refine (HC.out v).mono ?_
  rintro e w1 ⟨rfl, hb1⟩
  have TS1 := Lib.hid (TS.out.on hb1)
  have HB1 := Lib.hid (HB.out.trans (hb1.mono HB.out.size))
  clear hb1 TS HB
  obtain ⟨s0, s1, s2, s3, _⟩ := TS1.out
  go_wp2_with fail
  refine (HG.out w1).mono ?_
  rintro e w2 ⟨rfl, hb2⟩
  have TS2 := Lib.hid (TS1.out.on hb2)
  have HB2 := Lib.hid (HB1.out.trans (hb2.mono HB1.out.size))
  clear hb2 TS1 HB1 s0 s1 s2 s3
  go_upto_region 5 with fail
  obtain ⟨P, hP⟩ : ∃ P, w2.heap.size = P := ⟨_, rfl⟩
  generalize hv : World.alloc _ _ = v3
  have TP3 : RowKit.Hid (Pf4 P v3 f (aH A) (aL A) n) := Lib.hid (by rw [← hv, ← hP]; exact Pf4.new w2 _ _ _ _ _)
  have TS3 := Lib.hid (show Sp4 w.heap.size v3 (aH A) (aL A) (aH M) (aL M) by rw [← hv]; exact TS2.out.on (below_new _ _))
  have HB3 := Lib.hid (show Below w.heap.size w v3 by rw [← hv]; exact HB2.out.alloc HB2.out.size _)
  clear hv TS2 HB2
  try rw [hP]
  clear hP
  obtain ⟨s0, s1, s2, s3, _⟩ := TS3.out
  obtain ⟨p0, p1, p2, p3, _, _, _, _⟩ := TP3.out
  have zp := TP3.out.lt
  have zs := TS3.out.lt
  go_region_held3 (fun x => x.cell? ⟨P, 0, none⟩ = some (.int .u8 f) ∧ x.cell? ⟨P, 1, none⟩ = some (.int .u64 (aH A)) ∧ x.cell? ⟨P, 2, none⟩ = some (.int .u64 (aL A)) ∧ x.cell? ⟨P, 3, none⟩ = some (.int .i64 n) ∧ x.cell? ⟨w.heap.size, 2, none⟩ = some (.int .u64 (aH M)) ∧ x.cell? ⟨w.heap.size, 3, none⟩ = some (.int .u64 (aL M)))
    (first | exact ⟨p0, p1, p2, p3, s2, s3⟩ | exact ⟨(hc4 _ _ zp).trans p0, (hc4 _ _ zp).trans p1, (hc4 _ _ zp).trans p2, (hc4 _ _ zp).trans p3, (hc4 _ _ zs).trans s2, (hc4 _ _ zs).trans s3⟩)
    ((go_at_call 49; refine (HL.out _).mono ?_; rintro e w4 ⟨rfl, hb4⟩; obtain ⟨hc4, hf4⟩ := bcellD hb4))
  all_goals
    have HB4 := Lib.hid ((((Below.refl v3.heap.size v3).drew).trans hb4))
    clear hb4 hc4 hf4 p0 p1 p2 p3 s0 s1 s2 s3
    have TP4 := Lib.hid (TP3.out.on HB4.out)
    have HB5 := Lib.hid (HB3.out.trans (HB4.out.mono HB3.out.size))
    obtain ⟨p0, p1, p2, p3, _, _, _, _⟩ := TP4.out
    go_wp2_with fail
    refine (hTT.out w4 (HE.out.below HB5.out hG)).mono ?_
    rintro e w5 ⟨rfl, hb5⟩
    go_wp2_with fail
    go_ret2
    exact ⟨rfl, HB5.out.trans (hb5.mono HB5.out.size)⟩
end Go.Proofs.YtjngfieggacpiaaGreatDoor
