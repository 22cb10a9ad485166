/-
  THE WALKS over package span: the greatest prefix from an address on.
-/
import Derived.Test.YtjngfieggacpiaaGreatDoorSpanC
import Derived.Deep.RegionHeld3
import Derived.Deep.DeepCutAuto
namespace Go.Proofs.YtjngfieggacpiaaGreatDoor
open Go.RowKit Adr Spn
set_option linter.unusedVariables false
set_option linter.unusedSimpArgs false
/-- a family and the number of its bits -/
def Fam (f : Int) (W : Nat) : Prop := f = 4 ∧ W = 32 ∨ f = 6 ∧ W = 128
theorem Fam.wid {f : Int} {W : Nat} (h : Fam f W) : wid f = (W : Int) ∧ swid f = (W : Int) ∧ 2 ≤ W ∧ W ≤ 128 := by
  rcases h with ⟨rfl, rfl⟩ | ⟨rfl, rfl⟩ <;> exact ⟨rfl, rfl, by omega, by omega⟩
theorem Fam.isA {f : Int} {W : Nat} (h : Fam f W) (N : Nat) (hN : N < 2 ^ W) : isA f N = true := by
  rcases h with ⟨rfl, rfl⟩ | ⟨rfl, rfl⟩
  · have h3 : (2 : Nat) ^ 32 = 4294967296 := by decide
    unfold Go.Proofs.YtjngfieggacpiaaGreatDoor.isA
    rw [if_pos rfl]
    simp
    omega
  · rfl
theorem Fam.lt {f : Int} {W : Nat} (h : Fam f W) {N : Nat} (hN : N < 2 ^ W) : N < 2 ^ 128 := Nat.lt_of_lt_of_le hN (Nat.pow_le_pow_right (by omega) h.wid.2.2.2)
theorem num_a (N : Nat) : num (N / 18446744073709551616) (N % 18446744073709551616) = N := by
  have h64 : (2 : Nat) ^ 64 = 18446744073709551616 := by decide
  unfold num
  rw [h64]
  omega
/-- cutting, on numbers -/
theorem clr_a (N m : Nat) : clrH (aH N) m = aH (N / 2 ^ m * 2 ^ m) ∧ clrL (aL N) m = aL (N / 2 ^ m * 2 ^ m) := by
  have h64 : (2 : Nat) ^ 64 = 18446744073709551616 := by decide
  obtain ⟨H', L', e1, e2, hL', e3⟩ := clr_num (N / 18446744073709551616) (N % 18446744073709551616) m (by rw [h64]; omega)
  rw [num_a] at e3
  unfold aH aL
  rw [← e3, e1, e2]
  unfold num
  rw [h64] at hL' ⊢
  constructor <;> omega
theorem cutN_any {f : Int} {W : Nat} (hf : Fam f W) (N i : Nat) (hN : N < 2 ^ W) (hi : i ≤ W) (w : World) :
    Calls Tryz.prog 68 #[.int .u8 f, .agg #[.int .u64 (aH N), .int .u64 (aL N)], .int .i64 i] w fun e w' => e = .returned (.tuple #[.agg #[.int .u8 f, .int .u64 (aH (N / 2 ^ (W - i) * 2 ^ (W - i))), .int .u64 (aL (N / 2 ^ (W - i) * 2 ^ (W - i))), .int .i64 i], .int .i64 0]) ∧ Below w.heap.size w w' := by
  obtain ⟨h1, h2, h3, h4⟩ := hf.wid
  have hc : cutOk f (aH N) (aL N) (i : Int) = true := by
    unfold cutOk
    rw [ca_num, hf.isA N hN, h1]
    simp
    omega
  have h := cut_yes f (aH N) (aL N) i w (aH_u (hf.lt hN)) (aL_u N) hc
  rw [h1, show ((W : Int) - i) = ((W - i : Nat) : Int) by omega, (clr_a N (W - i)).1, (clr_a N (W - i)).2] at h
  exact h
theorem lastN_any {f : Int} {W : Nat} (hf : Fam f W) (N i : Nat) (hN : N < 2 ^ W) (hi : i ≤ W) (ha : N % 2 ^ (W - i) = 0) (w : World) :
    Calls Tryz.prog 49 #[.agg #[.int .u8 f, .int .u64 (aH N), .int .u64 (aL N), .int .i64 i]] w fun e w' => e = .returned (.agg #[.int .u64 (aH (N + 2 ^ (W - i) - 1)), .int .u64 (aL (N + 2 ^ (W - i) - 1))]) ∧ Below w.heap.size w w' := by
  obtain ⟨h1, h2, h3, h4⟩ := hf.wid
  have h := last_any f (aH N) (aL N) i w (by omega) (by rw [h2]; omega)
  obtain ⟨e1, e2⟩ := last_num N (W - i) (hf.lt hN) (by omega) ha
  rw [h2, show ((W : Int) - i) = ((W - i : Nat) : Int) by omega, e1, e2] at h
  exact h
theorem cut_same_iff (N m : Nat) : N / 2 ^ m * 2 ^ m = N ↔ N % 2 ^ m = 0 := by
  have := Nat.div_add_mod N (2 ^ m)
  rw [Nat.mul_comm] at this
  omega
theorem gre_hit (K a n : Nat) (h1 : a % 2 ^ K = 0) (h2 : 2 ^ K ≤ n) : gre K a n = K := by
  have := gre_max K a n K (Nat.le_refl _) h1 h2
  have := gre_le K a n
  omega
theorem gre_miss (K a n : Nat) (h : ¬ (a % 2 ^ (K + 1) = 0 ∧ 2 ^ (K + 1) ≤ n)) : gre (K + 1) a n = gre K a n := by
  conv => lhs; unfold gre
  rw [if_neg h]
structure GreRel (w : World) (f : Int) (N M : Nat) (wr : World) : Prop where
  wk : Wk5 w.heap.size wr f (aH N) (aL N) (aH M) (aL M)
  rs : Pf4 (w.heap.size + 1) wr 0 0 0 0
  pp : ∃ x y z n : Int, Pf4 (w.heap.size + 1 + 1) wr x y z n
  bl : Below w.heap.size w wr
theorem GreRel.on {w : World} {f : Int} {N M : Nat} {wr w' : World} (h : GreRel w f N M wr) (hb : Below wr.heap.size wr w') : GreRel w f N M w' := by
  obtain ⟨x, y, z, n, hp⟩ := h.pp
  exact ⟨h.wk.on hb, h.rs.on hb, ⟨x, y, z, n, hp.on hb⟩, h.bl.trans (hb.mono h.bl.size)⟩
theorem pf_set {B : Nat} {w : World} {x y z n x' y' z' n' : Int} (h : Pf4 B w x y z n) : Pf4 B ((((w.setCell ⟨B, 0, none⟩ (.int .u8 x')).setCell ⟨B, 1, none⟩ (.int .u64 y')).setCell ⟨B, 2, none⟩ (.int .u64 z')).setCell ⟨B, 3, none⟩ (.int .i64 n')) x' y' z' n' := by
  obtain ⟨a0, a1, a2, a3, f0, f1, f2, f3⟩ := h
  refine ⟨?_, ?_, ?_, ?_, by simpa using f0, by simpa using f1, by simpa using f2, by simpa using f3⟩
  · exact cset_far (cset_far (cset_far (cset_same a0) (by simp)) (by simp)) (by simp)
  · exact cset_far (cset_far (cset_same (cset_far a1 (by simp))) (by simp)) (by simp)
  · exact cset_far (cset_same (cset_far (cset_far a2 (by simp)) (by simp))) (by simp)
  · exact cset_same (cset_far (cset_far (cset_far a3 (by simp)) (by simp)) (by simp))
theorem pf_far {B D : Nat} {w : World} {x y z n : Int} {v0 v1 v2 v3 : Value} (h : Pf4 B w x y z n) (hn : D ≠ B) : Pf4 B ((((w.setCell ⟨D, 0, none⟩ v0).setCell ⟨D, 1, none⟩ v1).setCell ⟨D, 2, none⟩ v2).setCell ⟨D, 3, none⟩ v3) x y z n := by
  obtain ⟨a0, a1, a2, a3, f0, f1, f2, f3⟩ := h
  have q : ∀ (w : World) (j i : Nat) (v u : Value), w.cell? ⟨B, j, none⟩ = some u → (w.setCell ⟨D, i, none⟩ v).cell? ⟨B, j, none⟩ = some u := fun w j i v u hc => cset_far hc (by simp [hn])
  exact ⟨q _ _ _ _ _ (q _ _ _ _ _ (q _ _ _ _ _ (q _ _ _ _ _ a0))), q _ _ _ _ _ (q _ _ _ _ _ (q _ _ _ _ _ (q _ _ _ _ _ a1))), q _ _ _ _ _ (q _ _ _ _ _ (q _ _ _ _ _ (q _ _ _ _ _ a2))), q _ _ _ _ _ (q _ _ _ _ _ (q _ _ _ _ _ (q _ _ _ _ _ a3))), by simpa using f0, by simpa using f1, by simpa using f2, by simpa using f3⟩
theorem wk_far {B D : Nat} {w : World} {f a b c d : Int} {v0 v1 v2 v3 : Value} (h : Wk5 B w f a b c d) (hn : D ≠ B) : Wk5 B ((((w.setCell ⟨D, 0, none⟩ v0).setCell ⟨D, 1, none⟩ v1).setCell ⟨D, 2, none⟩ v2).setCell ⟨D, 3, none⟩ v3) f a b c d := by
  obtain ⟨a0, a1, a2, a3, a4, fz⟩ := h
  have q : ∀ (w : World) (j i : Nat) (v u : Value), w.cell? ⟨B, j, none⟩ = some u → (w.setCell ⟨D, i, none⟩ v).cell? ⟨B, j, none⟩ = some u := fun w j i v u hc => cset_far hc (by simp [hn])
  exact ⟨q _ _ _ _ _ (q _ _ _ _ _ (q _ _ _ _ _ (q _ _ _ _ _ a0))), q _ _ _ _ _ (q _ _ _ _ _ (q _ _ _ _ _ (q _ _ _ _ _ a1))), q _ _ _ _ _ (q _ _ _ _ _ (q _ _ _ _ _ (q _ _ _ _ _ a2))), q _ _ _ _ _ (q _ _ _ _ _ (q _ _ _ _ _ (q _ _ _ _ _ a3))), q _ _ _ _ _ (q _ _ _ _ _ (q _ _ _ _ _ (q _ _ _ _ _ a4))), fun j => by simpa using fz j⟩
theorem pf_below {B n : Nat} {u w : World} {v0 v1 v2 v3 : Value} (h : Below n u w) (hb : n ≤ B) : Below n u ((((w.setCell ⟨B, 0, none⟩ v0).setCell ⟨B, 1, none⟩ v1).setCell ⟨B, 2, none⟩ v2).setCell ⟨B, 3, none⟩ v3) := (((h.setCell hb _).setCell hb _).setCell hb _).setCell hb _
set_option maxRecDepth 100000 in
set_option maxHeartbeats 4000000 in
theorem gre_any {f : Int} {W : Nat} (hf : Fam f W) (N M : Nat) (hNM : N ≤ M) (hM : M < 2 ^ W) (w : World) :
    Calls Tryz.prog 48 #[.agg #[.int .u8 f, .int .u64 (aH N), .int .u64 (aL N), .int .u64 (aH M), .int .u64 (aL M)]] w fun e w' => e = .returned (.agg #[.int .u8 f, .int .u64 (aH N), .int .u64 (aL N), .int .i64 ((W - gre W N (M + 1 - N) : Nat) : Int)]) ∧ Below w.heap.size w w' := by
  obtain ⟨w1, w2, w3, w4⟩ := hf.wid
  have HF := Lib.hid hf
  have HM := Lib.hid hM
  have HN := Lib.hid hNM
  have HS := Lib.hid (fun w => swid_any f w)
  rw [w2] at HS
  have e1 : IntKind.i64.wrap ((W : Int) + 1) = (W : Int) + 1 := IntWalk.i64_in _ (by omega)
  clear hf hM hNM w1 w2
  go_enter Tryz.func48, Tryz.ntmps48
  go_wp2_with (go_at_call 75; refine (HS.out _).mono ?_; rintro e w' ⟨rfl, rfl⟩)
  go_loopw [10] (fun i wr => ∃ k : Nat, k ≤ W ∧ i = .int .i64 k ∧ GreRel w f N M wr ∧ gre W N (M + 1 - N) = gre (W - k) N (M + 1 - N)) (fun i _ => W + 1 - (intOf i).toNat)
  case atStart =>
    refine ⟨0, Nat.zero_le _, rfl, ⟨?_, ?_, ⟨0, 0, 0, 0, ?_⟩, ?_⟩, rfl⟩
    · exact ((Wk5.new w _ _ _ _ _ _).on (below_new _ _)).on (below_new _ _)
    · have := (Pf4.new (w.alloc (.cells #[.int .u8 f, .int .u64 (aH N), .int .u64 (aL N), .int .u64 (aH M), .int .u64 (aL M)] 100)) 0 0 0 0 26).on (below_new _ (.cells #[.int .u8 0, .int .u64 0, .int .u64 0, .int .i64 0] 26))
      simpa using this
    · have := Pf4.new ((w.alloc (.cells #[.int .u8 f, .int .u64 (aH N), .int .u64 (aL N), .int .u64 (aH M), .int .u64 (aL M)] 100)).alloc (.cells #[.int .u8 0, .int .u64 0, .int .u64 0, .int .i64 0] 26)) 0 0 0 0 26
      simpa using this
    · exact (((Below.refl _ _).alloc (Nat.le_refl _) _).alloc (by simp) _).alloc (by simp; omega) _
  case round =>
    obtain ⟨k, hk, rfl, hrel, hg⟩ := hrel
    have HR := Lib.hid hrel
    have HG := Lib.hid hg
    obtain ⟨⟨a0, a1, a2, a3, a4, afz⟩, _, _, _⟩ := hrel
    have HC := Lib.hid (fun w => cutN_any HF.out N k (by have := HM.out; have := HN.out; omega) hk w)
    obtain ⟨C, hCC⟩ : ∃ C, N / 2 ^ (W - k) * 2 ^ (W - k) = C := ⟨_, rfl⟩
    rw [hCC] at HC
    have HCC := Lib.hid hCC
    clear hg afz hCC
    go_wp2_with fail
    refine (HC.out _).mono ?_
    rintro e v1 ⟨rfl, hb1⟩
    have HR1 := Lib.hid (HR.out.on hb1)
    clear hb1 HR a0 a1 a2 a3 a4
    obtain ⟨x, y, z, n, hp⟩ := HR1.out.pp
    have HP1 := Lib.hid hp
    obtain ⟨p0, p1, p2, p3, g0, g1, g2, g3⟩ := hp
    go_upto_region 6 with fail
    generalize hv : World.setCell (World.setCell _ _ _) _ _ = v2
    have HP2 : RowKit.Hid (Pf4 (w.heap.size + 1 + 1) v2 f (aH C) (aL C) k) := Lib.hid (by rw [← hv]; exact pf_set HP1.out)
    have HR2 : RowKit.Hid (GreRel w f N M v2) := Lib.hid (by
      rw [← hv]
      obtain ⟨b1, b2, _, b4⟩ := HR1.out
      exact ⟨wk_far b1 (by omega), pf_far b2 (by omega), ⟨_, _, _, _, pf_set HP1.out⟩, pf_below b4 (by omega)⟩)
    clear hv HR1 HP1 p0 p1 p2 p3 g0 g1 g2 g3
    obtain ⟨q0, q1, q2, q3, h0, h1, h2, h3⟩ := HP2.out
    obtain ⟨a0, a1, a2, a3, a4, _⟩ := HR2.out.wk
    by_cases hal : N % 2 ^ (W - k) = 0
    · have hC : C = N := by rw [← HCC.out]; exact (cut_same_iff N (W - k)).2 hal
      subst hC
      have HL := Lib.hid (fun w => lastN_any HF.out C k (by have := HM.out; have := HN.out; omega) hk hal w)
      obtain ⟨E, hE⟩ : ∃ E, C + 2 ^ (W - k) - 1 = E := ⟨_, rfl⟩
      rw [hE] at HL
      have HK := Lib.hid (fun w => cmpN_any E M w)
      have HE := Lib.hid hE
      have HAL := Lib.hid hal
      clear hE hal
      have zq := HP2.out.lt
      have za := HR2.out.wk.lt
      obtain ⟨K, hK⟩ : ∃ K, cmpN E M = K := ⟨_, rfl⟩
      rw [hK] at HK
      have HKK := Lib.hid hK
      clear hK
      by_cases hfit : K ≤ 0
      all_goals
        have HFIT := Lib.hid hfit
        go_region_held3 (fun x => x.cell? ⟨w.heap.size + 1 + 1, 0, none⟩ = some (.int .u8 f) ∧ x.cell? ⟨w.heap.size + 1 + 1, 1, none⟩ = some (.int .u64 (aH C)) ∧ x.cell? ⟨w.heap.size + 1 + 1, 2, none⟩ = some (.int .u64 (aL C)) ∧ x.cell? ⟨w.heap.size + 1 + 1, 3, none⟩ = some (.int .i64 k) ∧ x.cell? ⟨w.heap.size, 0, none⟩ = some (.int .u8 f) ∧ x.cell? ⟨w.heap.size, 1, none⟩ = some (.int .u64 (aH C)) ∧ x.cell? ⟨w.heap.size, 2, none⟩ = some (.int .u64 (aL C)) ∧ x.cell? ⟨w.heap.size, 3, none⟩ = some (.int .u64 (aH M)) ∧ x.cell? ⟨w.heap.size, 4, none⟩ = some (.int .u64 (aL M)))
          (first | exact ⟨q0, q1, q2, q3, a0, a1, a2, a3, a4⟩ | exact ⟨(hc3 _ _ zq).trans q0, (hc3 _ _ zq).trans q1, (hc3 _ _ zq).trans q2, (hc3 _ _ zq).trans q3, (hc3 _ _ za).trans a0, (hc3 _ _ za).trans a1, (hc3 _ _ za).trans a2, (hc3 _ _ za).trans a3, (hc3 _ _ za).trans a4⟩ | exact ⟨(hc4 _ _ zq3).trans ((hc3 _ _ zq).trans q0), (hc4 _ _ zq3).trans ((hc3 _ _ zq).trans q1), (hc4 _ _ zq3).trans ((hc3 _ _ zq).trans q2), (hc4 _ _ zq3).trans ((hc3 _ _ zq).trans q3), (hc4 _ _ za3).trans ((hc3 _ _ za).trans a0), (hc4 _ _ za3).trans ((hc3 _ _ za).trans a1), (hc4 _ _ za3).trans ((hc3 _ _ za).trans a2), (hc4 _ _ za3).trans ((hc3 _ _ za).trans a3), (hc4 _ _ za3).trans ((hc3 _ _ za).trans a4)⟩)
          (first | (go_at_call 49; refine (HL.out _).mono ?_; rintro e w3 ⟨rfl, hb3⟩; obtain ⟨hc3, hf3⟩ := bcellD hb3; have zq3 : w.heap.size + 1 + 1 < w3.heap.size := (by (have := hb3.size; (try simp at this); omega)); have za3 : w.heap.size < w3.heap.size := (by omega)) | (go_at_call 56; refine (HK.out _).mono ?_; rintro e w4 ⟨rfl, hb4⟩; obtain ⟨hc4, hf4⟩ := bcell hb4))
      · have HB4 := Lib.hid ((((Below.refl v2.heap.size v2).drew).trans hb3).trans (hb4.mono (by have := hb3.size; simpa using this)))
        clear hb3 hb4 hc3 hc4 hf3 hf4 q0 q1 q2 q3 h0 h1 h2 h3 a0 a1 a2 a3 a4
        have HP4 := Lib.hid (HP2.out.on HB4.out)
        have HR4 := Lib.hid (HR2.out.on HB4.out)
        obtain ⟨q0, q1, q2, q3, _, _, _, _⟩ := HP4.out
        obtain ⟨r0, r1, r2, r3, g0, g1, g2, g3⟩ := HR4.out.rs
        have hk' : (W - gre W C (M + 1 - C) : Nat) = k := by
          rw [HG.out, gre_hit _ _ _ HAL.out (by
            have h1 := HFIT.out
            rw [← HKK.out] at h1
            have h2 := HE.out
            have hp := Nat.two_pow_pos (W - k)
            have h3 : E ≤ M := by
              unfold cmpN at h1
              split at h1
              · omega
              · split at h1 <;> omega
            omega)]
          omega
        have HK' := Lib.hid hk'
        clear hk'
        go_wp2_with fail
        have A := pf_set (x' := f) (y' := aH C) (z' := aL C) (n' := k) HR4.out.rs
        refine bodyPost_ret (v := .agg #[.int .u8 f, .int .u64 (aH C), .int .u64 (aL C), .int .i64 k]) (by simp [results, Tryz.results48, go_sem, A.a0, A.a1, A.a2, A.a3]) rfl ⟨by rw [HK'.out], pf_below HR4.out.bl (by omega)⟩
      · have HB4 := Lib.hid ((((Below.refl v2.heap.size v2).drew).trans hb3).trans (hb4.mono (by have := hb3.size; simpa using this)))
        clear hb3 hb4 hc3 hc4 hf3 hf4 q0 q1 q2 q3 h0 h1 h2 h3 a0 a1 a2 a3 a4
        have HR4 := Lib.hid (HR2.out.on HB4.out)
        have h3 : ¬ 2 ^ (W - k) ≤ M + 1 - C := by
          intro h
          have hf : 0 < K := by have := HFIT.out; omega
          rw [← HKK.out] at hf
          have h2 := HE.out
          have hp := Nat.two_pow_pos (W - k)
          have hn := HN.out
          unfold cmpN at hf
          split at hf
          · omega
          · split at hf <;> omega
        have hkW : k < W := by
          by_cases e : k = W
          · rw [e, Nat.sub_self] at h3
            have hn := HN.out
            omega
          · omega
        have hgn : gre W C (M + 1 - C) = gre (W - (k + 1)) C (M + 1 - C) := by
          rw [HG.out, show W - k = (W - (k + 1)) + 1 by omega]
          refine gre_miss _ _ _ (fun e => h3 ?_)
          rw [show W - k = (W - (k + 1)) + 1 by omega]
          exact e.2
        have HGN := Lib.hid hgn
        clear h3 hgn
        go_wp2_with fail
        refine ⟨⟨k + 1, by omega, by go_num, HR4.out, HGN.out⟩, by simp [intOf]; omega⟩
    · have hC : ¬ C = N := fun e => hal ((cut_same_iff N (W - k)).1 (by rw [HCC.out]; exact e))
      have hkW : k < W := by
        by_cases e : k = W
        · rw [e, Nat.sub_self, Nat.pow_zero, Nat.mod_one] at hal
          exact absurd rfl hal
        · omega
      have hgn : gre W N (M + 1 - N) = gre (W - (k + 1)) N (M + 1 - N) := by
        rw [HG.out, show W - k = (W - (k + 1)) + 1 by omega]
        refine gre_miss _ _ _ (fun e => hal ?_)
        rw [show W - k = (W - (k + 1)) + 1 by omega]
        exact e.1
      have HGN := Lib.hid hgn
      clear hgn hal
      by_cases hh : aH C = aH N
      · have hl : ¬ aL C = aL N := fun e => hC (a_inj hh e)
        rw [hh] at q1
        go_quiet (fail)
        go_wp2_with fail
        refine ⟨⟨k + 1, by omega, by go_num, HR2.out.on (below_drewN (Below.refl _ _) _), HGN.out⟩, by simp [intOf]; omega⟩
      · go_quiet (fail)
        go_wp2_with fail
        refine ⟨⟨k + 1, by omega, by go_num, HR2.out.on (below_drewN (Below.refl _ _) _), HGN.out⟩, by simp [intOf]; omega⟩
end Go.Proofs.YtjngfieggacpiaaGreatDoor
