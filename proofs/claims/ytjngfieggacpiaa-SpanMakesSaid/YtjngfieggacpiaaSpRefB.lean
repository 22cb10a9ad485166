/-
  THE WALKS over the reference of layer 2: the next and the previous address, the last address of a prefix.
-/
import Derived.Test.YtjngfieggacpiaaSpRefA
namespace Go.Proofs.Ytjngfieggacpiaa
open Go.RowKit Adr Spn
set_option linter.unusedVariables false
set_option linter.unusedSimpArgs false
theorem ones_bit {W k : Nat} (h : k < W) : (2 ^ W - 1) / 2 ^ k % 2 = 1 := by
  have h1 := Nat.testBit_two_pow_sub_one W k
  rw [Nat.testBit_eq_decide_div_mod_eq] at h1
  simpa [h] using h1
theorem bit_room {N W k : Nat} (hN : N < 2 ^ W) (hk : k < W) (h : biP N k = 0) : N + 1 < 2 ^ W := by
  rcases Nat.lt_or_ge (N + 1) (2 ^ W) with h1 | h1
  · exact h1
  · exfalso
    have e : N = 2 ^ W - 1 := by omega
    subst e
    have := ones_bit hk
    unfold biP at h
    omega
theorem Ad2.set {B : Nat} {w : World} {a b a' b' : Int} (h : Ad2 B w a b) : Ad2 B ((w.setCell ⟨B, 0, none⟩ (.int .u64 a')).setCell ⟨B, 1, none⟩ (.int .u64 b')) a' b' := by
  obtain ⟨a0, a1, f0, f1⟩ := h
  refine ⟨?_, ?_, by simpa using f0, by simpa using f1⟩
  · exact cset_far (cset_same a0) (by simp)
  · exact cset_same (cset_far a1 (by simp))
theorem ad_below {n b : Nat} {u w : World} {v0 v1 : Value} (h : Below n u w) (hb : n ≤ b) : Below n u ((w.setCell ⟨b, 0, none⟩ v0).setCell ⟨b, 1, none⟩ v1) := (h.setCell hb _).setCell hb _
theorem Ad2.away {B g : Nat} {w : World} {a b : Int} {j : Nat} {v : Value} (h : Ad2 B w a b) (hne : g ≠ B) : Ad2 B (w.setCell ⟨g, j, none⟩ v) a b := by
  obtain ⟨a0, a1, f0, f1⟩ := h
  refine ⟨cset_far a0 (by simp [hne]), cset_far a1 (by simp [hne]), by simpa using f0, by simpa using f1⟩
set_option maxRecDepth 100000 in
set_option maxHeartbeats 2000000 in
theorem rnext_core {f : Int} {W : Nat} (hf : Fam f W) (N : Nat) (hN : N < 2 ^ W) (w : World) (h1 : Int) (l1 : Int) (b1 : Bool)
    (hy : N + 1 < 2 ^ W → h1 = aH (N + 1) ∧ l1 = aL (N + 1) ∧ b1 = true) (hno : ¬ N + 1 < 2 ^ W → h1 = 0 ∧ l1 = 0 ∧ b1 = false) :
    Calls Try.prog 10 #[.int .u8 f, .agg #[.int .u64 (aH N), .int .u64 (aL N)]] w fun e w' => e = .returned (.tuple #[.agg #[.int .u64 h1, .int .u64 l1], .bool b1]) ∧ Below w.heap.size w w' := by
  have HA := Lib.hid (fun w => risA_any f N w)
  rw [hf.isA N hN] at HA
  have HBits := Lib.hid (fun w => rbits_call hf N (hf.lt hN) w)
  have HAddr := Lib.hid (fun g cap M (hM : M < 2 ^ W) w hb => raddr_call g cap W M hf.wid.2.2.2 hM w hb)
  have HN := Lib.hid hN
  have HY := Lib.hid hy
  have HNO := Lib.hid hno
  obtain ⟨w1, w2, w3, w4⟩ := hf.wid
  clear hN hf hy hno w1 w2
  go_enter Try.func10, Try.ntmps10
  go_wp2_with fail
  generalize hv : World.alloc (World.alloc _ _) _ = v
  have TA : RowKit.Hid (Ad2 (w.heap.size + 1) v 0 0) := Lib.hid (by
    rw [← hv]
    have := Ad2.new (w.alloc (.cells #[.int .u64 (aH N), .int .u64 (aL N)] 24)) 0 0 24
    simpa using this)
  have TP : RowKit.Hid (Ad2 w.heap.size v (aH N) (aL N)) := Lib.hid (by rw [← hv]; exact (Ad2.new w _ _ _).on (below_new _ _))
  have HB := Lib.hid (show Below w.heap.size w v by rw [← hv]; exact ((Below.refl _ _).alloc (Nat.le_refl _) _).alloc (by simp) _)
  clear hv
  refine (HA.out v).mono ?_
  rintro e w1 ⟨rfl, hb1⟩
  have TA1 := Lib.hid (TA.out.on hb1)
  have TP1 := Lib.hid (TP.out.on hb1)
  have HB1 := Lib.hid (HB.out.trans (hb1.mono HB.out.size))
  clear hb1 TA TP HB
  obtain ⟨p0, p1, _, _⟩ := TP1.out
  go_wp2_with fail
  refine (HBits.out w1).mono ?_
  rintro e w2 ⟨g, cap, rfl, hg, hbits, hc1, hc2, hb2⟩
  have TA2 := Lib.hid (TA1.out.on hb2)
  have HB2 := Lib.hid (HB1.out.trans (hb2.mono HB1.out.size))
  have HG := Lib.hid (show w.heap.size + 1 < g by have := TA1.out.lt; omega)
  have HBI := Lib.hid hbits
  clear hb2 TA1 TP1 HB1 p0 p1 hbits hg
  go_wp2_with fail
  go_loopw [7] (fun i wr => ∃ x : Int, -1 ≤ x ∧ x < W ∧ i = .int .i64 x ∧ Below w.heap.size w wr ∧ Ad2 (w.heap.size + 1) wr 0 0 ∧ ∃ k : Nat, (k : Int) = W - 1 - x ∧ N % 2 ^ k = 2 ^ k - 1 ∧ BitsAt g W (N - (2 ^ k - 1)) wr) (fun i _ => (intOf i + 1).toNat)
  case atStart =>
    refine ⟨_, by omega, by omega, rfl, HB2.out, TA2.out, 0, by omega, by simp [Nat.mod_one], by simpa using HBI.out⟩
  case round =>
    obtain ⟨x, hx1, hx2, rfl, hbel, hA, k, hk, hm, hB⟩ := hrel
    have HBL := Lib.hid hbel
    have HA2 := Lib.hid hA
    have HB4 := Lib.hid hB
    have HM := Lib.hid hm
    have hgr := hB.lt
    have hg := HG.out
    by_cases hx : 0 ≤ x
    · obtain ⟨n, rfl⟩ := Int.eq_ofNat_of_zero_le hx
      have en : W - 1 - k = n := by omega
      have ck := hB.cell n (by omega)
      have fk := hB.free n (by omega)
      rw [show W - 1 - n = k by omega] at ck
      have hkW : k < W := by omega
      have H0 : biP (N - (2 ^ k - 1)) k = biP N k := by
        unfold biP
        rw [← hm, low_div]
      rw [H0] at ck
      have HK := Lib.hid hk
      have HKW := Lib.hid hkW
      have HEN := Lib.hid en
      have HH0 := Lib.hid H0
      clear hbel hA hB hm H0 hk hkW en
      rcases biP_01 N k with hz | hz
      · rw [hz] at ck
        have HZ := Lib.hid hz
        clear hz
        have hS : BitsAt g W (N + 1) (wr.setCell ⟨g, n, none⟩ (.int .i64 1)) := by
          have h := HB4.out.set HKW.out (biP_up (by rw [HH0.out]; exact HZ.out))
          rw [HEN.out] at h
          have hp := Nat.two_pow_pos k
          have hle : 2 ^ k - 1 ≤ N := by have := HM.out; have := Nat.mod_le N (2 ^ k); omega
          rw [show N - (2 ^ k - 1) + 2 ^ k = N + 1 by omega] at h
          exact h
        have hlt : N + 1 < 2 ^ W := bit_room HN.out HKW.out HZ.out
        have HS := Lib.hid hS
        obtain ⟨rfl, rfl, rfl⟩ := HY.out hlt
        have HLT := Lib.hid hlt
        clear hS hlt
        go_wp2_with fail
        generalize hv : World.setCell _ _ _ = v3 at HS
        have HB5 := Lib.hid (show Below w.heap.size w v3 by rw [← hv]; exact HBL.out.setCell (by show w.heap.size ≤ g; omega) _)
        have TA3 := Lib.hid (show Ad2 (w.heap.size + 1) v3 0 0 by rw [← hv]; exact HA2.out.away (by omega))
        clear hv
        refine (HAddr.out g cap (N + 1) HLT.out v3 HS.out).mono ?_
        rintro e w4 ⟨rfl, hb4⟩
        have TA4 := Lib.hid (TA3.out.on hb4)
        have HB6 := Lib.hid (HB5.out.trans (hb4.mono HB5.out.size))
        clear hb4
        obtain ⟨a0, a1, f0, f1⟩ := TA4.out
        go_wp2_with fail
        have A := TA4.out.set (a' := aH (N + 1)) (b' := aL (N + 1))
        refine bodyPost_ret (v := .tuple #[.agg #[.int .u64 (aH (N + 1)), .int .u64 (aL (N + 1))], .bool true]) (by simp [results, Try.results10, go_sem, A.a0, A.a1]) rfl ⟨rfl, ad_below HB6.out (by omega)⟩
      · rw [hz] at ck
        have HZ := Lib.hid hz
        clear hz
        have hS : BitsAt g W (N - (2 ^ (k + 1) - 1)) (wr.setCell ⟨g, n, none⟩ (.int .i64 0)) := by
          have h := HB4.out.set HKW.out (biP_dn (by rw [HH0.out]; exact HZ.out))
          rw [HEN.out] at h
          have hp := Nat.two_pow_pos k
          rw [show N - (2 ^ k - 1) - 2 ^ k = N - (2 ^ (k + 1) - 1) by rw [Nat.pow_succ]; omega] at h
          exact h
        have hm2 : N % 2 ^ (k + 1) = 2 ^ (k + 1) - 1 := by
          have := mod_succ N k
          have hz := HZ.out
          have hm := HM.out
          have hp := Nat.two_pow_pos k
          unfold biP at hz
          rw [this, hm, show N / 2 ^ k % 2 = 1 by omega, Nat.pow_succ]
          omega
        have HS := Lib.hid hS
        have HM2 := Lib.hid hm2
        clear hS hm2
        go_wp2_with fail
        generalize hv : World.setCell _ _ _ = v3 at HS
        have HB5 := Lib.hid (show Below w.heap.size w v3 by rw [← hv]; exact HBL.out.setCell (by show w.heap.size ≤ g; omega) _)
        have TA3 := Lib.hid (show Ad2 (w.heap.size + 1) v3 0 0 by rw [← hv]; exact HA2.out.away (by omega))
        clear hv
        go_roundw
        case rel => exact ⟨_, by omega, by omega, rfl, HB5.out, TA3.out, k + 1, by have := HK.out; omega, HM2.out, HS.out⟩
        case measure => simp [intOf]
    · have hk2 : k = W := by omega
      have hn2 : ¬ N + 1 < 2 ^ W := by
        subst hk2
        have := HM.out
        have hN := HN.out
        rw [Nat.mod_eq_of_lt hN] at this
        omega
      obtain ⟨rfl, rfl, rfl⟩ := HNO.out hn2
      have HK2 := Lib.hid hk2
      obtain ⟨a0, a1, f0, f1⟩ := HA2.out
      have hx0 : x < 0 := by omega
      clear hbel hA hB hm hn2 hk2 hk
      go_wp2_with fail
      have A := HA2.out.set (a' := 0) (b' := 0)
      refine bodyPost_ret (v := .tuple #[.agg #[.int .u64 0, .int .u64 0], .bool false]) (by simp [results, Try.results10, go_sem, A.a0, A.a1]) rfl ⟨rfl, ad_below HBL.out (by omega)⟩
set_option maxRecDepth 100000 in
set_option maxHeartbeats 2000000 in
theorem rprev_core (N : Nat) (hN : N < 2 ^ 128) (w : World) (h1 : Int) (l1 : Int) (b1 : Bool)
    (hy : 1 ≤ N → h1 = aH (N - 1) ∧ l1 = aL (N - 1) ∧ b1 = true) (hno : N = 0 → h1 = 0 ∧ l1 = 0 ∧ b1 = false) :
    Calls Try.prog 12 #[.agg #[.int .u64 (aH N), .int .u64 (aL N)]] w fun e w' => e = .returned (.tuple #[.agg #[.int .u64 h1, .int .u64 l1], .bool b1]) ∧ Below w.heap.size w w' := by
  have HBits := Lib.hid (fun w => rbits_call (Or.inr ⟨rfl, rfl⟩ : Fam 6 128) N hN w)
  have HAddr := Lib.hid (fun g cap M (hM : M < 2 ^ 128) w hb => raddr_call g cap 128 M (by omega) hM w hb)
  have HN := Lib.hid hN
  have HY := Lib.hid hy
  have HNO := Lib.hid hno
  clear hN hy hno
  obtain ⟨W, hW⟩ : ∃ W, W = 128 := ⟨_, rfl⟩
  have w4 : W ≤ 128 := by omega
  have w3 : 2 ≤ W := by omega
  rw [← hW] at HBits HAddr HN
  clear hW
  go_enter Try.func12, Try.ntmps12
  go_wp2_with fail
  generalize hv : World.alloc (World.alloc _ _) _ = v
  have TA : RowKit.Hid (Ad2 (w.heap.size + 1) v 0 0) := Lib.hid (by
    rw [← hv]
    have := Ad2.new (w.alloc (.cells #[.int .u64 (aH N), .int .u64 (aL N)] 24)) 0 0 24
    simpa using this)
  have HB := Lib.hid (show Below w.heap.size w v by rw [← hv]; exact ((Below.refl _ _).alloc (Nat.le_refl _) _).alloc (by simp) _)
  clear hv
  refine (HBits.out v).mono ?_
  rintro e w2 ⟨g, cap, rfl, hg, hbits, hc1, hc2, hb2⟩
  have TA2 := Lib.hid (TA.out.on hb2)
  have HB2 := Lib.hid (HB.out.trans (hb2.mono HB.out.size))
  have HG := Lib.hid (show w.heap.size + 1 < g by have := TA.out.lt; omega)
  have HBI := Lib.hid hbits
  clear hb2 TA HB hbits hg
  go_wp2_with fail
  go_loopw [5] (fun i wr => ∃ x : Int, -1 ≤ x ∧ x < W ∧ i = .int .i64 x ∧ Below w.heap.size w wr ∧ Ad2 (w.heap.size + 1) wr 0 0 ∧ ∃ k : Nat, (k : Int) = W - 1 - x ∧ N % 2 ^ k = 0 ∧ BitsAt g W (N + (2 ^ k - 1)) wr) (fun i _ => (intOf i + 1).toNat)
  case atStart =>
    refine ⟨_, by omega, by omega, rfl, HB2.out, TA2.out, 0, by omega, by simp [Nat.mod_one], by simpa using HBI.out⟩
  case round =>
    obtain ⟨x, hx1, hx2, rfl, hbel, hA, k, hk, hm, hB⟩ := hrel
    have HBL := Lib.hid hbel
    have HA2 := Lib.hid hA
    have HB4 := Lib.hid hB
    have HM := Lib.hid hm
    have hgr := hB.lt
    have hg := HG.out
    by_cases hx : 0 ≤ x
    · obtain ⟨n, rfl⟩ := Int.eq_ofNat_of_zero_le hx
      have en : W - 1 - k = n := by omega
      have ck := hB.cell n (by omega)
      have fk := hB.free n (by omega)
      rw [show W - 1 - n = k by omega] at ck
      have hkW : k < W := by omega
      have H0 : biP (N + (2 ^ k - 1)) k = biP N k := by
        unfold biP
        rw [low_add hm]
      rw [H0] at ck
      have HK := Lib.hid hk
      have HKW := Lib.hid hkW
      have HEN := Lib.hid en
      have HH0 := Lib.hid H0
      clear hbel hA hB hm H0 hk hkW en
      rcases biP_01 N k with hz | hz
      rotate_left
      · rw [hz] at ck
        have HZ := Lib.hid hz
        clear hz
        have hN1 : 2 ^ k ≤ N := by
          have hz := HZ.out
          unfold biP at hz
          rcases Nat.lt_or_ge N (2 ^ k) with h2 | h2
          · rw [Nat.div_eq_of_lt h2] at hz; simp at hz
          · exact h2
        have hS : BitsAt g W (N - 1) (wr.setCell ⟨g, n, none⟩ (.int .i64 0)) := by
          have h := HB4.out.set HKW.out (biP_dn (by rw [HH0.out]; exact HZ.out))
          rw [HEN.out] at h
          have hp := Nat.two_pow_pos k
          rw [show N + (2 ^ k - 1) - 2 ^ k = N - 1 by omega] at h
          exact h
        have hlt : N - 1 < 2 ^ W := by have := HN.out; omega
        have HS := Lib.hid hS
        have hp := Nat.two_pow_pos k
        obtain ⟨rfl, rfl, rfl⟩ := HY.out (by omega)
        have HLT := Lib.hid hlt
        clear hS hlt hN1 hp
        go_wp2_with fail
        generalize hv : World.setCell _ _ _ = v3 at HS
        have HB5 := Lib.hid (show Below w.heap.size w v3 by rw [← hv]; exact HBL.out.setCell (by show w.heap.size ≤ g; omega) _)
        have TA3 := Lib.hid (show Ad2 (w.heap.size + 1) v3 0 0 by rw [← hv]; exact HA2.out.away (by omega))
        clear hv
        refine (HAddr.out g cap (N - 1) HLT.out v3 HS.out).mono ?_
        rintro e w4 ⟨rfl, hb4⟩
        have TA4 := Lib.hid (TA3.out.on hb4)
        have HB6 := Lib.hid (HB5.out.trans (hb4.mono HB5.out.size))
        clear hb4
        obtain ⟨a0, a1, f0, f1⟩ := TA4.out
        go_wp2_with fail
        have A := TA4.out.set (a' := aH (N - 1)) (b' := aL (N - 1))
        refine bodyPost_ret (v := .tuple #[.agg #[.int .u64 (aH (N - 1)), .int .u64 (aL (N - 1))], .bool true]) (by simp [results, Try.results12, go_sem, A.a0, A.a1]) rfl ⟨rfl, ad_below HB6.out (by omega)⟩
      · rw [hz] at ck
        have HZ := Lib.hid hz
        clear hz
        have hS : BitsAt g W (N + (2 ^ (k + 1) - 1)) (wr.setCell ⟨g, n, none⟩ (.int .i64 1)) := by
          have h := HB4.out.set HKW.out (biP_up (by rw [HH0.out]; exact HZ.out))
          rw [HEN.out] at h
          have hp := Nat.two_pow_pos k
          rw [show N + (2 ^ k - 1) + 2 ^ k = N + (2 ^ (k + 1) - 1) by rw [Nat.pow_succ]; omega] at h
          exact h
        have hm2 : N % 2 ^ (k + 1) = 0 := by
          have := mod_succ N k
          have hz := HZ.out
          have hm := HM.out
          unfold biP at hz
          rw [this, hm, show N / 2 ^ k % 2 = 0 by omega, Nat.mul_zero]
        have HS := Lib.hid hS
        have HM2 := Lib.hid hm2
        clear hS hm2
        go_wp2_with fail
        generalize hv : World.setCell _ _ _ = v3 at HS
        have HB5 := Lib.hid (show Below w.heap.size w v3 by rw [← hv]; exact HBL.out.setCell (by show w.heap.size ≤ g; omega) _)
        have TA3 := Lib.hid (show Ad2 (w.heap.size + 1) v3 0 0 by rw [← hv]; exact HA2.out.away (by omega))
        clear hv
        go_roundw
        case rel => exact ⟨_, by omega, by omega, rfl, HB5.out, TA3.out, k + 1, by have := HK.out; omega, HM2.out, HS.out⟩
        case measure => simp [intOf]
    · have hk2 : k = W := by omega
      have hn2 : N = 0 := by
        subst hk2
        have := HM.out
        have hN := HN.out
        rw [Nat.mod_eq_of_lt hN] at this
        exact this
      obtain ⟨rfl, rfl, rfl⟩ := HNO.out hn2
      have HK2 := Lib.hid hk2
      obtain ⟨a0, a1, f0, f1⟩ := HA2.out
      have hx0 : x < 0 := by omega
      clear hbel hA hB hm hn2 hk2 hk
      go_wp2_with fail
      have A := HA2.out.set (a' := 0) (b' := 0)
      refine bodyPost_ret (v := .tuple #[.agg #[.int .u64 0, .int .u64 0], .bool false]) (by simp [results, Try.results12, go_sem, A.a0, A.a1]) rfl ⟨rfl, ad_below HBL.out (by omega)⟩
theorem blk_le {W N k : Nat} (ha : N % 2 ^ k = 0) (hN : N < 2 ^ W) (hk : k ≤ W) : N + 2 ^ k ≤ 2 ^ W := by
  obtain ⟨q, rfl⟩ := Nat.dvd_of_mod_eq_zero ha
  have e : 2 ^ W = 2 ^ k * 2 ^ (W - k) := by rw [← Nat.pow_add]; congr 1; omega
  rw [e] at hN ⊢
  have hlt : q < 2 ^ (W - k) := Nat.lt_of_mul_lt_mul_left hN
  rw [show 2 ^ k * q + 2 ^ k = 2 ^ k * (q + 1) by rw [Nat.mul_add, Nat.mul_one]]
  exact Nat.mul_le_mul_left _ hlt
set_option maxRecDepth 100000 in
set_option maxHeartbeats 2000000 in
theorem rlast_any {f : Int} {W : Nat} (hf : Fam f W) (N n : Nat) (hn : n ≤ W) (hN : N < 2 ^ W) (ha : N % 2 ^ (W - n) = 0) (w : World) :
    Calls Try.prog 18 #[.agg #[.int .u8 f, .int .u64 (aH N), .int .u64 (aL N), .int .i64 n]] w fun e w' => e = .returned (.agg #[.int .u64 (aH (N + 2 ^ (W - n) - 1)), .int .u64 (aL (N + 2 ^ (W - n) - 1))]) ∧ Below w.heap.size w w' := by
  have HBits := Lib.hid (fun w => rbits_call hf N (hf.lt hN) w)
  have HAddr := Lib.hid (fun g cap M (hM : M < 2 ^ W) w hb => raddr_call g cap W M hf.wid.2.2.2 hM w hb)
  have HBLK := Lib.hid (blk_le ha hN (Nat.sub_le W n))
  have HAl := Lib.hid ha
  have HN := Lib.hid hN
  obtain ⟨w1, w2, w3, w4⟩ := hf.wid
  obtain ⟨E, hE⟩ : ∃ E, N + 2 ^ (W - n) - 1 = E := ⟨_, rfl⟩
  rw [hE]
  have HEq := Lib.hid hE
  clear hN hf ha w1 w2 hE
  go_enter Try.func18, Try.ntmps18
  go_wp2_with fail
  generalize hv : World.alloc (World.alloc _ _) _ = v
  have TA : RowKit.Hid (Ad2 (w.heap.size + 1) v 0 0) := Lib.hid (by
    rw [← hv]
    have := Ad2.new (w.alloc (.cells #[.int .u8 f, .int .u64 (aH N), .int .u64 (aL N), .int .i64 n] 28)) 0 0 24
    simpa using this)
  have TP : RowKit.Hid (Pf4 w.heap.size v f (aH N) (aL N) n) := Lib.hid (by rw [← hv]; exact (Pf4.new w _ _ _ _ _).on (below_new _ _))
  have HB := Lib.hid (show Below w.heap.size w v by rw [← hv]; exact ((Below.refl _ _).alloc (Nat.le_refl _) _).alloc (by simp) _)
  clear hv
  obtain ⟨p0, p1, p2, p3, _, _, _, _⟩ := TP.out
  go_wp2_with fail
  refine (HBits.out v).mono ?_
  rintro e w2 ⟨g, cap, rfl, hg, hbits, hc1, hc2, hb2⟩
  have TA2 := Lib.hid (TA.out.on hb2)
  have TP2 := Lib.hid (TP.out.on hb2)
  have HB2 := Lib.hid (HB.out.trans (hb2.mono HB.out.size))
  have HG := Lib.hid (show w.heap.size + 1 < g by have := TA.out.lt; omega)
  have HBI := Lib.hid hbits
  clear hb2 TA HB TP hbits hg p0 p1 p2 p3
  obtain ⟨p0, p1, p2, p3, _, _, _, _⟩ := TP2.out
  go_wp2_with fail
  clear p0 p1 p2 p3
  go_loopw [4] (fun i wr => ∃ k : Nat, n ≤ k ∧ k ≤ W ∧ i = .int .i64 k ∧ Below w.heap.size w wr ∧ Ad2 (w.heap.size + 1) wr 0 0 ∧ BitsAt g W (N + (2 ^ (W - n) - 2 ^ (W - k))) wr) (fun i _ => W - (intOf i).toNat)
  case atStart =>
    refine ⟨n, Nat.le_refl _, hn, rfl, HB2.out, TA2.out, by simpa using HBI.out⟩
  case round =>
    obtain ⟨k, hk1, hk2, rfl, hbel, hA, hB⟩ := hrel
    have HBL := Lib.hid hbel
    have HA2 := Lib.hid hA
    have HB4 := Lib.hid hB
    have hgr := hB.lt
    have hg := HG.out
    by_cases hlt : k < W
    · have fk := hB.free k hlt
      obtain ⟨x, hx⟩ := (⟨_, hB.cell k hlt⟩ : ∃ x, wr.cell? ⟨g, k, none⟩ = some x)
      have hS : BitsAt g W (N + (2 ^ (W - n) - 2 ^ (W - (k + 1)))) (wr.setCell ⟨g, k, none⟩ (.int .i64 1)) := by
        have hd : biP (N + (2 ^ (W - n) - 2 ^ (W - k))) (W - 1 - k) = 0 := by
          unfold biP
          have := dvd_last HAl.out (k := W - 1 - k) (by omega)
          rw [show W - 1 - k + 1 = W - k by omega] at this
          rw [dvd_bit (by rw [show W - 1 - k + 1 = W - k by omega]; exact this)]
          rfl
        have h := HB4.out.set (show W - 1 - k < W by omega) (biP_up hd)
        rw [show W - 1 - (W - 1 - k) = k by omega] at h
        have e1 : 2 ^ (W - k) = 2 * 2 ^ (W - (k + 1)) := by rw [show W - k = W - (k + 1) + 1 by omega, Nat.pow_succ]; omega
        have e2 : 2 ^ (W - k) ≤ 2 ^ (W - n) := Nat.pow_le_pow_right (by omega) (by omega)
        have e3 : 2 ^ (W - 1 - k) = 2 ^ (W - (k + 1)) := by congr 1; omega
        have e4 : ∀ X Y Z T : Nat, Y = 2 * Z → Y ≤ X → T = Z → N + (X - Y) + T = N + (X - Z) := by omega
        rw [e4 _ _ _ _ e1 e2 e3] at h
        exact h
      have HS := Lib.hid hS
      clear hS hbel hA hB
      go_wp2_with fail
      generalize hv : World.setCell _ _ _ = v3 at HS
      have HB5 := Lib.hid (show Below w.heap.size w v3 by rw [← hv]; exact HBL.out.setCell (by show w.heap.size ≤ g; omega) _)
      have TA3 := Lib.hid (show Ad2 (w.heap.size + 1) v3 0 0 by rw [← hv]; exact HA2.out.away (by omega))
      clear hv
      go_roundw
      case rel => exact ⟨k + 1, by omega, by omega, by go_num, HB5.out, TA3.out, HS.out⟩
      case measure => simp [intOf]; omega
    · have hk : k = W := by omega
      subst hk
      have hE : N + (2 ^ (k - n) - 2 ^ (k - k)) = N + 2 ^ (k - n) - 1 := by
        have hp := Nat.two_pow_pos (k - n)
        rw [Nat.sub_self, Nat.pow_zero]
        omega
      rw [hE] at HB4
      have hltE : N + 2 ^ (k - n) - 1 < 2 ^ k := by
        have := HBLK.out
        have hp := Nat.two_pow_pos (k - n)
        omega
      have HLT := Lib.hid hltE
      clear hE hltE hbel hA hB
      rw [HEq.out] at HB4 HLT
      go_wp2_with fail
      refine (HAddr.out g cap E HLT.out wr HB4.out).mono ?_
      rintro e w4 ⟨rfl, hb4⟩
      have TA4 := Lib.hid (HA2.out.on hb4)
      have HB6 := Lib.hid (HBL.out.trans (hb4.mono HBL.out.size))
      clear hb4
      obtain ⟨a0, a1, f0, f1⟩ := TA4.out
      go_wp2_with fail
      have A := TA4.out.set (a' := aH E) (b' := aL E)
      refine bodyPost_ret (v := .agg #[.int .u64 (aH E), .int .u64 (aL E)]) (by simp [results, Try.results18, go_sem, A.a0, A.a1]) rfl ⟨rfl, ad_below HB6.out (by omega)⟩
set_option maxHeartbeats 1000000 in
theorem rof_no (f h l n c : Int) (w : World) (uh : U64 h) (ul : U64 l) (hc : chk f h l n = c) (hc0 : (c != 0) = true) :
    Calls Try.prog 5 #[.agg #[.int .u8 f, .int .u64 h, .int .u64 l, .int .i64 n]] w fun e w' => e = .returned (.tuple #[.agg #[.int .u64 0, .int .u64 0, .int .u64 0, .int .u64 0], .int .i64 c]) ∧ Below w.heap.size w w' := by
  have HC : RowKit.Hid (∀ w, Calls Try.prog 17 #[.agg #[.int .u8 f, .int .u64 h, .int .u64 l, .int .i64 n]] w fun e w' => e = .returned (.int .i64 c) ∧ Below w.heap.size w w') := Lib.hid (fun w => by rw [← hc]; exact rchk_any f h l n w uh ul)
  clear uh ul hc
  go_enter Try.func5, Try.ntmps5
  go_wp2_with fail
  generalize hv : World.alloc (World.alloc _ _) _ = v
  have TP : RowKit.Hid (Pf4 w.heap.size v f h l n) := Lib.hid (by rw [← hv]; exact (Pf4.new w _ _ _ _ _).on (below_new _ _))
  have TS : RowKit.Hid (Sp4 (w.heap.size + 1) v 0 0 0 0) := Lib.hid (by
    rw [← hv]
    have := Sp4.new (w.alloc (.cells #[.int .u8 f, .int .u64 h, .int .u64 l, .int .i64 n] 28)) 0 0 0 0 26
    simpa using this)
  have HB := Lib.hid (show Below w.heap.size w v by rw [← hv]; exact ((Below.refl _ _).alloc (Nat.le_refl _) _).alloc (by simp) _)
  clear hv
  obtain ⟨p0, p1, p2, p3, _, _, _, _⟩ := TP.out
  go_wp2_with fail
  refine (HC.out v).mono ?_
  rintro e w1 ⟨rfl, hb1⟩
  have TS1 := Lib.hid (TS.out.on hb1)
  have TP1 := Lib.hid (TP.out.on hb1)
  have HB1 := Lib.hid (HB.out.trans (hb1.mono HB.out.size))
  clear hb1 TS HB TP p0 p1 p2 p3
  obtain ⟨p0, p1, p2, p3, _, _, _, _⟩ := TP1.out
  go_wp2_with fail
  refine (HC.out w1).mono ?_
  rintro e w2 ⟨rfl, hb2⟩
  have TS2 := Lib.hid (TS1.out.on hb2)
  have HB2 := Lib.hid (HB1.out.trans (hb2.mono HB1.out.size))
  clear hb2 TS1 HB1 TP1 p0 p1 p2 p3
  obtain ⟨s0, s1, s2, s3, fz⟩ := TS2.out
  have g0 := fz 0
  have g1 := fz 1
  have g2 := fz 2
  have g3 := fz 3
  clear fz
  go_wp2_with fail
  have A := sp_set (a' := 0) (b' := 0) (c' := 0) (d' := 0) TS2.out
  refine bodyPost_ret (v := .tuple #[.agg #[.int .u64 0, .int .u64 0, .int .u64 0, .int .u64 0], .int .i64 c]) (by simp [results, Try.results5, go_sem, A.a0, A.a1, A.a2, A.a3]) rfl ⟨rfl, pf_below HB2.out (by omega)⟩
set_option maxRecDepth 100000 in
set_option maxHeartbeats 2000000 in
theorem rof_yes {f : Int} {W : Nat} (hf : Fam f W) (N i : Nat) (hi : i ≤ W) (hN : N < 2 ^ W) (ha : N % 2 ^ (W - i) = 0) (w : World) :
    Calls Try.prog 5 #[.agg #[.int .u8 f, .int .u64 (aH N), .int .u64 (aL N), .int .i64 i]] w fun e w' => e = .returned (.tuple #[.agg #[.int .u64 (aH N), .int .u64 (aL N), .int .u64 (aH (N + 2 ^ (W - i) - 1)), .int .u64 (aL (N + 2 ^ (W - i) - 1))], .int .i64 0]) ∧ Below w.heap.size w w' := by
  have HC : RowKit.Hid (∀ w, Calls Try.prog 17 #[.agg #[.int .u8 f, .int .u64 (aH N), .int .u64 (aL N), .int .i64 i]] w fun e w' => e = .returned (.int .i64 0) ∧ Below w.heap.size w w') := Lib.hid (fun w => by rw [← chk_of_num hf hi hN ha]; exact rchk_any f (aH N) (aL N) i w (aH_u (hf.lt hN)) (aL_u N))
  have HL := Lib.hid (fun w => rlast_any hf N i hi hN ha w)
  obtain ⟨E, hE⟩ : ∃ E, N + 2 ^ (W - i) - 1 = E := ⟨_, rfl⟩
  rw [hE] at HL ⊢
  clear hE hi hN ha hf
  go_enter Try.func5, Try.ntmps5
  go_wp2_with fail
  generalize hv : World.alloc (World.alloc _ _) _ = v
  have TP : RowKit.Hid (Pf4 w.heap.size v f (aH N) (aL N) i) := Lib.hid (by rw [← hv]; exact (Pf4.new w _ _ _ _ _).on (below_new _ _))
  have TS : RowKit.Hid (Sp4 (w.heap.size + 1) v 0 0 0 0) := Lib.hid (by
    rw [← hv]
    have := Sp4.new (w.alloc (.cells #[.int .u8 f, .int .u64 (aH N), .int .u64 (aL N), .int .i64 i] 28)) 0 0 0 0 26
    simpa using this)
  have HB := Lib.hid (show Below w.heap.size w v by rw [← hv]; exact ((Below.refl _ _).alloc (Nat.le_refl _) _).alloc (by simp) _)
  clear hv
  obtain ⟨p0, p1, p2, p3, _, _, _, _⟩ := TP.out
  go_wp2_with fail
  refine (HC.out v).mono ?_
  rintro e w1 ⟨rfl, hb1⟩
  have TS1 := Lib.hid (TS.out.on hb1)
  have TP1 := Lib.hid (TP.out.on hb1)
  have HB1 := Lib.hid (HB.out.trans (hb1.mono HB.out.size))
  clear hb1 TS TP HB p0 p1 p2 p3
  obtain ⟨p0, p1, p2, p3, _, _, _, _⟩ := TP1.out
  obtain ⟨s0, s1, s2, s3, fz⟩ := TS1.out
  have g0 := fz 0
  have g1 := fz 1
  have g2 := fz 2
  have g3 := fz 3
  have zp := TP1.out.lt
  have zs := TS1.out.lt
  clear fz
  go_wp2_with fail
  go_region_with (go_at_call 18; refine (HL.out _).mono ?_; rintro e w3 ⟨rfl, hb3⟩; obtain ⟨hc3, hf3⟩ := bcellD hb3; have zp3 : w.heap.size < w3.heap.size := (by (have := hb3.size; (try simp at this); omega)); have zs3 : w.heap.size + 1 < w3.heap.size := (by (have := hb3.size; (try simp at this); omega)))
  all_goals
    have HB3 := Lib.hid ((((Below.refl w1.heap.size w1).drew).trans hb3))
    have TS3 := Lib.hid (TS1.out.on HB3.out)
    clear hb3 hc3 hf3
    go_wp2_with fail
    have A := sp_set (a' := aH N) (b' := aL N) (c' := aH E) (d' := aL E) TS3.out
    have HB4 := HB1.out.trans (HB3.out.mono HB1.out.size)
    refine bodyPost_ret (v := .tuple #[.agg #[.int .u64 (aH N), .int .u64 (aL N), .int .u64 (aH E), .int .u64 (aL E)], .int .i64 0]) (by simp [results, Try.results5, go_sem, A.a0, A.a1, A.a2, A.a3]) rfl ⟨rfl, ?_⟩
    first
      | exact pf_below HB4 (by omega)
      | exact (pf_below HB4 (by omega)).drew
end Go.Proofs.Ytjngfieggacpiaa
