/-
  THE WALKS over the reference of layer 1: Check.
-/
import Derived.Test.YthfgdgcdicacpaaNumRefB
namespace Go.Proofs.Ythfgdgcdicacpaa
open Go.RowKit Adr
set_option maxHeartbeats 400000 in
theorem rchk_none (f h l n : Int) (w : World) (hW : wid f = 0) :
    Calls Try.prog 34 #[.agg #[.int .u8 f, .int .u64 h, .int .u64 l, .int .i64 n]] w fun e w' => e = .returned (.int .i64 2) ∧ Below w.heap.size w w' := by
  have HW := Lib.hid hW
  clear hW
  go_enter Try.func34, Try.ntmps34
  go_wp2_with (go_at_call 51; refine (rwidth_any _ _).mono ?_; rintro e w2 ⟨rfl, rfl⟩; rw [HW.out])
  go_ret
  exact ⟨rfl, (Below.refl _ _).alloc (Nat.le_refl _) _⟩
set_option maxHeartbeats 400000 in
theorem rchk_no1 (f h l n : Int) (W : Nat) (w : World) (ul : U64 l) (hW : wid f = (W : Int)) (h0 : 0 < W) (h1 : W ≤ 128) (_hca : ca f h l = false) :
    Calls Try.prog 34 #[.agg #[.int .u8 f, .int .u64 h, .int .u64 l, .int .i64 n]] w fun e w' => e = .returned (.int .i64 8) ∧ Below w.heap.size w w' := by
  have l0 := ul.1
  have HW := Lib.hid hW
  clear hW ul
  have z1 : ((W : Int) == 0) = false := by simp; omega
  go_enter Try.func34, Try.ntmps34
  go_wp2_with (first | (go_at_call 51; refine (rwidth_any _ _).mono ?_; rintro e w2 ⟨rfl, rfl⟩; rw [HW.out]) | (go_at_call 65; refine (rca_any _ _ _ _ l0).mono ?_; rintro e w1 ⟨rfl, hb1⟩; obtain ⟨hc1, hf1⟩ := bcell hb1; have hz1 : w.heap.size < w1.heap.size := (by (have := hb1.size; (try simp at this); omega))))
  go_ret
  exact ⟨rfl, ((Below.refl _ _).alloc (Nat.le_refl _) _).trans (hb1.mono (by simp))⟩
set_option maxHeartbeats 400000 in
theorem rchk_no2 (f h l n : Int) (W : Nat) (w : World) (ul : U64 l) (hW : wid f = (W : Int)) (h0 : 0 < W) (h1 : W ≤ 128) (_hca : ca f h l = true) (_hn : n < 0) :
    Calls Try.prog 34 #[.agg #[.int .u8 f, .int .u64 h, .int .u64 l, .int .i64 n]] w fun e w' => e = .returned (.int .i64 8) ∧ Below w.heap.size w w' := by
  have l0 := ul.1
  have HW := Lib.hid hW
  clear hW ul
  have z1 : ((W : Int) == 0) = false := by simp; omega
  go_enter Try.func34, Try.ntmps34
  go_wp2_with (first | (go_at_call 51; refine (rwidth_any _ _).mono ?_; rintro e w2 ⟨rfl, rfl⟩; rw [HW.out]) | (go_at_call 65; refine (rca_any _ _ _ _ l0).mono ?_; rintro e w1 ⟨rfl, hb1⟩; obtain ⟨hc1, hf1⟩ := bcell hb1; have hz1 : w.heap.size < w1.heap.size := (by (have := hb1.size; (try simp at this); omega))))
  go_ret
  exact ⟨rfl, ((Below.refl _ _).alloc (Nat.le_refl _) _).trans (hb1.mono (by simp))⟩
set_option maxHeartbeats 400000 in
theorem rchk_no3 (f h l n : Int) (W : Nat) (w : World) (ul : U64 l) (hW : wid f = (W : Int)) (h0 : 0 < W) (h1 : W ≤ 128) (_hca : ca f h l = true) (_hn : 0 ≤ n) (_hw : (W : Int) < n) :
    Calls Try.prog 34 #[.agg #[.int .u8 f, .int .u64 h, .int .u64 l, .int .i64 n]] w fun e w' => e = .returned (.int .i64 8) ∧ Below w.heap.size w w' := by
  have l0 := ul.1
  have HW := Lib.hid hW
  clear hW ul
  have z1 : ((W : Int) == 0) = false := by simp; omega
  go_enter Try.func34, Try.ntmps34
  go_wp2_with (first | (go_at_call 51; refine (rwidth_any _ _).mono ?_; rintro e w2 ⟨rfl, rfl⟩; rw [HW.out]) | (go_at_call 65; refine (rca_any _ _ _ _ l0).mono ?_; rintro e w1 ⟨rfl, hb1⟩; obtain ⟨hc1, hf1⟩ := bcell hb1; have hz1 : w.heap.size < w1.heap.size := (by (have := hb1.size; (try simp at this); omega))))
  go_ret
  exact ⟨rfl, ((Below.refl _ _).alloc (Nat.le_refl _) _).trans (hb1.mono (by simp))⟩
set_option maxHeartbeats 1000000 in
theorem rchk_yes (f h l : Int) (n W : Nat) (w : World) (uh : U64 h) (ul : U64 l) (hW : wid f = (W : Int)) (h0 : 0 < W) (h1 : W ≤ 128) (hca : ca f h l = true) (hn : n ≤ W) :
    Calls Try.prog 34 #[.agg #[.int .u8 f, .int .u64 h, .int .u64 l, .int .i64 n]] w fun e w' => ∃ c : Int, e = .returned (.int .i64 c) ∧ ((c = 0 ∧ ∀ j : Nat, n ≤ j → j < W → bt h l ((W : Int) - 1 - j) = 0) ∨ (c = 8 ∧ ∃ j : Nat, n ≤ j ∧ j < W ∧ bt h l ((W : Int) - 1 - j) ≠ 0)) ∧ Below w.heap.size w w' := by
  have l0 := ul.1
  have Uh := Lib.hid uh
  have Ul := Lib.hid ul
  have HW := Lib.hid hW
  clear uh ul hW
  have z1 : ((W : Int) == 0) = false := by simp; omega
  go_enter Try.func34, Try.ntmps34
  go_wp2_with (first | (go_at_call 51; refine (rwidth_any _ _).mono ?_; rintro e w2 ⟨rfl, rfl⟩; rw [HW.out]) | (go_at_call 65; refine (rca_any _ _ _ _ l0).mono ?_; rintro e w1 ⟨rfl, hb1⟩; obtain ⟨hc1, hf1⟩ := bcell hb1; have hz1 : w.heap.size < w1.heap.size := (by (have := hb1.size; (try simp at this); omega))) | (go_at_call 66; refine (bits_call _ _ _ _ Uh.out Ul.out W HW.out (by omega)).mono ?_; rintro e w3 ⟨g, cap, rfl, hg1, hg2, hcap1, hcap2, hcell, hfr, hb3⟩; obtain ⟨hc3, hf3⟩ := bcell hb3; clear hfr))
  have hbb : Below w.heap.size w w3 := (((Below.refl _ _).alloc (Nat.le_refl _) _).trans (hb1.mono (by simp))).trans (hb3.mono (by omega))
  clear hc1 hf1 hc3 hf3 hb1 hb3
  go_loop [5] (fun i => ∃ k : Nat, n ≤ k ∧ k ≤ W ∧ i = .int .i64 k ∧ ∀ j : Nat, n ≤ j → j < k → bt h l ((W : Int) - 1 - j) = 0) (fun i => W - (intOf i).toNat)
  case atStart => exact ⟨n, Nat.le_refl _, hn, rfl, fun j a b => by omega⟩
  case round =>
    obtain ⟨k, hk1, hk2, rfl, hz⟩ := hrel
    have HZ := Lib.hid hz
    clear hz
    by_cases hlt : k < W
    · have hk3 := hcell k hlt
      have HC := Lib.hid hcell
      clear hcell
      by_cases hb : bt h l ((W : Int) - 1 - k) = 0
      · have HB := Lib.hid hb
        have hb0 : (bt h l ((W : Int) - 1 - k) != 0) = false := by simp [hb]
        clear hb
        go_wp2
        go_round
        case rel =>
          refine ⟨k + 1, by omega, by omega, by go_num, fun j a b => ?_⟩
          by_cases hj : j = k
          · subst hj; exact HB.out
          · exact HZ.out j a (by omega)
        case measure => simp [intOf]; omega
      · have HB := Lib.hid hb
        have hb0 : (bt h l ((W : Int) - 1 - k) != 0) = true := by simp [hb]
        clear hb
        go_wp2
        go_ret
        exact ⟨8, rfl, .inr ⟨rfl, k, hk1, hlt, HB.out⟩, hbb⟩
    · clear hcell
      go_wp2
      go_ret
      have e : k = W := by omega
      subst e
      exact ⟨0, rfl, .inl ⟨rfl, HZ.out⟩, hbb⟩
theorem rchk_any (f h l n : Int) (w : World) (uh : U64 h) (ul : U64 l) :
    Calls Try.prog 34 #[.agg #[.int .u8 f, .int .u64 h, .int .u64 l, .int .i64 n]] w fun e w' => e = .returned (.int .i64 (chk f h l n)) ∧ Below w.heap.size w w' := by
  obtain ⟨W, hW⟩ : ∃ W : Nat, wid f = (W : Int) := ⟨(wid f).toNat, by have := wid_lo f; omega⟩
  have hw : W ≤ 128 := by have := wid_hi f; omega
  by_cases h0 : wid f = 0
  · have hk : ok f h l n = false := by
      have : ca f h l = false := by
        unfold wid at h0; unfold ca
        split at h0
        · omega
        · split at h0
          · omega
          · simp [*]
      simp [ok, cutOk, this]
    simpa [chk, hk, h0] using rchk_none f h l n w h0
  · have w0 : 0 < W := by omega
    cases hca : ca f h l
    · have hk : ok f h l n = false := by simp [ok, cutOk, hca]
      simpa [chk, hk, h0] using rchk_no1 f h l n W w ul hW w0 hw hca
    · by_cases hn : n < 0
      · have hk : ok f h l n = false := by simp [ok, cutOk, hca]; intro a; omega
        simpa [chk, hk, h0] using rchk_no2 f h l n W w ul hW w0 hw hca hn
      · by_cases hnw : (W : Int) < n
        · have hk : ok f h l n = false := by simp [ok, cutOk, hca]; intro a b; omega
          simpa [chk, hk, h0] using rchk_no3 f h l n W w ul hW w0 hw hca (by omega) hnw
        · obtain ⟨m, rfl⟩ := Int.eq_ofNat_of_zero_le (show 0 ≤ n by omega)
          refine (rchk_yes f h l m W w uh ul hW w0 hw hca (by omega)).mono ?_
          rintro e w' ⟨c, rfl, hc, hb⟩
          have key := chk_iff uh ul W m (by omega)
          refine ⟨?_, hb⟩
          rw [← hW] at key hc
          rcases hc with ⟨rfl, hz⟩ | ⟨rfl, j, j1, j2, j3⟩
          · obtain ⟨a, b⟩ := key.1 hz
            have hk : ok f h l m = true := by simp [ok, cutOk, hca, a, b]; omega
            simp [chk, hk]
          · have hk : ok f h l m = false := by
              cases hq : ok f h l m with
              | false => rfl
              | true =>
                simp only [ok, Bool.and_eq_true, beq_iff_eq] at hq
                exact absurd (key.2 hq.2 j j1 j2) j3
            simp [chk, hk, h0]
end Go.Proofs.Ythfgdgcdicacpaa
