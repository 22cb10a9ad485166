/-
  THE WALKS over the texts of the reference of layer 1: the string of an address of 32 bits; numbers of systems.
-/
import Derived.Test.YtlikgfmcialepaaGreatDoorTxRefA
import Derived.Test.YtlikgfmcialepaaGreatDoorAsText
namespace Go.Proofs.YtlikgfmcialepaaGreatDoor
open Go.RowKit Adr
set_option linter.unusedVariables false
set_option linter.unusedSimpArgs false
theorem dg_dec : ∀ n, n < 2 ^ 64 → dg 10 n = Lib.decDigits n := by
  intro n
  induction n using Nat.strongRecOn with
  | _ n ih =>
    intro hn
    have h1 : ∀ d, d < 10 → hexc d = UInt8.ofNat (48 + d) := by decide
    rw [dg_step 10 n (by omega) hn, Lib.decDigits]
    by_cases h : n < 10
    · rw [if_pos h, dif_pos h, h1 n h]
    · rw [if_neg h, dif_neg h, ih (n / 10) (by omega) (by omega), h1 (n % 10) (by omega)]
/-- the bits of an address, in numbers -/
theorem rbits_num (f : Int) (H L W : Nat) (hW : wid f = (W : Int)) (h0 : 0 < W) (hH : H < 18446744073709551616) (hL : L < 18446744073709551616) (w : World) :
    Calls Tryz.prog 26 #[.int .u8 f, .agg #[.int .u64 H, .int .u64 L]] w fun e w' => ∃ g cap : Nat, e = .returned (.slice (some ⟨g, 0, none⟩) W cap) ∧ w.heap.size < g ∧ g < w'.heap.size ∧ W ≤ cap ∧ cap ≤ maxLen ∧ (∀ j, j < W → w'.cell? ⟨g, j, none⟩ = some (.int .i64 ((num H L / 2 ^ (W - 1 - j) % 2 : Nat) : Int))) ∧ Below w.heap.size w w' := by
  refine (bits_call f H L w ⟨by omega, by omega⟩ ⟨by omega, by omega⟩ W hW h0).mono ?_
  rintro e w' ⟨g, cap, rfl, hg1, hg2, hc1, hc2, hcell, hfr, hb⟩
  exact ⟨g, cap, rfl, by omega, hg2, hc1, hc2, fun j hj => by rw [hcell j hj, bt_at H L W j (by omega) hj], hb⟩
theorem four_bits (L i j : Nat) (hi : i < 4) (hj : j < 8) : num 0 L / 2 ^ (32 - 1 - (8 * i + j)) % 2 = L / 2 ^ (8 * (3 - i)) / 2 ^ (8 - 1 - j) % 2 := by
  unfold num
  rw [Nat.zero_mul, Nat.zero_add, Nat.div_div_eq_div_mul, ← Nat.pow_add, show 8 * (3 - i) + (8 - 1 - j) = 32 - 1 - (8 * i + j) by omega]
set_option maxRecDepth 100000 in
set_option maxHeartbeats 8000000 in
theorem rtext4 (L : Nat) (hL : L < 4294967296) (w : World) :
    Calls Tryz.prog 6 #[.int .u8 4, .agg #[.int .u64 0, .int .u64 L]] w fun e w' => e = .returned (.tuple #[.string (str (fourS L)), .int .i64 0]) ∧ Below w.heap.size w w' := by
  have HCA : RowKit.Hid (∀ w, Calls Tryz.prog 25 #[.int .u8 4, .agg #[.int .u64 0, .int .u64 L]] w fun e w' => e = .returned (.bool true) ∧ Below w.heap.size w w') := Lib.hid (fun w => by
    have h := rca_any 4 0 L w (by omega)
    rw [show ca 4 0 (L : Int) = true by simp [ca]; omega] at h
    exact h)
  have HBits : RowKit.Hid (∀ w, Calls Tryz.prog 26 #[.int .u8 4, .agg #[.int .u64 0, .int .u64 L]] w fun e w' => ∃ g cap : Nat, e = .returned (.slice (some ⟨g, 0, none⟩) 32 cap) ∧ w.heap.size < g ∧ g < w'.heap.size ∧ 32 ≤ cap ∧ cap ≤ maxLen ∧ (∀ j, j < 32 → w'.cell? ⟨g, j, none⟩ = some (.int .i64 ((num 0 L / 2 ^ (32 - 1 - j) % 2 : Nat) : Int))) ∧ Below w.heap.size w w') :=
    Lib.hid (fun w => rbits_num 4 0 L 32 rfl (by omega) (by omega) (by omega) w)
  have HD : RowKit.Hid (∀ i : Nat, ∀ w, Calls Tryz.prog 27 #[.int .u64 ((byteAt L i : Nat) : Int), .int .u64 10] w fun e w' => e = .returned (.string (str (Lib.decDigits (byteAt L i)))) ∧ w = w') := Lib.hid (fun i w => by
    have hb := byteAt_lt L i
    have h := digits_any 10 (by omega) (by omega) (byteAt L i) hb w
    rw [dg_dec _ (by omega)] at h
    exact h)
  have hs : ∀ i, (str (Lib.decDigits (byteAt L i))).size ≤ 20 := fun i => by
    rw [str_size, Lib.decDigits_length]
    exact Lib.nDigits_le20 _ (byteAt_lt L i)
  have hj : str (fourS L) = str (Lib.decDigits (byteAt L 0)) ++ ⟨#[46]⟩ ++ str (Lib.decDigits (byteAt L 1)) ++ ⟨#[46]⟩ ++ str (Lib.decDigits (byteAt L 2)) ++ ⟨#[46]⟩ ++ str (Lib.decDigits (byteAt L 3)) := by
    have : fourS L = Lib.decDigits (byteAt L 0) ++ [46] ++ Lib.decDigits (byteAt L 1) ++ [46] ++ Lib.decDigits (byteAt L 2) ++ [46] ++ Lib.decDigits (byteAt L 3) := by
      simp [fourS, Lib.join, List.intercalate]
    rw [this]
    simp only [str_app]
    rfl
  rw [hj]
  obtain ⟨X0, hX0⟩ : ∃ X, str (Lib.decDigits (byteAt L 0)) = X := ⟨_, rfl⟩
  obtain ⟨X1, hX1⟩ : ∃ X, str (Lib.decDigits (byteAt L 1)) = X := ⟨_, rfl⟩
  obtain ⟨X2, hX2⟩ : ∃ X, str (Lib.decDigits (byteAt L 2)) = X := ⟨_, rfl⟩
  obtain ⟨X3, hX3⟩ : ∃ X, str (Lib.decDigits (byteAt L 3)) = X := ⟨_, rfl⟩
  have t0 := hs 0
  have t1 := hs 1
  have t2 := hs 2
  have t3 := hs 3
  rw [hX0] at t0
  rw [hX1] at t1
  rw [hX2] at t2
  rw [hX3] at t3
  rw [hX0, hX1, hX2, hX3]
  have D0 := Lib.hid (HD.out 0)
  have D1 := Lib.hid (HD.out 1)
  have D2 := Lib.hid (HD.out 2)
  have D3 := Lib.hid (HD.out 3)
  rw [hX0] at D0
  rw [hX1] at D1
  rw [hX2] at D2
  rw [hX3] at D3
  clear hs hj hX0 hX1 hX2 hX3 HD
  go_enter Tryz.func6, Tryz.ntmps6
  go_wp2_with fail
  refine (HCA.out _).mono ?_
  rintro e w1 ⟨rfl, hb1⟩
  have HB1 := Lib.hid (((Below.refl w.heap.size w).alloc (Nat.le_refl _) _).trans (hb1.mono (by simp)))
  have a0 : w1.cell? ⟨w.heap.size, 0, none⟩ = some (.int .u64 0) := by rw [hb1.cell (p := ⟨w.heap.size, 0, none⟩) (by simp)]; simp
  have a1 : w1.cell? ⟨w.heap.size, 1, none⟩ = some (.int .u64 L) := by rw [hb1.cell (p := ⟨w.heap.size, 1, none⟩) (by simp)]; simp
  clear hb1
  go_wp2_with fail
  refine (HBits.out w1).mono ?_
  rintro e w2 ⟨g, cap, rfl, hg, hg2, hc1, hc2, hcell, hb2⟩
  have HB2 := Lib.hid (HB1.out.trans (hb2.mono HB1.out.size))
  have HG : RowKit.Hid (∀ i cp : Nat, i < 4 → 8 ≤ cp → Calls Tryz.prog 28 #[.slice (some ⟨g, 8 * i, none⟩) 8 cp] w2 fun e w' => e = .returned (.int .u64 ((byteAt L i : Nat) : Int)) ∧ w2 = w') := Lib.hid (fun i cp hi hcp =>
    group_any g (8 * i) 8 cp (L / 2 ^ (8 * (3 - i))) w2 (by omega) hcp (fun j hj => by rw [hcell (8 * i + j) (by omega), four_bits L i j hi hj]))
  clear hb2 a0 a1 HB1 hcell
  have G0 : RowKit.Hid (∀ cp : Nat, 8 ≤ cp → Calls Tryz.prog 28 #[.slice (some ⟨g, 0, none⟩) 8 cp] w2 fun e w' => e = .returned (.int .u64 ((byteAt L 0 : Nat) : Int)) ∧ w2 = w') := Lib.hid (fun cp h => HG.out 0 cp (by omega) h)
  have G1 : RowKit.Hid (∀ cp : Nat, 8 ≤ cp → Calls Tryz.prog 28 #[.slice (some ⟨g, 8, none⟩) 8 cp] w2 fun e w' => e = .returned (.int .u64 ((byteAt L 1 : Nat) : Int)) ∧ w2 = w') := Lib.hid (fun cp h => HG.out 1 cp (by omega) h)
  have G2 : RowKit.Hid (∀ cp : Nat, 8 ≤ cp → Calls Tryz.prog 28 #[.slice (some ⟨g, 16, none⟩) 8 cp] w2 fun e w' => e = .returned (.int .u64 ((byteAt L 2 : Nat) : Int)) ∧ w2 = w') := Lib.hid (fun cp h => HG.out 2 cp (by omega) h)
  have G3 : RowKit.Hid (∀ cp : Nat, 8 ≤ cp → Calls Tryz.prog 28 #[.slice (some ⟨g, 24, none⟩) 8 cp] w2 fun e w' => e = .returned (.int .u64 ((byteAt L 3 : Nat) : Int)) ∧ w2 = w') := Lib.hid (fun cp h => HG.out 3 cp (by omega) h)
  clear HG
  generalize ((byteAt L 0 : Nat) : Int) = y0 at D0 G0
  generalize ((byteAt L 1 : Nat) : Int) = y1 at D1 G1
  generalize ((byteAt L 2 : Nat) : Int) = y2 at D2 G2
  generalize ((byteAt L 3 : Nat) : Int) = y3 at D3 G3
  go_wp2_with fail
  refine wp_loop_rounds 5 ?_
  rw [rounds_succ]
  go_wp2_with fail
  refine (G0.out _ (by omega)).mono ?_
  rintro e wx ⟨rfl, rfl⟩
  go_wp2_with fail
  refine (D0.out w2).mono ?_
  rintro e wx ⟨rfl, rfl⟩
  go_wp2_with fail
  rw [rounds_succ]
  go_wp2_with fail
  refine (G1.out _ (by omega)).mono ?_
  rintro e wx ⟨rfl, rfl⟩
  go_wp2_with fail
  refine (D1.out w2).mono ?_
  rintro e wx ⟨rfl, rfl⟩
  go_wp2_with fail
  rw [rounds_succ]
  go_wp2_with fail
  refine (G2.out _ (by omega)).mono ?_
  rintro e wx ⟨rfl, rfl⟩
  go_wp2_with fail
  refine (D2.out w2).mono ?_
  rintro e wx ⟨rfl, rfl⟩
  go_wp2_with fail
  rw [rounds_succ]
  go_wp2_with fail
  refine (G3.out _ (by omega)).mono ?_
  rintro e wx ⟨rfl, rfl⟩
  go_wp2_with fail
  refine (D3.out w2).mono ?_
  rintro e wx ⟨rfl, rfl⟩
  go_wp2_with fail
  rw [rounds_succ]
  go_wp2_with fail
  go_ret2
  exact ⟨rfl, HB2.out⟩
end Go.Proofs.YtlikgfmcialepaaGreatDoor
