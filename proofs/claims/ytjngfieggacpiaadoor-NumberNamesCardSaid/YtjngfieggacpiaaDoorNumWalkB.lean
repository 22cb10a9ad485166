/-
  THE WALKS over the arithmetic of package number, second part.
-/
import Derived.Test.YtjngfieggacpiaaDoorNumWalk
import Derived.Deep.RegionWith
import Derived.Deep.RegionHeld3
namespace Go.Proofs.YtjngfieggacpiaaDoor
open Go.RowKit Adr
theorem div_u (h : Int) (k : Nat) (h0 : U64 h) : U64 (h / 2 ^ k) := by
  have hp : (0 : Int) < 2 ^ k := Int.pow_pos (by omega)
  have h1 : 0 ≤ h / 2 ^ k := Int.ediv_nonneg h0.1 (Int.le_of_lt hp)
  have h2 := Int.ediv_le_self (2 ^ k) h0.1
  unfold U64 at *
  omega
theorem bits_one (x : Int) (h : U64 x) : wrap64 (bits BinOp.and IntKind.u64 x 1) = x % 2 := by
  have h1 := Int.emod_nonneg x (show (2 : Int) ≠ 0 by omega)
  have h2 := Int.emod_lt_of_pos x (show (0 : Int) < 2 by omega)
  rw [and_one_u64 x h.1 (by have := h.2; omega)]
  exact IntWalk.wrap64_in _ ⟨by omega, by omega⟩
set_option maxHeartbeats 400000 in
theorem bit_no (f h l i : Int) (w : World) (ul : U64 l) (hb : bitOk f h l i = false) :
    Calls Tryd.prog 9 #[.int .u8 f, .agg #[.int .u64 h, .int .u64 l], .int .i64 i] w fun e w' => e = .returned (.tuple #[.int .i64 0, .int .i64 2]) ∧ Below w.heap.size w w' := by
  have l0 := ul.1
  by_cases hca : ca f h l = true
  · by_cases hi : 0 ≤ i
    · have hw : wid f ≤ i := by simp [bitOk, hca, hi] at hb; exact hb
      clear hb ul
      go_enter Tryd.func9, Tryd.ntmps9
      go_wp2_with (first | (go_at_call 23; refine (ca_any _ _ _ _ l0).mono ?_; rintro e w1 ⟨rfl, hb1⟩; obtain ⟨hc1, hf1⟩ := bcell hb1) | (go_at_call 33; refine (width_any _ _).mono ?_; rintro e w2 ⟨rfl, rfl⟩))
      go_ret2
      exact ⟨rfl, ((Below.refl _ _).alloc (Nat.le_refl _) _).trans (hb1.mono (by simp))⟩
    · clear hb ul
      go_enter Tryd.func9, Tryd.ntmps9
      go_wp2_with (first | (go_at_call 23; refine (ca_any _ _ _ _ l0).mono ?_; rintro e w1 ⟨rfl, hb1⟩; obtain ⟨hc1, hf1⟩ := bcell hb1) | (go_at_call 33; refine (width_any _ _).mono ?_; rintro e w2 ⟨rfl, rfl⟩))
      go_ret2
      exact ⟨rfl, ((Below.refl _ _).alloc (Nat.le_refl _) _).trans (hb1.mono (by simp))⟩
  · have hca : ca f h l = false := by simpa using hca
    clear hb ul
    go_enter Tryd.func9, Tryd.ntmps9
    go_wp2_with (first | (go_at_call 23; refine (ca_any _ _ _ _ l0).mono ?_; rintro e w1 ⟨rfl, hb1⟩; obtain ⟨hc1, hf1⟩ := bcell hb1) | (go_at_call 33; refine (width_any _ _).mono ?_; rintro e w2 ⟨rfl, rfl⟩))
    go_ret2
    exact ⟨rfl, ((Below.refl _ _).alloc (Nat.le_refl _) _).trans (hb1.mono (by simp))⟩
set_option maxHeartbeats 400000 in
theorem bit_yes (f h l i : Int) (w : World) (uh : U64 h) (ul : U64 l) (hb : bitOk f h l i = true) :
    Calls Tryd.prog 9 #[.int .u8 f, .agg #[.int .u64 h, .int .u64 l], .int .i64 i] w fun e w' => e = .returned (.tuple #[.int .i64 (bt h l (wid f - 1 - i)), .int .i64 0]) ∧ Below w.heap.size w w' := by
  have l0 := ul.1
  have u0 := uh.1
  have hw := wid_hi f
  simp only [bitOk, Bool.and_eq_true, decide_eq_true_eq] at hb
  obtain ⟨⟨hca, h0⟩, h1⟩ := hb
  have Uh := Lib.hid uh
  have Ul := Lib.hid ul
  clear uh ul
  by_cases hk : 64 ≤ wid f - 1 - i
  · go_enter Tryd.func9, Tryd.ntmps9
    go_wp2_with (first | (go_at_call 23; refine (ca_any _ _ _ _ l0).mono ?_; rintro e w1 ⟨rfl, hb1⟩; obtain ⟨hc1, hf1⟩ := bcell hb1) | (go_at_call 33; refine (width_any _ _).mono ?_; rintro e w2 ⟨rfl, rfl⟩))
    go_ret2
    exact ⟨by rw [bits_one _ (div_u _ _ Uh.out)]; simp [bt, hk], ((Below.refl _ _).alloc (Nat.le_refl _) _).trans (hb1.mono (by simp))⟩
  · go_enter Tryd.func9, Tryd.ntmps9
    go_wp2_with (first | (go_at_call 23; refine (ca_any _ _ _ _ l0).mono ?_; rintro e w1 ⟨rfl, hb1⟩; obtain ⟨hc1, hf1⟩ := bcell hb1) | (go_at_call 33; refine (width_any _ _).mono ?_; rintro e w2 ⟨rfl, rfl⟩))
    go_ret2
    have hk' : ¬ 64 ≤ wid f - 1 - i := by omega
    exact ⟨by rw [bits_one _ (div_u _ _ Ul.out)]; simp [bt, hk'], ((Below.refl _ _).alloc (Nat.le_refl _) _).trans (hb1.mono (by simp))⟩
theorem bit_any (f h l i : Int) (w : World) (uh : U64 h) (ul : U64 l) :
    Calls Tryd.prog 9 #[.int .u8 f, .agg #[.int .u64 h, .int .u64 l], .int .i64 i] w fun e w' => e = .returned (.tuple #[.int .i64 (bitV f h l i), .int .i64 (bitE f h l i)]) ∧ Below w.heap.size w w' := by
  cases hb : bitOk f h l i
  · simpa [bitV, bitE, hb] using bit_no f h l i w ul hb
  · simpa [bitV, bitE, hb] using bit_yes f h l i w uh ul hb

end Go.Proofs.YtjngfieggacpiaaDoor
