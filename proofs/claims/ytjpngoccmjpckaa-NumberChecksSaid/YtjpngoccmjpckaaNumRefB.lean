/-
  THE WALKS over the reference of layer 1: Addr, Bit, Check.
-/
import Derived.Test.YtjpngoccmjpckaaNumRef
import Derived.Test.YtjpngoccmjpckaaNumMathC
namespace Go.Proofs.Ytjpngoccmjpckaa
open Go.RowKit Nm

/-- a row of integers of the call's own, opened -/
theorem own_open {w : World} {base : Nat} {e : TypeId} {v : Value} {n : Nat} {zs : List Int} (h : w.ownsRow base e 1 v n (zs.map (Value.int .i64))) (hn : 0 < n) :
    ∃ g cap, v = .slice (some ⟨g, 0, none⟩) n cap ∧ base ≤ g ∧ g < w.heap.size ∧ n ≤ cap ∧ cap ≤ maxLen ∧ (∀ j, j < n → w.cell? ⟨g, j, none⟩ = some (.int .i64 (zs.getD j 0))) ∧ (∀ j, j < n → w.frozen? ⟨g, j, none⟩ = false) := by
  obtain ⟨hl, h | ⟨g, cap, cur, rfl, hb, hg, hnc, hcm, hcs, ht⟩⟩ := h
  · omega
  · have hlt : g < w.heap.size := by
      have := hg
      rw [Array.getElem?_eq_some_iff] at this
      exact this.1
    refine ⟨g, cap, rfl, hb, hlt, hnc, hcm, fun j hj => ?_, fun j hj => ?_⟩
    · have h1 : cur.toList[j]? = some (.int .i64 (zs.getD j 0)) := by
        have h2 : (cur.toList.take (n * 1))[j]? = cur.toList[j]? := by rw [List.getElem?_take]; rw [if_pos (by omega)]
        rw [← h2, ht]
        have hz : j < zs.length := by simp at hl; omega
        simp [List.getElem?_map, List.getElem?_eq_getElem hz]
      simp only [World.cell?, hg]
      simpa using h1
    · simp [World.frozen?, hg]

/-- the list of bits, opened -/
def BitsLeft (h l : Int) (W : Nat) (w : World) (e : Ending) (w' : World) : Prop :=
  ∃ g cap : Nat, e = .returned (.slice (some ⟨g, 0, none⟩) W cap) ∧ w.heap.size + 1 ≤ g ∧ g < w'.heap.size ∧ W ≤ cap ∧ cap ≤ maxLen ∧ (∀ j, j < W → w'.cell? ⟨g, j, none⟩ = some (.int .i64 (bt h l ((W : Int) - 1 - j)))) ∧ (∀ j, j < W → w'.frozen? ⟨g, j, none⟩ = false) ∧ Below w.heap.size w w'
theorem bits_call (f h l : Int) (w : World) (uh : U64 h) (ul : U64 l) (W : Nat) (hW : wid f = (W : Int)) (h0 : 0 < W) :
    Calls Try.prog 20 #[.int .u8 f, .agg #[.int .u64 h, .int .u64 l]] w (BitsLeft h l W w) := by
  refine (bits_any f h l w uh ul).mono ?_
  rintro e w' ⟨v, rfl, hown, hb⟩
  have eW : (wid f).toNat = W := by omega
  rw [eW] at hown
  obtain ⟨g, cap, rfl, h1, h2, h3, h4, h5, h6⟩ := own_open hown h0
  refine ⟨g, cap, rfl, h1, h2, h3, h4, fun j hj => ?_, h6, hb⟩
  rw [h5 j hj]
  simp [bitList, hj, hW]

set_option maxHeartbeats 400000 in
theorem rbit_no (f h l i : Int) (w : World) (ul : U64 l) (hb : bitOk f h l i = false) :
    Calls Try.prog 5 #[.int .u8 f, .agg #[.int .u64 h, .int .u64 l], .int .i64 i] w fun e w' => e = .returned (.tuple #[.int .i64 0, .int .i64 2]) ∧ Below w.heap.size w w' := by
  have l0 := ul.1
  by_cases hca : ca f h l = true
  · by_cases hi : 0 ≤ i
    · have hw : wid f ≤ i := by simp [bitOk, hca, hi] at hb; exact hb
      clear hb ul
      go_enter Try.func5, Try.ntmps5
      go_wp2_with (first | (go_at_call 11; refine (rca_any _ _ _ _ l0).mono ?_; rintro e w1 ⟨rfl, hb1⟩; obtain ⟨hc1, hf1⟩ := bcell hb1) | (go_at_call 19; refine (rwidth_any _ _).mono ?_; rintro e w2 ⟨rfl, rfl⟩))
      go_ret2
      exact ⟨rfl, ((Below.refl _ _).alloc (Nat.le_refl _) _).trans (hb1.mono (by simp))⟩
    · clear hb ul
      go_enter Try.func5, Try.ntmps5
      go_wp2_with (first | (go_at_call 11; refine (rca_any _ _ _ _ l0).mono ?_; rintro e w1 ⟨rfl, hb1⟩; obtain ⟨hc1, hf1⟩ := bcell hb1) | (go_at_call 19; refine (rwidth_any _ _).mono ?_; rintro e w2 ⟨rfl, rfl⟩))
      go_ret2
      exact ⟨rfl, ((Below.refl _ _).alloc (Nat.le_refl _) _).trans (hb1.mono (by simp))⟩
  · have hca : ca f h l = false := by simpa using hca
    clear hb ul
    go_enter Try.func5, Try.ntmps5
    go_wp2_with (first | (go_at_call 11; refine (rca_any _ _ _ _ l0).mono ?_; rintro e w1 ⟨rfl, hb1⟩; obtain ⟨hc1, hf1⟩ := bcell hb1) | (go_at_call 19; refine (rwidth_any _ _).mono ?_; rintro e w2 ⟨rfl, rfl⟩))
    go_ret2
    exact ⟨rfl, ((Below.refl _ _).alloc (Nat.le_refl _) _).trans (hb1.mono (by simp))⟩
set_option maxHeartbeats 400000 in
theorem rbit_yes (f h l : Int) (W k : Nat) (w : World) (uh : U64 h) (ul : U64 l) (hW : wid f = (W : Int)) (hca : ca f h l = true) (hk : k < W) :
    Calls Try.prog 5 #[.int .u8 f, .agg #[.int .u64 h, .int .u64 l], .int .i64 k] w fun e w' => e = .returned (.tuple #[.int .i64 (bt h l ((W : Int) - 1 - k)), .int .i64 0]) ∧ Below w.heap.size w w' := by
  have l0 := ul.1
  have hw : W ≤ 128 := by have := wid_hi f; omega
  have Uh := Lib.hid uh
  have Ul := Lib.hid ul
  have HW := Lib.hid hW
  clear uh ul hW
  go_enter Try.func5, Try.ntmps5
  go_wp2_with (first | (go_at_call 11; refine (rca_any _ _ _ _ l0).mono ?_; rintro e w1 ⟨rfl, hb1⟩; obtain ⟨hc1, hf1⟩ := bcell hb1) | (go_at_call 19; refine (rwidth_any _ _).mono ?_; rintro e w2 ⟨rfl, rfl⟩; rw [HW.out]) | (go_at_call 20; refine (bits_call _ _ _ _ Uh.out Ul.out W HW.out (by omega)).mono ?_; rintro e w3 ⟨g, cap, rfl, hg1, hg2, hcap1, hcap2, hcell, hfr, hb3⟩; have hk3 := hcell k hk; clear hcell hfr))
  go_ret2
  exact ⟨rfl, (((Below.refl _ _).alloc (Nat.le_refl _) _).trans (hb1.mono (by simp))).trans (hb3.mono (by have := hb1.size; simp at this; omega))⟩
theorem rbit_any (f h l i : Int) (w : World) (uh : U64 h) (ul : U64 l) :
    Calls Try.prog 5 #[.int .u8 f, .agg #[.int .u64 h, .int .u64 l], .int .i64 i] w fun e w' => e = .returned (.tuple #[.int .i64 (bitV f h l i), .int .i64 (bitE f h l i)]) ∧ Below w.heap.size w w' := by
  cases hb : bitOk f h l i
  · simpa [bitV, bitE, hb] using rbit_no f h l i w ul hb
  · have hb' := hb
    simp only [bitOk, Bool.and_eq_true, decide_eq_true_eq] at hb'
    obtain ⟨⟨hca, h0⟩, h1⟩ := hb'
    obtain ⟨k, rfl⟩ := Int.eq_ofNat_of_zero_le h0
    obtain ⟨W, hW⟩ : ∃ W : Nat, wid f = (W : Int) := ⟨(wid f).toNat, by omega⟩
    have := rbit_yes f h l W k w uh ul hW hca (by omega)
    simpa [bitV, bitE, hb, hW] using this
end Go.Proofs.Ytjpngoccmjpckaa
