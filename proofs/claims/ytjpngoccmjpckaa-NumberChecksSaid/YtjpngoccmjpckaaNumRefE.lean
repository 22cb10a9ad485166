/-
  THE WALKS over the reference of layer 1: Cut.
-/
import Derived.Test.YtjpngoccmjpckaaNumRefD
namespace Go.Proofs.Ytjpngoccmjpckaa
open Go.RowKit Nm
set_option maxHeartbeats 400000 in
theorem rcut_no (f h l n : Int) (w : World) (ul : U64 l) (hb : cutOk f h l n = false) :
    Calls Try.prog 7 #[.int .u8 f, .agg #[.int .u64 h, .int .u64 l], .int .i64 n] w fun e w' => e = .returned (.tuple #[.agg #[.int .u8 0, .int .u64 0, .int .u64 0, .int .i64 0], .int .i64 2]) ∧ Below w.heap.size w w' := by
  have l0 := ul.1
  by_cases hca : ca f h l = true
  · by_cases hi : 0 ≤ n
    · have hw : wid f < n := by simp [cutOk, hca, hi] at hb; exact hb
      clear hb ul
      go_enter Try.func7, Try.ntmps7
      go_wp2_with (first | (go_at_call 11; refine (rca_any _ _ _ _ l0).mono ?_; rintro e w1 ⟨rfl, hb1⟩; obtain ⟨hc1, hf1⟩ := bcell hb1; have hz1 : w.heap.size + 1 < w1.heap.size := (by (have := hb1.size; (try simp at this); omega))) | (go_at_call 19; refine (rwidth_any _ _).mono ?_; rintro e w2 ⟨rfl, rfl⟩))
      refine bodyPost_ret (v := .tuple #[.agg #[.int .u8 0, .int .u64 0, .int .u64 0, .int .i64 0], .int .i64 2]) (by simp [results, Try.results7, go_sem, hc1]) rfl ⟨rfl, ?_⟩
      iterate 4 (refine Below.setCell ?_ (by simp) _)
      exact (((Below.refl _ _).alloc (Nat.le_refl _) _).alloc (by simp) _).trans (hb1.mono (by simp; omega))
    · clear hb ul
      go_enter Try.func7, Try.ntmps7
      go_wp2_with (first | (go_at_call 11; refine (rca_any _ _ _ _ l0).mono ?_; rintro e w1 ⟨rfl, hb1⟩; obtain ⟨hc1, hf1⟩ := bcell hb1; have hz1 : w.heap.size + 1 < w1.heap.size := (by (have := hb1.size; (try simp at this); omega))) | (go_at_call 19; refine (rwidth_any _ _).mono ?_; rintro e w2 ⟨rfl, rfl⟩))
      refine bodyPost_ret (v := .tuple #[.agg #[.int .u8 0, .int .u64 0, .int .u64 0, .int .i64 0], .int .i64 2]) (by simp [results, Try.results7, go_sem, hc1]) rfl ⟨rfl, ?_⟩
      iterate 4 (refine Below.setCell ?_ (by simp) _)
      exact (((Below.refl _ _).alloc (Nat.le_refl _) _).alloc (by simp) _).trans (hb1.mono (by simp; omega))
  · have hca : ca f h l = false := by simpa using hca
    clear hb ul
    go_enter Try.func7, Try.ntmps7
    go_wp2_with (first | (go_at_call 11; refine (rca_any _ _ _ _ l0).mono ?_; rintro e w1 ⟨rfl, hb1⟩; obtain ⟨hc1, hf1⟩ := bcell hb1; have hz1 : w.heap.size + 1 < w1.heap.size := (by (have := hb1.size; (try simp at this); omega))) | (go_at_call 19; refine (rwidth_any _ _).mono ?_; rintro e w2 ⟨rfl, rfl⟩))
    refine bodyPost_ret (v := .tuple #[.agg #[.int .u8 0, .int .u64 0, .int .u64 0, .int .i64 0], .int .i64 2]) (by simp [results, Try.results7, go_sem, hc1]) rfl ⟨rfl, ?_⟩
    iterate 4 (refine Below.setCell ?_ (by simp) _)
    exact (((Below.refl _ _).alloc (Nat.le_refl _) _).alloc (by simp) _).trans (hb1.mono (by simp; omega))

set_option maxHeartbeats 1000000 in
theorem rcut_yes (f h l : Int) (n W : Nat) (w : World) (uh : U64 h) (ul : U64 l) (hW : wid f = (W : Int)) (hWpos : 0 < W) (hw : W ≤ 128) (hca : ca f h l = true) (hn : n ≤ W) :
    Calls Try.prog 7 #[.int .u8 f, .agg #[.int .u64 h, .int .u64 l], .int .i64 n] w fun e w' => e = .returned (.tuple #[.agg #[.int .u8 f, .int .u64 (clrH h ((W : Int) - n)), .int .u64 (clrL l ((W : Int) - n)), .int .i64 n], .int .i64 0]) ∧ Below w.heap.size w w' := by
  have l0 := ul.1
  have HF := Lib.hid (cut_final uh ul f hca W n hW hw hn)
  have Uh := Lib.hid uh
  have Ul := Lib.hid ul
  have HW := Lib.hid hW
  clear uh ul hW
  go_enter Try.func7, Try.ntmps7
  go_wp2_with (first | (go_at_call 19; refine (rwidth_any _ _).mono ?_; rintro e w2 ⟨rfl, rfl⟩; rw [HW.out]) | (go_at_call 11; refine (rca_any _ _ _ _ l0).mono ?_; rintro e w1 ⟨rfl, hb1⟩; obtain ⟨hc1, hf1⟩ := bcell hb1; have hz1 : w.heap.size + 1 < w1.heap.size := (by (have := hb1.size; (try simp at this); omega))) | (go_at_call 20; refine (bits_call _ _ _ _ Uh.out Ul.out W HW.out hWpos).mono ?_; rintro e w3 ⟨g, cap, rfl, hg1, hg2, hcap1, hcap2, hcell, hfr, hb3⟩; obtain ⟨hc3, hf3⟩ := bcell hb3))
  have r0 : w3.cell? ⟨w.heap.size + 1, 0, none⟩ = some (.int .u8 0) := by rw [hc3 _ _ hz1, hc1 _ _ (by simp)]; simp
  have r1 : w3.cell? ⟨w.heap.size + 1, 1, none⟩ = some (.int .u64 0) := by rw [hc3 _ _ hz1, hc1 _ _ (by simp)]; simp
  have r2 : w3.cell? ⟨w.heap.size + 1, 2, none⟩ = some (.int .u64 0) := by rw [hc3 _ _ hz1, hc1 _ _ (by simp)]; simp
  have r3 : w3.cell? ⟨w.heap.size + 1, 3, none⟩ = some (.int .i64 0) := by rw [hc3 _ _ hz1, hc1 _ _ (by simp)]; simp
  have rf : ∀ j, w3.frozen? ⟨w.heap.size + 1, j, none⟩ = false := fun j => by rw [hf3 _ _ hz1, hf1 _ _ (by simp)]; simp
  have hbb : Below w.heap.size w w3 := ((((Below.refl _ _).alloc (Nat.le_refl _) _).alloc (by simp) _).trans (hb1.mono (by simp; omega))).trans (hb3.mono (by omega))
  have hgg : w.heap.size + 1 < g := by omega
  have hs3 : w.heap.size + 1 < w3.heap.size := by have := hb3.size; omega
  clear hc1 hf1 hc3 hf3 hb1 hb3
  go_loopw [9] (fun i wr => ∃ k : Nat, n ≤ k ∧ k ≤ W ∧ i = .int .i64 k ∧ Below w.heap.size w wr ∧ g < wr.heap.size ∧ (∀ j, j < W → wr.cell? ⟨g, j, none⟩ = some (.int .i64 (if j < n ∨ k ≤ j then bt h l ((W : Int) - 1 - j) else 0))) ∧ (∀ j, j < W → wr.frozen? ⟨g, j, none⟩ = false) ∧ (wr.cell? ⟨w.heap.size + 1, 0, none⟩ = some (.int .u8 0) ∧ wr.cell? ⟨w.heap.size + 1, 1, none⟩ = some (.int .u64 0) ∧ wr.cell? ⟨w.heap.size + 1, 2, none⟩ = some (.int .u64 0) ∧ wr.cell? ⟨w.heap.size + 1, 3, none⟩ = some (.int .i64 0)) ∧ (∀ j, wr.frozen? ⟨w.heap.size + 1, j, none⟩ = false)) (fun i _ => W - (intOf i).toNat)
  case atStart =>
    refine ⟨n, Nat.le_refl _, hn, rfl, hbb, hg2, fun j hj => ?_, hfr, ⟨r0, r1, r2, r3⟩, rf⟩
    rw [if_pos (by omega)]
    exact hcell j hj
  case round =>
    clear hcell hfr r0 r1 r2 r3 rf hbb
    obtain ⟨k, hk1, hk2, rfl, hbel, hgs, hcell, hfr, hr, hrf⟩ := hrel
    have HC := Lib.hid hcell
    have HFr := Lib.hid hfr
    have HR := Lib.hid hr
    have HRF := Lib.hid hrf
    have HB := Lib.hid hbel
    clear hcell hfr hr hrf hbel
    by_cases hlt : k < W
    · have hck := HC.out k hlt
      have hfk := HFr.out k hlt
      rw [if_pos (by omega)] at hck
      go_wp2
      go_roundw
      case rel =>
        refine ⟨k + 1, by omega, by omega, by go_num, HB.out.setCell (by simp; omega) _, by simpa using hgs, fun j hj => ?_, fun j hj => by simpa using HFr.out j hj, ⟨?_, ?_, ?_, ?_⟩, fun j => by simpa using HRF.out j⟩
        · by_cases hjk : j = k
          · subst hjk
            rw [if_neg (by omega)]
            exact cell_same hck
          · rw [cell_far (HC.out j hj) (by simp <;> omega)]
            by_cases hjn : j < n
            · rw [if_pos (by omega), if_pos (by omega)]
            · by_cases hkj : k ≤ j
              · rw [if_pos (by omega), if_pos (by omega)]
              · rw [if_neg (by omega), if_neg (by omega)]
        · exact cell_far HR.out.1 (by simp <;> omega)
        · exact cell_far HR.out.2.1 (by simp <;> omega)
        · exact cell_far HR.out.2.2.1 (by simp <;> omega)
        · exact cell_far HR.out.2.2.2 (by simp <;> omega)
      case measure => simp [intOf]; omega
    · have ek : k = W := by omega
      subst ek
      obtain ⟨N, hN1, hN2, hN3, hN4, hN5⟩ := HF.out
      have HN1 := Lib.hid hN1
      have HN2 := Lib.hid hN2
      have HN3 := Lib.hid hN3
      have HN4 := Lib.hid hN4
      have HN5 := Lib.hid hN5
      clear hN1 hN2 hN3 hN4 hN5
      have cc : ∀ j, j < k → wr.cell? ⟨g, j, none⟩ = some (.int .i64 (biP N (k - 1 - j))) := fun j hj => by
        rw [HN3.out j hj, HC.out j hj]
        by_cases hjn : j < n
        · rw [if_pos (by omega), if_pos hjn]
        · rw [if_neg (by omega), if_neg hjn]
      have CC := Lib.hid cc
      clear cc
      obtain ⟨r0, r1, r2, r3⟩ := HR.out
      have hrf := HRF.out
      have hsr : w.heap.size + 1 < wr.heap.size := by omega
      go_wp2_with (go_at_call 22; refine (raddr_any g cap k N _ hgs hw HN2.out HN1.out CC.out).mono ?_; rintro e w4 ⟨rfl, hb4⟩; obtain ⟨hc4, hf4⟩ := bcell hb4)
      rw [HN4.out, HN5.out]
      refine bodyPost_ret (v := .tuple #[.agg #[.int .u8 f, .int .u64 (clrH h (k - n)), .int .u64 (clrL l (k - n)), .int .i64 n], .int .i64 0]) (by simp [results, Try.results7, go_sem, hc4, hsr, r0, r1, r2, r3]) rfl ⟨rfl, ?_⟩
      iterate 4 (refine Below.setCell ?_ (by simp) _)
      exact HB.out.trans (hb4.mono (by omega))
theorem rcut_any (f h l n : Int) (w : World) (uh : U64 h) (ul : U64 l) :
    Calls Try.prog 7 #[.int .u8 f, .agg #[.int .u64 h, .int .u64 l], .int .i64 n] w fun e w' => e = .returned (.tuple #[.agg #[.int .u8 (cutF f h l n), .int .u64 (cutH f h l n), .int .u64 (cutL f h l n), .int .i64 (cutN f h l n)], .int .i64 (cutE f h l n)]) ∧ Below w.heap.size w w' := by
  cases hb : cutOk f h l n
  · simpa [cutF, cutH, cutL, cutN, cutE, hb] using rcut_no f h l n w ul hb
  · have hb' := hb
    simp only [cutOk, Bool.and_eq_true, decide_eq_true_eq] at hb'
    obtain ⟨⟨hca, h0⟩, h1⟩ := hb'
    obtain ⟨m, rfl⟩ := Int.eq_ofNat_of_zero_le h0
    obtain ⟨W, hW⟩ : ∃ W : Nat, wid f = (W : Int) := ⟨(wid f).toNat, by have := wid_lo f; omega⟩
    have w1 := wid_hi f
    have w2 : 0 < W := by
      have : wid f ≠ 0 := by
        intro h0
        unfold wid at h0; unfold ca at hca
        split at h0
        · omega
        · split at h0
          · omega
          · simp [*] at hca
      omega
    have := rcut_yes f h l m W w uh ul hW w2 (by omega) hca (by omega)
    simpa [cutF, cutH, cutL, cutN, cutE, hb, hW] using this
end Go.Proofs.Ytjpngoccmjpckaa
