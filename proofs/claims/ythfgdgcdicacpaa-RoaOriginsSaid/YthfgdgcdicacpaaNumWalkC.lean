import Derived.Test.YthfgdgcdicacpaaNumWalkB
namespace Go.Proofs.Ythfgdgcdicacpaa
open Go.RowKit Adr
set_option maxHeartbeats 400000 in
theorem cut_no (f h l n : Int) (w : World) (ul : U64 l) (hb : cutOk f h l n = false) :
  Calls Try.prog 43 #[.int .u8 f, .agg #[.int .u64 h, .int .u64 l], .int .i64 n] w fun e w' => e = .returned (.tuple #[.agg #[.int .u8 0, .int .u64 0, .int .u64 0, .int .i64 0], .int .i64 2]) ∧ Below w.heap.size w w' := by
 have l0 := ul.1
 by_cases hca : ca f h l = true
 ·
  by_cases hi : 0 ≤ n
  ·
   have hw : wid f < n := by simp [cutOk, hca, hi] at hb; exact hb
   clear hb ul
   go_enter Try.func43, Try.ntmps43
   go_wp2_with (first | (go_at_call 69; refine (ca_any _ _ _ _ l0).mono ?_; rintro e w1 ⟨rfl, hb1⟩; obtain ⟨hc1, hf1⟩ := bcell hb1; have hz : w.heap.size + 1 < w1.heap.size := by (have := hb1.size; simp at this; omega)) | (go_at_call 42; refine (width_any _ _).mono ?_; rintro e w2 ⟨rfl, rfl⟩))
   refine bodyPost_ret (v := .tuple #[.agg #[.int .u8 0, .int .u64 0, .int .u64 0, .int .i64 0], .int .i64 2]) (by simp [results, Try.results43, go_sem, hc1]) rfl ⟨rfl, ?_⟩
   iterate 4 (refine Below.setCell ?_ (by simp) _)
   exact (((Below.refl _ _).alloc (Nat.le_refl _) _).alloc (by simp) _).trans (hb1.mono (by simp; omega))
  ·
   clear hb ul
   go_enter Try.func43, Try.ntmps43
   go_wp2_with (first | (go_at_call 69; refine (ca_any _ _ _ _ l0).mono ?_; rintro e w1 ⟨rfl, hb1⟩; obtain ⟨hc1, hf1⟩ := bcell hb1; have hz : w.heap.size + 1 < w1.heap.size := by (have := hb1.size; simp at this; omega)) | (go_at_call 42; refine (width_any _ _).mono ?_; rintro e w2 ⟨rfl, rfl⟩))
   refine bodyPost_ret (v := .tuple #[.agg #[.int .u8 0, .int .u64 0, .int .u64 0, .int .i64 0], .int .i64 2]) (by simp [results, Try.results43, go_sem, hc1]) rfl ⟨rfl, ?_⟩
   iterate 4 (refine Below.setCell ?_ (by simp) _)
   exact (((Below.refl _ _).alloc (Nat.le_refl _) _).alloc (by simp) _).trans (hb1.mono (by simp; omega))
 ·
  have hca : ca f h l = false := by simpa using hca
  clear hb ul
  go_enter Try.func43, Try.ntmps43
  go_wp2_with (first | (go_at_call 69; refine (ca_any _ _ _ _ l0).mono ?_; rintro e w1 ⟨rfl, hb1⟩; obtain ⟨hc1, hf1⟩ := bcell hb1; have hz : w.heap.size + 1 < w1.heap.size := by (have := hb1.size; simp at this; omega)) | (go_at_call 42; refine (width_any _ _).mono ?_; rintro e w2 ⟨rfl, rfl⟩))
  refine bodyPost_ret (v := .tuple #[.agg #[.int .u8 0, .int .u64 0, .int .u64 0, .int .i64 0], .int .i64 2]) (by simp [results, Try.results43, go_sem, hc1]) rfl ⟨rfl, ?_⟩
  iterate 4 (refine Below.setCell ?_ (by simp) _)
  exact (((Below.refl _ _).alloc (Nat.le_refl _) _).alloc (by simp) _).trans (hb1.mono (by simp; omega))
set_option maxHeartbeats 400000 in
theorem cut_yes (f h l n : Int) (w : World) (uh : U64 h) (ul : U64 l) (hb : cutOk f h l n = true) :
  Calls Try.prog 43 #[.int .u8 f, .agg #[.int .u64 h, .int .u64 l], .int .i64 n] w fun e w' => e = .returned (.tuple #[.agg #[.int .u8 f, .int .u64 (clrH h (wid f - n)), .int .u64 (clrL l (wid f - n)), .int .i64 n], .int .i64 0]) ∧ Below w.heap.size w w' := by
 have l0 := ul.1
 have hw := wid_hi f
 simp only [cutOk, Bool.and_eq_true, decide_eq_true_eq] at hb
 obtain ⟨⟨hca, h0⟩, h1⟩ := hb
 have g0 : 0 ≤ wid f - n := by omega
 have g1 : wid f - n ≤ 128 := by omega
 have Uh := Lib.hid uh
 have Ul := Lib.hid ul
 clear uh ul
 go_enter Try.func43, Try.ntmps43
 go_wp2_with (first | (go_at_call 69; refine (ca_any _ _ _ _ l0).mono ?_; rintro e w1 ⟨rfl, hb1⟩; obtain ⟨hc1, hf1⟩ := bcell hb1; have hz : w.heap.size + 1 < w1.heap.size := by (have := hb1.size; simp at this; omega)) | (go_at_call 42; refine (width_any _ _).mono ?_; rintro e w2 ⟨rfl, rfl⟩))
 have e1 : IntKind.i64.wrap (wid f - n) = wid f - n := IntWalk.i64_in _ (by omega)
 go_region_with (first | (go_at_call 44; refine (clear_any _ _ _ _ Uh.out Ul.out g0 g1).mono ?_; rintro e w3 ⟨rfl, hb3⟩; have hz3 : w.heap.size + 1 < w3.heap.size := (by (have := hb3.size; simp at this; omega)); obtain ⟨hc3, hf3⟩ := bcellD hb3) | (go_at_call 42; refine (width_any _ _).mono ?_; rintro e w2 ⟨rfl, rfl⟩))
 all_goals
  clear e1
  go_wp2
  refine bodyPost_ret (v := .tuple #[.agg #[.int .u8 f, .int .u64 (clrH h (wid f - n)), .int .u64 (clrL l (wid f - n)), .int .i64 n], .int .i64 0]) (by simp [results, Try.results43, go_sem, hc1, hc3, hz]) rfl ⟨rfl, ?_⟩
  iterate 4 (refine Below.setCell ?_ (by simp) _)
  exact ((((Below.refl _ _).alloc (Nat.le_refl _) _).alloc (by simp) _).trans (hb1.mono (by simp; omega))).drew.trans (hb3.mono (by simp; omega))
theorem cut_any (f h l n : Int) (w : World) (uh : U64 h) (ul : U64 l) :
  Calls Try.prog 43 #[.int .u8 f, .agg #[.int .u64 h, .int .u64 l], .int .i64 n] w fun e w' => e = .returned (.tuple #[.agg #[.int .u8 (cutF f h l n), .int .u64 (cutH f h l n), .int .u64 (cutL f h l n), .int .i64 (cutN f h l n)], .int .i64 (cutE f h l n)]) ∧ Below w.heap.size w w' := by
 cases hb : cutOk f h l n
 ·
  simpa [cutF, cutH, cutL, cutN, cutE, hb] using cut_no f h l n w ul hb
 ·
  simpa [cutF, cutH, cutL, cutN, cutE, hb] using cut_yes f h l n w uh ul hb

set_option maxHeartbeats 400000 in
theorem chk_none (f h l n : Int) (w : World) (hb : wid f = 0) :
  Calls Try.prog 20 #[.agg #[.int .u8 f, .int .u64 h, .int .u64 l, .int .i64 n]] w fun e w' => e = .returned (.int .i64 2) ∧ Below w.heap.size w w' := by
 have e0 : (wid f == 0) = true := by simp [hb]
 clear hb
 go_enter Try.func20, Try.ntmps20
 go_wp2_with (first | (go_at_call 42; refine (width_any _ _).mono ?_; rintro e w2 ⟨rfl, rfl⟩))
 go_ret
 exact ⟨rfl, (Below.refl _ _).alloc (Nat.le_refl _) _⟩
set_option maxHeartbeats 400000 in
theorem chk_no (f h l n : Int) (w : World) (ul : U64 l) (hb : (wid f == 0) = false) (hc : cutOk f h l n = false) :
  Calls Try.prog 20 #[.agg #[.int .u8 f, .int .u64 h, .int .u64 l, .int .i64 n]] w fun e w' => e = .returned (.int .i64 8) ∧ Below w.heap.size w w' := by
 have Ul := Lib.hid ul
 have Hc := Lib.hid hc
 clear ul hc
 go_enter Try.func20, Try.ntmps20
 go_wp2_with (first | (go_at_call 42; refine (width_any _ _).mono ?_; rintro e w2 ⟨rfl, rfl⟩) | (go_at_call 43; refine (cut_no _ _ _ _ _ Ul.out Hc.out).mono ?_; rintro e w1 ⟨rfl, hb1⟩; obtain ⟨hc1, hf1⟩ := bcell hb1))
 go_ret
 exact ⟨rfl, (((Below.refl _ _).alloc (Nat.le_refl _) _).trans (hb1.mono (by simp))).alloc (by have := hb1.size; simp at this; omega) _⟩
set_option maxHeartbeats 400000 in
theorem chk_good (f h l n : Int) (w : World) (uh : U64 h) (ul : U64 l) (_hb : (wid f == 0) = false) (hc : cutOk f h l n = true) (_eH : clrH h (wid f - n) = h) (_eL : clrL l (wid f - n) = l) :
  Calls Try.prog 20 #[.agg #[.int .u8 f, .int .u64 h, .int .u64 l, .int .i64 n]] w fun e w' => e = .returned (.int .i64 0) ∧ Below w.heap.size w w' := by
 have Uh := Lib.hid uh
 have Ul := Lib.hid ul
 have Hc := Lib.hid hc
 clear uh ul hc
 go_enter Try.func20, Try.ntmps20
 go_wp2_with (first | (go_at_call 42; refine (width_any _ _).mono ?_; rintro e w2 ⟨rfl, rfl⟩) | (go_at_call 43; refine (cut_yes _ _ _ _ _ Uh.out Ul.out Hc.out).mono ?_; rintro e w1 ⟨rfl, hb1⟩; obtain ⟨hc1, hf1⟩ := bcell hb1; have hz : w.heap.size < w1.heap.size := (by (have := hb1.size; simp at this; omega))))
 go_ret
 exact ⟨rfl, (((Below.refl _ _).alloc (Nat.le_refl _) _).trans (hb1.mono (by simp))).alloc (by omega) _⟩
set_option maxHeartbeats 400000 in
theorem chk_bad1 (f h l n : Int) (w : World) (uh : U64 h) (ul : U64 l) (_hb : (wid f == 0) = false) (hc : cutOk f h l n = true) (_nH : ¬ clrH h (wid f - n) = h) :
  Calls Try.prog 20 #[.agg #[.int .u8 f, .int .u64 h, .int .u64 l, .int .i64 n]] w fun e w' => e = .returned (.int .i64 8) ∧ Below w.heap.size w w' := by
 have Uh := Lib.hid uh
 have Ul := Lib.hid ul
 have Hc := Lib.hid hc
 clear uh ul hc
 go_enter Try.func20, Try.ntmps20
 go_wp2_with (first | (go_at_call 42; refine (width_any _ _).mono ?_; rintro e w2 ⟨rfl, rfl⟩) | (go_at_call 43; refine (cut_yes _ _ _ _ _ Uh.out Ul.out Hc.out).mono ?_; rintro e w1 ⟨rfl, hb1⟩; obtain ⟨hc1, hf1⟩ := bcell hb1; have hz : w.heap.size < w1.heap.size := (by (have := hb1.size; simp at this; omega))))
 go_ret
 exact ⟨rfl, (((Below.refl _ _).alloc (Nat.le_refl _) _).trans (hb1.mono (by simp))).alloc (by omega) _⟩
set_option maxHeartbeats 400000 in
theorem chk_bad2 (f h l n : Int) (w : World) (uh : U64 h) (ul : U64 l) (_hb : (wid f == 0) = false) (hc : cutOk f h l n = true) (_eH : clrH h (wid f - n) = h) (_nL : ¬ clrL l (wid f - n) = l) :
  Calls Try.prog 20 #[.agg #[.int .u8 f, .int .u64 h, .int .u64 l, .int .i64 n]] w fun e w' => e = .returned (.int .i64 8) ∧ Below w.heap.size w w' := by
 have Uh := Lib.hid uh
 have Ul := Lib.hid ul
 have Hc := Lib.hid hc
 clear uh ul hc
 go_enter Try.func20, Try.ntmps20
 go_wp2_with (first | (go_at_call 42; refine (width_any _ _).mono ?_; rintro e w2 ⟨rfl, rfl⟩) | (go_at_call 43; refine (cut_yes _ _ _ _ _ Uh.out Ul.out Hc.out).mono ?_; rintro e w1 ⟨rfl, hb1⟩; obtain ⟨hc1, hf1⟩ := bcell hb1; have hz : w.heap.size < w1.heap.size := (by (have := hb1.size; simp at this; omega))))
 go_ret
 exact ⟨rfl, (((Below.refl _ _).alloc (Nat.le_refl _) _).trans (hb1.mono (by simp))).alloc (by omega) _⟩
theorem chk_any (f h l n : Int) (w : World) (uh : U64 h) (ul : U64 l) :
  Calls Try.prog 20 #[.agg #[.int .u8 f, .int .u64 h, .int .u64 l, .int .i64 n]] w fun e w' => e = .returned (.int .i64 (chk f h l n)) ∧ Below w.heap.size w w' := by
 by_cases h0 : wid f = 0
 ·
  have hk : ok f h l n = false := by
   have : ca f h l = false := by
    unfold wid at h0; unfold ca
    split at h0
    ·
     omega
    ·
     split at h0
     ·
      omega
     ·
      simp [*]
   simp [ok, cutOk, this]
  simpa [chk, hk, h0] using chk_none f h l n w h0
 ·
  have hb : (wid f == 0) = false := by simp [h0]
  cases hc : cutOk f h l n
  ·
   have hk : ok f h l n = false := by simp [ok, hc]
   simpa [chk, hk, h0] using chk_no f h l n w ul hb hc
  ·
   by_cases eH : clrH h (wid f - n) = h
   ·
    by_cases eL : clrL l (wid f - n) = l
    ·
     have hk : ok f h l n = true := by simp [ok, hc, eH, eL]
     simpa [chk, hk, h0] using chk_good f h l n w uh ul hb hc eH eL
    ·
     have hk : ok f h l n = false := by simp [ok, hc, eH, eL]
     simpa [chk, hk, h0] using chk_bad2 f h l n w uh ul hb hc eH eL
   ·
    have hk : ok f h l n = false := by simp [ok, hc, eH]
    simpa [chk, hk, h0] using chk_bad1 f h l n w uh ul hb hc eH
end Go.Proofs.Ythfgdgcdicacpaa
