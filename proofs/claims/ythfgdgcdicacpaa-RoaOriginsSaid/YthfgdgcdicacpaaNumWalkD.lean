import Derived.Test.YthfgdgcdicacpaaNumWalkC
namespace Go.Proofs.Ythfgdgcdicacpaa
open Go.RowKit Adr
theorem chk_call (f h l n : Int) (w : World) (uh : U64 h) (ul : U64 l) (c : Int) (hc : chk f h l n = c) :
  Calls Try.prog 20 #[.agg #[.int .u8 f, .int .u64 h, .int .u64 l, .int .i64 n]] w fun e w' => e = .returned (.int .i64 c) ∧ Below w.heap.size w w' := by
 subst hc; exact chk_any f h l n w uh ul
theorem chk_ok0 (f h l n : Int) (h1 : ok f h l n = true) : chk f h l n = 0 := by simp [chk, h1]
theorem chk_no0 (f h l n : Int) (h1 : ok f h l n = false) : chk f h l n = 2 ∨ chk f h l n = 8 := by
 unfold chk
 rw [h1]
 by_cases h0 : wid f = 0
 ·
  left; simp [h0]
 ·
  right; simp [h0]
set_option maxHeartbeats 400000 in
theorem cov_no1 (f h l n f' h' l' n' : Int) (w : World) (uh : U64 h) (ul : U64 l) (c : Int) (c0 : (c != 0) = true) (hk : chk f h l n = c) :
  Calls Try.prog 21 #[.agg #[.int .u8 f, .int .u64 h, .int .u64 l, .int .i64 n], .agg #[.int .u8 f', .int .u64 h', .int .u64 l', .int .i64 n']] w fun e w' => e = .returned (.bool false) ∧ Below w.heap.size w w' := by
 have Uh := Lib.hid uh
 have Ul := Lib.hid ul
 have Hk := Lib.hid hk
 clear uh ul hk
 go_enter Try.func21, Try.ntmps21
 go_wp2_with (go_at_call 20; refine (chk_call _ _ _ _ _ Uh.out Ul.out _ Hk.out).mono ?_; rintro e w1 ⟨rfl, hb1⟩; obtain ⟨hc1, hf1⟩ := bcell hb1; have hz1 : w.heap.size + 1 < w1.heap.size := (by (have := hb1.size; (try simp at this); omega)); have hy1 : w.heap.size < w1.heap.size := (by omega))
 go_ret
 exact ⟨rfl, (((Below.refl _ _).alloc (Nat.le_refl _) _).alloc (by simp) _).trans (hb1.mono (by simp; omega))⟩
set_option maxHeartbeats 400000 in
theorem cov_no2 (f h l n f' h' l' n' : Int) (w : World) (uh : U64 h) (ul : U64 l) (uh' : U64 h') (ul' : U64 l') (c : Int) (c0 : (c != 0) = true) (hk : chk f h l n = 0) (hk' : chk f' h' l' n' = c) :
  Calls Try.prog 21 #[.agg #[.int .u8 f, .int .u64 h, .int .u64 l, .int .i64 n], .agg #[.int .u8 f', .int .u64 h', .int .u64 l', .int .i64 n']] w fun e w' => e = .returned (.bool false) ∧ Below w.heap.size w w' := by
 have Uh := Lib.hid uh
 have Ul := Lib.hid ul
 have Hk := Lib.hid hk
 have Uh' := Lib.hid uh'
 have Ul' := Lib.hid ul'
 have Hk' := Lib.hid hk'
 clear uh ul hk uh' ul' hk'
 go_enter Try.func21, Try.ntmps21
 go_wp2_with fail
 refine (chk_call _ _ _ _ _ Uh.out Ul.out _ Hk.out).mono ?_; rintro e w1 ⟨rfl, hb1⟩; obtain ⟨hc1, hf1⟩ := bcell hb1; have hz1 : w.heap.size + 1 < w1.heap.size := (by (have := hb1.size; (try simp at this); omega)); have hy1 : w.heap.size < w1.heap.size := (by omega)
 go_wp2_with fail
 refine (chk_call _ _ _ _ _ Uh'.out Ul'.out _ Hk'.out).mono ?_; rintro e w2 ⟨rfl, hb2⟩; obtain ⟨hc2, hf2⟩ := bcell hb2; have hz2 : w.heap.size + 1 < w2.heap.size := (by (have := hb2.size; (try simp at this); omega)); have hy2 : w.heap.size < w2.heap.size := (by omega)
 go_wp2_with fail
 go_ret
 exact ⟨rfl, ((((Below.refl _ _).alloc (Nat.le_refl _) _).alloc (by simp) _).trans (hb1.mono (by simp; omega))).trans (hb2.mono (by omega))⟩
set_option maxHeartbeats 400000 in
theorem cov_no3 (f h l n f' h' l' n' : Int) (w : World) (uh : U64 h) (ul : U64 l) (uh' : U64 h') (ul' : U64 l') (hk : chk f h l n = 0) (hk' : chk f' h' l' n' = 0) (_nf : (f != f') = true) :
  Calls Try.prog 21 #[.agg #[.int .u8 f, .int .u64 h, .int .u64 l, .int .i64 n], .agg #[.int .u8 f', .int .u64 h', .int .u64 l', .int .i64 n']] w fun e w' => e = .returned (.bool false) ∧ Below w.heap.size w w' := by
 have Uh := Lib.hid uh
 have Ul := Lib.hid ul
 have Hk := Lib.hid hk
 have Uh' := Lib.hid uh'
 have Ul' := Lib.hid ul'
 have Hk' := Lib.hid hk'
 clear uh ul hk uh' ul' hk'
 go_enter Try.func21, Try.ntmps21
 go_wp2_with fail
 refine (chk_call _ _ _ _ _ Uh.out Ul.out _ Hk.out).mono ?_; rintro e w1 ⟨rfl, hb1⟩; obtain ⟨hc1, hf1⟩ := bcell hb1; have hz1 : w.heap.size + 1 < w1.heap.size := (by (have := hb1.size; (try simp at this); omega)); have hy1 : w.heap.size < w1.heap.size := (by omega)
 go_wp2_with fail
 refine (chk_call _ _ _ _ _ Uh'.out Ul'.out _ Hk'.out).mono ?_; rintro e w2 ⟨rfl, hb2⟩; obtain ⟨hc2, hf2⟩ := bcell hb2; have hz2 : w.heap.size + 1 < w2.heap.size := (by (have := hb2.size; (try simp at this); omega)); have hy2 : w.heap.size < w2.heap.size := (by omega)
 go_wp2_with fail
 go_ret
 exact ⟨rfl, ((((Below.refl _ _).alloc (Nat.le_refl _) _).alloc (by simp) _).trans (hb1.mono (by simp; omega))).trans (hb2.mono (by omega))⟩
set_option maxHeartbeats 400000 in
theorem cov_no4 (f h l n f' h' l' n' : Int) (w : World) (uh : U64 h) (ul : U64 l) (uh' : U64 h') (ul' : U64 l') (hk : chk f h l n = 0) (hk' : chk f' h' l' n' = 0) (_nf : (f != f') = false) (_nn : n' < n) :
  Calls Try.prog 21 #[.agg #[.int .u8 f, .int .u64 h, .int .u64 l, .int .i64 n], .agg #[.int .u8 f', .int .u64 h', .int .u64 l', .int .i64 n']] w fun e w' => e = .returned (.bool false) ∧ Below w.heap.size w w' := by
 have Uh := Lib.hid uh
 have Ul := Lib.hid ul
 have Hk := Lib.hid hk
 have Uh' := Lib.hid uh'
 have Ul' := Lib.hid ul'
 have Hk' := Lib.hid hk'
 clear uh ul hk uh' ul' hk'
 go_enter Try.func21, Try.ntmps21
 go_wp2_with fail
 refine (chk_call _ _ _ _ _ Uh.out Ul.out _ Hk.out).mono ?_; rintro e w1 ⟨rfl, hb1⟩; obtain ⟨hc1, hf1⟩ := bcell hb1; have hz1 : w.heap.size + 1 < w1.heap.size := (by (have := hb1.size; (try simp at this); omega)); have hy1 : w.heap.size < w1.heap.size := (by omega)
 go_wp2_with fail
 refine (chk_call _ _ _ _ _ Uh'.out Ul'.out _ Hk'.out).mono ?_; rintro e w2 ⟨rfl, hb2⟩; obtain ⟨hc2, hf2⟩ := bcell hb2; have hz2 : w.heap.size + 1 < w2.heap.size := (by (have := hb2.size; (try simp at this); omega)); have hy2 : w.heap.size < w2.heap.size := (by omega)
 go_wp2_with fail
 go_ret
 exact ⟨rfl, ((((Below.refl _ _).alloc (Nat.le_refl _) _).alloc (by simp) _).trans (hb1.mono (by simp; omega))).trans (hb2.mono (by omega))⟩
theorem clear_call (h l n : Int) (w : World) (uh : U64 h) (ul : U64 l) (h1 : 0 ≤ n) (h2 : n ≤ 128) (H L : Int) (eH : clrH h n = H) (eL : clrL l n = L) :
  Calls Try.prog 44 #[.agg #[.int .u64 h, .int .u64 l], .int .i64 n] w fun e w' => e = .returned (.agg #[.int .u64 H, .int .u64 L]) ∧ Below w.heap.size w w' := by
 subst eH eL; exact clear_any h l n w uh ul h1 h2
set_option maxHeartbeats 400000 in
theorem cov_yes1 (f h l n h' l' n' : Int) (w : World) (uh : U64 h) (ul : U64 l) (uh' : U64 h') (ul' : U64 l') (hk : chk f h l n = 0) (hk' : chk f h' l' n' = 0) (eH : clrH h' (wid f - n) = h) (eL : clrL l' (wid f - n) = l) (_nn : n ≤ n') (g0 : 0 ≤ wid f - n) (g1 : wid f - n ≤ 128) :
  Calls Try.prog 21 #[.agg #[.int .u8 f, .int .u64 h, .int .u64 l, .int .i64 n], .agg #[.int .u8 f, .int .u64 h', .int .u64 l', .int .i64 n']] w fun e w' => e = .returned (.bool true) ∧ Below w.heap.size w w' := by
 have EH := Lib.hid eH
 have EL := Lib.hid eL
 have Uh := Lib.hid uh
 have Ul := Lib.hid ul
 have Hk := Lib.hid hk
 have Uh' := Lib.hid uh'
 have Ul' := Lib.hid ul'
 have Hk' := Lib.hid hk'
 clear uh ul hk uh' ul' hk' eH eL
 go_enter Try.func21, Try.ntmps21
 go_wp2_with fail
 refine (chk_call _ _ _ _ _ Uh.out Ul.out _ Hk.out).mono ?_; rintro e w1 ⟨rfl, hb1⟩; obtain ⟨hc1, hf1⟩ := bcell hb1; have hz1 : w.heap.size + 1 < w1.heap.size := (by (have := hb1.size; (try simp at this); omega)); have hy1 : w.heap.size < w1.heap.size := (by omega)
 go_wp2_with fail
 refine (chk_call _ _ _ _ _ Uh'.out Ul'.out _ Hk'.out).mono ?_; rintro e w2 ⟨rfl, hb2⟩; obtain ⟨hc2, hf2⟩ := bcell hb2; have hz2 : w.heap.size + 1 < w2.heap.size := (by (have := hb2.size; (try simp at this); omega)); have hy2 : w.heap.size < w2.heap.size := (by omega)
 go_wp2_with fail
 have p0 : w2.cell? ⟨w.heap.size, 0, none⟩ = some (.int .u8 f) := by rw [hc2 _ _ hy1, hc1 _ _ (by simp <;> omega)]; simp
 have p1 : w2.cell? ⟨w.heap.size, 1, none⟩ = some (.int .u64 h) := by rw [hc2 _ _ hy1, hc1 _ _ (by simp <;> omega)]; simp
 have p2 : w2.cell? ⟨w.heap.size, 2, none⟩ = some (.int .u64 l) := by rw [hc2 _ _ hy1, hc1 _ _ (by simp <;> omega)]; simp
 have p3 : w2.cell? ⟨w.heap.size, 3, none⟩ = some (.int .i64 n) := by rw [hc2 _ _ hy1, hc1 _ _ (by simp <;> omega)]; simp
 have q1 : w2.cell? ⟨w.heap.size + 1, 1, none⟩ = some (.int .u64 h') := by rw [hc2 _ _ hz1, hc1 _ _ (by simp <;> omega)]; simp
 have q2 : w2.cell? ⟨w.heap.size + 1, 2, none⟩ = some (.int .u64 l') := by rw [hc2 _ _ hz1, hc1 _ _ (by simp <;> omega)]; simp
 clear hc1 hc2 hf1 hf2
 have e1 : IntKind.i64.wrap (wid f - n) = wid f - n := IntWalk.i64_in _ (by omega)
 go_region_held3 (fun x => x.cell? ⟨w.heap.size, 0, none⟩ = some (.int .u8 f) ∧ x.cell? ⟨w.heap.size, 1, none⟩ = some (.int .u64 h) ∧ x.cell? ⟨w.heap.size, 2, none⟩ = some (.int .u64 l) ∧ x.cell? ⟨w.heap.size, 3, none⟩ = some (.int .i64 n) ∧ x.cell? ⟨w.heap.size + 1, 1, none⟩ = some (.int .u64 h') ∧ x.cell? ⟨w.heap.size + 1, 2, none⟩ = some (.int .u64 l'))
  (first | exact ⟨p0, p1, p2, p3, q1, q2⟩ | exact ⟨(hc3 _ _ hy2).trans p0, (hc3 _ _ hy2).trans p1, (hc3 _ _ hy2).trans p2, (hc3 _ _ hy2).trans p3, (hc3 _ _ hz2).trans q1, (hc3 _ _ hz2).trans q2⟩)
  (first | (go_at_call 44; refine (clear_call _ _ _ _ Uh'.out Ul'.out g0 g1 _ _ EH.out EL.out).mono ?_; rintro e w3 ⟨rfl, hb3⟩; obtain ⟨hc3, hf3⟩ := bcellD hb3) | (go_at_call 42; refine (width_any _ _).mono ?_; rintro e w4 ⟨rfl, rfl⟩))
 all_goals
  clear e1
  go_wp2
  go_ret
  exact ⟨rfl, ((((((Below.refl _ _).alloc (Nat.le_refl _) _).alloc (by simp) _).trans (hb1.mono (by simp; omega))).trans (hb2.mono (by omega))).drew).trans (hb3.mono (by simp; omega))⟩
set_option maxHeartbeats 400000 in
theorem cov_yes2 (L : Int) (f h l n h' l' n' : Int) (w : World) (uh : U64 h) (ul : U64 l) (uh' : U64 h') (ul' : U64 l') (hk : chk f h l n = 0) (hk' : chk f h' l' n' = 0) (eH : clrH h' (wid f - n) = h) (eL : clrL l' (wid f - n) = L) (_nL : ¬ L = l) (_nn : n ≤ n') (g0 : 0 ≤ wid f - n) (g1 : wid f - n ≤ 128) :
  Calls Try.prog 21 #[.agg #[.int .u8 f, .int .u64 h, .int .u64 l, .int .i64 n], .agg #[.int .u8 f, .int .u64 h', .int .u64 l', .int .i64 n']] w fun e w' => e = .returned (.bool false) ∧ Below w.heap.size w w' := by
 have EH := Lib.hid eH
 have EL := Lib.hid eL
 have Uh := Lib.hid uh
 have Ul := Lib.hid ul
 have Hk := Lib.hid hk
 have Uh' := Lib.hid uh'
 have Ul' := Lib.hid ul'
 have Hk' := Lib.hid hk'
 clear uh ul hk uh' ul' hk' eH eL
 go_enter Try.func21, Try.ntmps21
 go_wp2_with fail
 refine (chk_call _ _ _ _ _ Uh.out Ul.out _ Hk.out).mono ?_; rintro e w1 ⟨rfl, hb1⟩; obtain ⟨hc1, hf1⟩ := bcell hb1; have hz1 : w.heap.size + 1 < w1.heap.size := (by (have := hb1.size; (try simp at this); omega)); have hy1 : w.heap.size < w1.heap.size := (by omega)
 go_wp2_with fail
 refine (chk_call _ _ _ _ _ Uh'.out Ul'.out _ Hk'.out).mono ?_; rintro e w2 ⟨rfl, hb2⟩; obtain ⟨hc2, hf2⟩ := bcell hb2; have hz2 : w.heap.size + 1 < w2.heap.size := (by (have := hb2.size; (try simp at this); omega)); have hy2 : w.heap.size < w2.heap.size := (by omega)
 go_wp2_with fail
 have p0 : w2.cell? ⟨w.heap.size, 0, none⟩ = some (.int .u8 f) := by rw [hc2 _ _ hy1, hc1 _ _ (by simp <;> omega)]; simp
 have p1 : w2.cell? ⟨w.heap.size, 1, none⟩ = some (.int .u64 h) := by rw [hc2 _ _ hy1, hc1 _ _ (by simp <;> omega)]; simp
 have p2 : w2.cell? ⟨w.heap.size, 2, none⟩ = some (.int .u64 l) := by rw [hc2 _ _ hy1, hc1 _ _ (by simp <;> omega)]; simp
 have p3 : w2.cell? ⟨w.heap.size, 3, none⟩ = some (.int .i64 n) := by rw [hc2 _ _ hy1, hc1 _ _ (by simp <;> omega)]; simp
 have q1 : w2.cell? ⟨w.heap.size + 1, 1, none⟩ = some (.int .u64 h') := by rw [hc2 _ _ hz1, hc1 _ _ (by simp <;> omega)]; simp
 have q2 : w2.cell? ⟨w.heap.size + 1, 2, none⟩ = some (.int .u64 l') := by rw [hc2 _ _ hz1, hc1 _ _ (by simp <;> omega)]; simp
 clear hc1 hc2 hf1 hf2
 have e1 : IntKind.i64.wrap (wid f - n) = wid f - n := IntWalk.i64_in _ (by omega)
 go_region_held3 (fun x => x.cell? ⟨w.heap.size, 0, none⟩ = some (.int .u8 f) ∧ x.cell? ⟨w.heap.size, 1, none⟩ = some (.int .u64 h) ∧ x.cell? ⟨w.heap.size, 2, none⟩ = some (.int .u64 l) ∧ x.cell? ⟨w.heap.size, 3, none⟩ = some (.int .i64 n) ∧ x.cell? ⟨w.heap.size + 1, 1, none⟩ = some (.int .u64 h') ∧ x.cell? ⟨w.heap.size + 1, 2, none⟩ = some (.int .u64 l'))
  (first | exact ⟨p0, p1, p2, p3, q1, q2⟩ | exact ⟨(hc3 _ _ hy2).trans p0, (hc3 _ _ hy2).trans p1, (hc3 _ _ hy2).trans p2, (hc3 _ _ hy2).trans p3, (hc3 _ _ hz2).trans q1, (hc3 _ _ hz2).trans q2⟩)
  (first | (go_at_call 44; refine (clear_call _ _ _ _ Uh'.out Ul'.out g0 g1 _ _ EH.out EL.out).mono ?_; rintro e w3 ⟨rfl, hb3⟩; obtain ⟨hc3, hf3⟩ := bcellD hb3) | (go_at_call 42; refine (width_any _ _).mono ?_; rintro e w4 ⟨rfl, rfl⟩))
 all_goals
  clear e1
  go_wp2
  go_ret
  exact ⟨rfl, ((((((Below.refl _ _).alloc (Nat.le_refl _) _).alloc (by simp) _).trans (hb1.mono (by simp; omega))).trans (hb2.mono (by omega))).drew).trans (hb3.mono (by simp; omega))⟩
set_option maxHeartbeats 400000 in
theorem cov_yes3 (H L : Int) (f h l n h' l' n' : Int) (w : World) (uh : U64 h) (ul : U64 l) (uh' : U64 h') (ul' : U64 l') (hk : chk f h l n = 0) (hk' : chk f h' l' n' = 0) (eH : clrH h' (wid f - n) = H) (eL : clrL l' (wid f - n) = L) (_nH : ¬ H = h) (_nn : n ≤ n') (g0 : 0 ≤ wid f - n) (g1 : wid f - n ≤ 128) :
  Calls Try.prog 21 #[.agg #[.int .u8 f, .int .u64 h, .int .u64 l, .int .i64 n], .agg #[.int .u8 f, .int .u64 h', .int .u64 l', .int .i64 n']] w fun e w' => e = .returned (.bool false) ∧ Below w.heap.size w w' := by
 have EH := Lib.hid eH
 have EL := Lib.hid eL
 have Uh := Lib.hid uh
 have Ul := Lib.hid ul
 have Hk := Lib.hid hk
 have Uh' := Lib.hid uh'
 have Ul' := Lib.hid ul'
 have Hk' := Lib.hid hk'
 clear uh ul hk uh' ul' hk' eH eL
 go_enter Try.func21, Try.ntmps21
 go_wp2_with fail
 refine (chk_call _ _ _ _ _ Uh.out Ul.out _ Hk.out).mono ?_; rintro e w1 ⟨rfl, hb1⟩; obtain ⟨hc1, hf1⟩ := bcell hb1; have hz1 : w.heap.size + 1 < w1.heap.size := (by (have := hb1.size; (try simp at this); omega)); have hy1 : w.heap.size < w1.heap.size := (by omega)
 go_wp2_with fail
 refine (chk_call _ _ _ _ _ Uh'.out Ul'.out _ Hk'.out).mono ?_; rintro e w2 ⟨rfl, hb2⟩; obtain ⟨hc2, hf2⟩ := bcell hb2; have hz2 : w.heap.size + 1 < w2.heap.size := (by (have := hb2.size; (try simp at this); omega)); have hy2 : w.heap.size < w2.heap.size := (by omega)
 go_wp2_with fail
 have p0 : w2.cell? ⟨w.heap.size, 0, none⟩ = some (.int .u8 f) := by rw [hc2 _ _ hy1, hc1 _ _ (by simp <;> omega)]; simp
 have p1 : w2.cell? ⟨w.heap.size, 1, none⟩ = some (.int .u64 h) := by rw [hc2 _ _ hy1, hc1 _ _ (by simp <;> omega)]; simp
 have p2 : w2.cell? ⟨w.heap.size, 2, none⟩ = some (.int .u64 l) := by rw [hc2 _ _ hy1, hc1 _ _ (by simp <;> omega)]; simp
 have p3 : w2.cell? ⟨w.heap.size, 3, none⟩ = some (.int .i64 n) := by rw [hc2 _ _ hy1, hc1 _ _ (by simp <;> omega)]; simp
 have q1 : w2.cell? ⟨w.heap.size + 1, 1, none⟩ = some (.int .u64 h') := by rw [hc2 _ _ hz1, hc1 _ _ (by simp <;> omega)]; simp
 have q2 : w2.cell? ⟨w.heap.size + 1, 2, none⟩ = some (.int .u64 l') := by rw [hc2 _ _ hz1, hc1 _ _ (by simp <;> omega)]; simp
 clear hc1 hc2 hf1 hf2
 have e1 : IntKind.i64.wrap (wid f - n) = wid f - n := IntWalk.i64_in _ (by omega)
 go_region_held3 (fun x => x.cell? ⟨w.heap.size, 0, none⟩ = some (.int .u8 f) ∧ x.cell? ⟨w.heap.size, 1, none⟩ = some (.int .u64 h) ∧ x.cell? ⟨w.heap.size, 2, none⟩ = some (.int .u64 l) ∧ x.cell? ⟨w.heap.size, 3, none⟩ = some (.int .i64 n) ∧ x.cell? ⟨w.heap.size + 1, 1, none⟩ = some (.int .u64 h') ∧ x.cell? ⟨w.heap.size + 1, 2, none⟩ = some (.int .u64 l'))
  (first | exact ⟨p0, p1, p2, p3, q1, q2⟩ | exact ⟨(hc3 _ _ hy2).trans p0, (hc3 _ _ hy2).trans p1, (hc3 _ _ hy2).trans p2, (hc3 _ _ hy2).trans p3, (hc3 _ _ hz2).trans q1, (hc3 _ _ hz2).trans q2⟩)
  (first | (go_at_call 44; refine (clear_call _ _ _ _ Uh'.out Ul'.out g0 g1 _ _ EH.out EL.out).mono ?_; rintro e w3 ⟨rfl, hb3⟩; obtain ⟨hc3, hf3⟩ := bcellD hb3) | (go_at_call 42; refine (width_any _ _).mono ?_; rintro e w4 ⟨rfl, rfl⟩))
 all_goals
  clear e1
  go_wp2
  go_ret
  exact ⟨rfl, ((((((Below.refl _ _).alloc (Nat.le_refl _) _).alloc (by simp) _).trans (hb1.mono (by simp; omega))).trans (hb2.mono (by omega))).drew).trans (hb3.mono (by simp; omega))⟩
theorem cutOk_of (f h l n : Int) (h1 : ok f h l n = true) : 0 ≤ n ∧ n ≤ wid f := by
 simp only [ok, cutOk, Bool.and_eq_true, decide_eq_true_eq] at h1
 exact ⟨h1.1.1.2, h1.1.2⟩
theorem cov_any (f h l n f' h' l' n' : Int) (w : World) (uh : U64 h) (ul : U64 l) (uh' : U64 h') (ul' : U64 l') :
  Calls Try.prog 21 #[.agg #[.int .u8 f, .int .u64 h, .int .u64 l, .int .i64 n], .agg #[.int .u8 f', .int .u64 h', .int .u64 l', .int .i64 n']] w fun e w' => e = .returned (.bool (cov f h l n f' h' l' n')) ∧ Below w.heap.size w w' := by
 cases h1 : ok f h l n
 ·
  have hv : cov f h l n f' h' l' n' = false := by simp [cov, h1]
  rw [hv]
  exact cov_no1 f h l n f' h' l' n' w uh ul _ (by rcases chk_no0 f h l n h1 with e | e <;> rw [e] <;> rfl) rfl
 ·
  have k1 := chk_ok0 f h l n h1
  cases h2 : ok f' h' l' n'
  ·
   have hv : cov f h l n f' h' l' n' = false := by simp [cov, h2]
   rw [hv]
   exact cov_no2 f h l n f' h' l' n' w uh ul uh' ul' _ (by rcases chk_no0 f' h' l' n' h2 with e | e <;> rw [e] <;> rfl) k1 rfl
  ·
   have k2 := chk_ok0 f' h' l' n' h2
   by_cases h3 : f = f'
   ·
    subst h3
    by_cases h4 : n ≤ n'
    ·
     obtain ⟨b0, b1⟩ := cutOk_of f h l n h1
     have b2 := wid_hi f
     by_cases eH : clrH h' (wid f - n) = h
     ·
      by_cases eL : clrL l' (wid f - n) = l
      ·
       have hv : cov f h l n f h' l' n' = true := by simp [cov, h1, h2, h4, eH, eL]
       rw [hv]
       exact cov_yes1 f h l n h' l' n' w uh ul uh' ul' k1 k2 eH eL h4 (by omega) (by omega)
      ·
       have hv : cov f h l n f h' l' n' = false := by simp [cov, eL]
       rw [hv]
       exact cov_yes2 _ f h l n h' l' n' w uh ul uh' ul' k1 k2 eH rfl eL h4 (by omega) (by omega)
     ·
      have hv : cov f h l n f h' l' n' = false := by simp [cov, eH]
      rw [hv]
      exact cov_yes3 _ _ f h l n h' l' n' w uh ul uh' ul' k1 k2 rfl rfl eH h4 (by omega) (by omega)
    ·
     have hv : cov f h l n f h' l' n' = false := by simp [cov, h4]
     rw [hv]
     exact cov_no4 f h l n f h' l' n' w uh ul uh' ul' k1 k2 (by simp) (by omega)
   ·
    have hv : cov f h l n f' h' l' n' = false := by simp [cov, h3]
    rw [hv]
    exact cov_no3 f h l n f' h' l' n' w uh ul uh' ul' k1 k2 (by simp [h3])

def nb (c : UInt8) : Bool := (97 ≤ c && c ≤ 122) || (65 ≤ c && c ≤ 90) || (48 ≤ c && c ≤ 57) || c == 45 || c == 95
end Go.Proofs.Ythfgdgcdicacpaa
