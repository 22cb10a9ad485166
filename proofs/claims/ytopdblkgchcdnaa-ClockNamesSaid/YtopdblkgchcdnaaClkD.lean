/-
  THE WALKS over package clock: Sure.
-/
import Derived.Test.YtopdblkgchcdnaaClkB
namespace Go.Proofs.Ytopdblkgchcdnaa
open Go.RowKit Clk
set_option linter.unusedVariables false
set_option linter.unusedSimpArgs false
theorem show0_any (s d : Int) (w : World) (h : okB s d = true) :
    Calls Try.prog 26 #[.agg #[.int .i64 s, .int .i64 d], .int .i64 0] w fun e w' => e = .returned (.int .i64 s) ∧ Below w.heap.size w w' := by
  have := show_any s d 0 w h (by omega) (by omega)
  rwa [sh_zero] at this
set_option maxHeartbeats 400000 in
theorem sure_bad (s d n : Int) (w : World) (h : okB s d = false) :
    Calls Try.prog 14 #[.agg #[.int .i64 s, .int .i64 d], .int .i64 n] w fun e w' => e = .returned (.tuple #[.agg #[.int .i64 0, .int .i64 0], .int .i64 8]) ∧ Below w.heap.size w w' := by
  have HH := Lib.hid h
  clear h
  go_enter Try.func14, Try.ntmps14
  go_wp2_with (go_at_call 23; refine (cc_no _ HH.out).mono ?_; rintro e w1 ⟨rfl, hb1⟩; obtain ⟨hc1, hf1⟩ := bcell hb1; have hz1 : w.heap.size + 1 < w1.heap.size := (by (have := hb1.size; (try simp at this); omega)))
  refine bodyPost_ret (v := .tuple #[.agg #[.int .i64 0, .int .i64 0], .int .i64 8]) (by simp [results, Try.results14, go_sem, hc1, hz1]) rfl ⟨rfl, ?_⟩
  exact two_below (((below_new _ _).alloc (by simp) _).trans (hb1.mono (by simp; omega))) (by omega)
set_option maxHeartbeats 1000000 in
theorem sure_out (s d n : Int) (w : World) (h : okB s d = true) (hn : n < s ∨ sh s d 1099511627776 < n) :
    Calls Try.prog 14 #[.agg #[.int .i64 s, .int .i64 d], .int .i64 n] w fun e w' => e = .returned (.tuple #[.agg #[.int .i64 0, .int .i64 0], .int .i64 6]) ∧ Below w.heap.size w w' := by
  have HH := Lib.hid h
  clear h
  by_cases h1 : n < s
  · clear hn
    go_enter Try.func14, Try.ntmps14
    go_wp2_with fail
    refine (cc_yes _ HH.out).mono ?_
    rintro e w1 ⟨rfl, hb1⟩
    have T1 : RowKit.Hid (Two w.heap.size w1 s d) := Lib.hid (((Two.new w s d _).on (below_new _ _)).on hb1)
    have T2 : RowKit.Hid (Two (w.heap.size + 1) w1 0 0) := Lib.hid ((by simpa using Two.new (w.alloc _) 0 0 _ : Two (w.heap.size + 1) _ 0 0).on hb1)
    have HB : RowKit.Hid (Below w.heap.size w w1) := Lib.hid (((below_new _ _).alloc (by simp) _).trans (hb1.mono (by simp; omega)))
    clear hb1
    obtain ⟨a0, a1, _, _⟩ := T1.out
    go_wp2_with fail
    refine (show0_any _ _ _ HH.out).mono ?_
    rintro e w2 ⟨rfl, hb2⟩
    have T12 := Lib.hid (T1.out.on hb2)
    have T22 := Lib.hid (T2.out.on hb2)
    have HB2 := Lib.hid (chain HB.out hb2)
    clear hb2 T1 T2 HB a0 a1
    obtain ⟨b0, b1, f0, f1⟩ := T22.out
    go_wp2_with fail
    have A := two_set (x' := 0) (y' := 0) T22.out
    refine bodyPost_ret (v := .tuple #[.agg #[.int .i64 0, .int .i64 0], .int .i64 6]) (by simp [results, Try.results14, go_sem, A.a0, A.a1]) rfl ⟨rfl, ?_⟩
    exact two_below HB2.out (by omega)

  · have h2 : sh s d 1099511627776 < n := hn.resolve_left h1
    clear hn
    go_enter Try.func14, Try.ntmps14
    go_wp2_with fail
    refine (cc_yes _ HH.out).mono ?_
    rintro e w1 ⟨rfl, hb1⟩
    have T1 : RowKit.Hid (Two w.heap.size w1 s d) := Lib.hid (((Two.new w s d _).on (below_new _ _)).on hb1)
    have T2 : RowKit.Hid (Two (w.heap.size + 1) w1 0 0) := Lib.hid ((by simpa using Two.new (w.alloc _) 0 0 _ : Two (w.heap.size + 1) _ 0 0).on hb1)
    have HB : RowKit.Hid (Below w.heap.size w w1) := Lib.hid (((below_new _ _).alloc (by simp) _).trans (hb1.mono (by simp; omega)))
    clear hb1
    obtain ⟨a0, a1, _, _⟩ := T1.out
    go_wp2_with fail
    refine (show0_any _ _ _ HH.out).mono ?_
    rintro e w2 ⟨rfl, hb2⟩
    have T12 := Lib.hid (T1.out.on hb2)
    have T22 := Lib.hid (T2.out.on hb2)
    have HB2 := Lib.hid (chain HB.out hb2)
    clear hb2 T1 T2 HB a0 a1
    obtain ⟨a0, a1, _, _⟩ := T12.out
    go_wp2_with fail
    refine (show_any s d 1099511627776 _ HH.out (by omega) (by omega)).mono ?_
    rintro e w3 ⟨rfl, hb3⟩
    have T13 := Lib.hid (T12.out.on hb3)
    have T23 := Lib.hid (T22.out.on hb3)
    have HB3 := Lib.hid (chain HB2.out hb3)
    clear hb3 T12 T22 HB2 a0 a1
    obtain ⟨b0, b1, f0, f1⟩ := T23.out
    go_wp2_with fail
    have A := two_set (x' := 0) (y' := 0) T23.out
    refine bodyPost_ret (v := .tuple #[.agg #[.int .i64 0, .int .i64 0], .int .i64 6]) (by simp [results, Try.results14, go_sem, A.a0, A.a1]) rfl ⟨rfl, ?_⟩
    exact two_below HB3.out (by omega)

set_option maxHeartbeats 8000000 in
theorem sure_in (s d n : Int) (w : World) (h : okB s d = true) (h0 : s ≤ n) (h1 : n ≤ sh s d 1099511627776) (a b e : Int)
    (hab : sc s d n ≤ tl s d n ∧ a = sc s d n ∧ b = tl s d n ∧ e = 0 ∨ tl s d n < sc s d n ∧ a = 0 ∧ b = 0 ∧ e = 6) :
    Calls Try.prog 14 #[.agg #[.int .i64 s, .int .i64 d], .int .i64 n] w fun e' w' => e' = .returned (.tuple #[.agg #[.int .i64 a, .int .i64 b], .int .i64 e]) ∧ Below w.heap.size w w' := by
  have HH := Lib.hid h
  have hbd := sh_bd h (show (0 : Int) ≤ 1099511627776 by omega) (by omega)
  obtain ⟨s0, s1, d0, d1⟩ := okB_true.1 h
  have n1 : n + 1 ≤ s + 1200000000000 := by omega
  have c0 := sc_nonneg (n := n + 1) h (by omega)
  have c1 : sc s d (n + 1) ≤ 1099511627778 := by
    have := sc_two (n := n) h
    have := sc_hi h h1
    omega
  have c2 : IntKind.i64.wrap (n + 1) = n + 1 := IntWalk.i64_in _ (by omega)
  have c3 : IntKind.i64.wrap (sc s d (n + 1) - 1) = sc s d (n + 1) - 1 := IntWalk.i64_in _ (by omega)
  have HAB := Lib.hid hab
  have hm : RowKit.Hid (min (sc s d (n + 1) - 1) 1099511627776 = tl s d n) := Lib.hid rfl
  clear h hbd hab
  go_enter Try.func14, Try.ntmps14
  go_wp2_with fail
  refine (cc_yes _ HH.out).mono ?_
  rintro e w1 ⟨rfl, hb1⟩
  have T1 : RowKit.Hid (Two w.heap.size w1 s d) := Lib.hid (((Two.new w s d _).on (below_new _ _)).on hb1)
  have T2 : RowKit.Hid (Two (w.heap.size + 1) w1 0 0) := Lib.hid ((by simpa using Two.new (w.alloc _) 0 0 _ : Two (w.heap.size + 1) _ 0 0).on hb1)
  have HB : RowKit.Hid (Below w.heap.size w w1) := Lib.hid (((below_new _ _).alloc (by simp) _).trans (hb1.mono (by simp; omega)))
  clear hb1
  obtain ⟨a0, a1, _, _⟩ := T1.out
  go_wp2_with fail
  refine (show0_any _ _ _ HH.out).mono ?_
  rintro e w2 ⟨rfl, hb2⟩
  have T12 := Lib.hid (T1.out.on hb2)
  have T22 := Lib.hid (T2.out.on hb2)
  have HB2 := Lib.hid (chain HB.out hb2)
  clear hb2 T1 T2 HB a0 a1
  obtain ⟨a0, a1, _, _⟩ := T12.out
  go_wp2_with fail
  refine (show_any s d 1099511627776 _ HH.out (by omega) (by omega)).mono ?_
  rintro e w3 ⟨rfl, hb3⟩
  have T13 := Lib.hid (T12.out.on hb3)
  have T23 := Lib.hid (T22.out.on hb3)
  have HB3 := Lib.hid (chain HB2.out hb3)
  clear hb3 T12 T22 HB2 a0 a1
  go_upto_region 6 with fail
  obtain ⟨a0, a1, _, _⟩ := T13.out
  have hz := T13.out.lt
  have hz2 : w.heap.size + 1 < w3.heap.size := T23.out.lt
  have hq2 : sc s d (n + 1) - 1 ≤ 1099511627777 := by omega
  go_cut [7] (fun s7 wx => ∃ X : Nat, s7 = .pointer (some ⟨X, 0, none⟩) ∧ w3.heap.size ≤ X ∧ Two X wx (sc s d n) (min (sc s d (n + 1) - 1) 1099511627776) ∧ Below w3.heap.size w3 wx)
  case first =>
    go_region_with (first | (go_at_call_of 27 (Value.int IntKind.i64 n); refine (since_any s d n _ HH.out (by omega) (by omega)).mono ?_; rintro e w4 ⟨rfl, hb4⟩; obtain ⟨hc4, hf4⟩ := bcellD hb4; have zp4 : w.heap.size < w4.heap.size := (by (have := hb4.size; (try simp at this); omega)); have zs4 : w3.heap.size ≤ w4.heap.size := (by (have := hb4.size; (try simp at this); omega)); (try (have zq4 : w3.heap.size < w4.heap.size := (by (have := hb4.size; (try simp at this); omega))))) | (go_at_call 27; refine (since_any s d (n + 1) _ HH.out (by omega) (by omega)).mono ?_; rintro e w5 ⟨rfl, hb5⟩; obtain ⟨hc5, hf5⟩ := bcell hb5; have zp5 : w.heap.size < w5.heap.size := (by (have := hb5.size; (try simp at this); omega)); have zs5 : w3.heap.size ≤ w5.heap.size := (by (have := hb5.size; (try simp at this); omega)); (try (have zq5 : w3.heap.size < w5.heap.size := (by (have := hb5.size; (try simp at this); omega)))); (try (have zr5 : w4.heap.size < w5.heap.size := (by (have := hb5.size; (try simp at this); omega))))))
    all_goals
      clear hc4 hf4 hc5 hf5
      first
        | (have HA : Below w3.heap.size w3 w5 := chain (((Below.refl w3.heap.size w3).drew).trans hb4) hb5
           go_wp2_with fail
           go_meet
           exact ⟨_, rfl, zs5, Two.new w5 _ _ _, HA.alloc HA.size _⟩)
        | (have HZ : Two w4.heap.size w5 0 0 := (Two.new w4 0 0 25).on hb5
           have h34 : Below w3.heap.size w3 w4 := ((Below.refl w3.heap.size w3).drew).trans hb4
           have HA : Below w3.heap.size w3 w5 := (h34.alloc h34.size _).trans (hb5.mono (by simp; omega))
           go_wp2_with fail
           go_meet
           exact ⟨_, rfl, zs4, two_set HZ, two_below HA zs4⟩)
        | (have HZ : Two w3.heap.size w5 0 0 := ((Two.new w3 0 0 25).on (((Below.refl _ _).drew).trans hb4)).on hb5
           have HA : Below w3.heap.size w3 w5 := chain (((below_new w3 (.cells #[.int .i64 0, .int .i64 0] 25)).drew).trans (hb4.mono (by simp))) hb5
           go_wp2_with fail
           go_meet
           exact ⟨_, rfl, Nat.le_refl _, two_set HZ, two_below HA (Nat.le_refl _)⟩)
  case rest =>
    obtain ⟨X, rfl, hX, hTX, hb4⟩ := hcut
    rw [hm.out] at hTX
    have HB4 := Lib.hid (chain HB3.out hb4)
    have T24 := Lib.hid (T23.out.on hb4)
    have zx := hTX.lt
    have hX2 : w.heap.size + 1 < X := by omega
    obtain ⟨x0, x1, _, _⟩ := hTX
    clear hb4
    obtain ⟨b0, b1, _, _⟩ := T24.out
    rcases HAB.out with ⟨q0, rfl, rfl, rfl⟩ | ⟨q0, rfl, rfl, rfl⟩
    · go_wp2_with fail
      have A := two_set (x' := sc s d n) (y' := tl s d n) T24.out
      refine bodyPost_ret (v := .tuple #[.agg #[.int .i64 (sc s d n), .int .i64 (tl s d n)], .int .i64 0]) (by simp [results, Try.results14, go_sem, A.a0, A.a1]) rfl ⟨rfl, ?_⟩
      exact two_below HB4.out (by omega)
    · go_wp2_with fail
      have A := two_set (x' := 0) (y' := 0) T24.out
      refine bodyPost_ret (v := .tuple #[.agg #[.int .i64 0, .int .i64 0], .int .i64 6]) (by simp [results, Try.results14, go_sem, A.a0, A.a1]) rfl ⟨rfl, ?_⟩
      exact two_below HB4.out (by omega)
end Go.Proofs.Ytopdblkgchcdnaa
