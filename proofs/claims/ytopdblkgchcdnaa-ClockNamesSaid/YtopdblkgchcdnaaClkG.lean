/-
  THE WALKS over the reference of package clock: the search for the first time, Sure.
-/
import Derived.Test.YtopdblkgchcdnaaClkB
namespace Go.Proofs.Ytopdblkgchcdnaa
open Go.RowKit Clk
set_option linter.unusedVariables false
set_option linter.unusedSimpArgs false
/-- where the search ends -/
def fs (s d n : Int) : Int := max 0 (min (sc s d n) 1099511627777)
theorem fs_bd (s d n : Int) : 0 ≤ fs s d n ∧ fs s d n ≤ 1099511627777 := by unfold fs; omega
theorem fs_le {s d n t : Int} (h : okB s d = true) (h0 : 0 ≤ t) (h1 : t ≤ 1099511627776) : fs s d n ≤ t ↔ n ≤ sh s d t := by
  rw [← sc_le h]; unfold fs; omega
set_option maxHeartbeats 1000000 in
theorem first_any (s d n : Int) (w : World) (h : okB s d = true) :
    Calls Try.prog 31 #[.agg #[.int .i64 s, .int .i64 d], .int .i64 n] w fun e w' => e = .returned (.int .i64 (fs s d n)) ∧ Below w.heap.size w w' := by
  have HH := Lib.hid h
  have F := fs_bd s d n
  clear h
  go_enter Try.func31, Try.ntmps31
  go_wp2_with fail
  have T := Lib.hid (Two.new w s d 30)
  have HB := Lib.hid (below_new w (.cells #[.int .i64 s, .int .i64 d] 30))
  go_loopw [5, 6] (fun l r wr => ∃ x y : Int, l = .int .i64 x ∧ r = .int .i64 y ∧ 0 ≤ x ∧ x ≤ fs s d n ∧ fs s d n ≤ y ∧ y ≤ 1099511627777 ∧ Two w.heap.size wr s d ∧ Below w.heap.size w wr) (fun l r _ => (intOf r - intOf l).toNat)
  case atStart => exact ⟨0, 1099511627777, rfl, rfl, by omega, F.1, F.2, by omega, T.out, HB.out⟩
  case round =>
    obtain ⟨x, y, rfl, rfl, hx, hxf, hyf, hy, hT, hb⟩ := hrel
    have TW := Lib.hid hT
    have HW := Lib.hid hb
    clear hb hT T HB
    obtain ⟨a0, a1, _, _⟩ := TW.out
    by_cases hlt : x < y
    · have hm0 : 0 ≤ (x + y) / 2 := by omega
      have hm1 : (x + y) / 2 ≤ 1099511627776 := by omega
      have M := Lib.hid (fs_le (n := n) HH.out hm0 hm1)
      go_wp2_with fail
      refine (shown_any s d ((x + y) / 2) _ HH.out hm0 (by omega)).mono ?_
      rintro e w1 ⟨rfl, hb1⟩
      have T1 := Lib.hid (TW.out.on hb1)
      have HB1 := Lib.hid (chain HW.out hb1)
      clear hb1 a0 a1
      by_cases hc : n ≤ sh s d ((x + y) / 2)
      · have hf := M.out.2 hc
        go_wp2_with fail
        go_roundw
        case rel => exact ⟨x, (x + y) / 2, rfl, rfl, hx, hxf, hf, by omega, T1.out, HB1.out⟩
        case measure => simp [intOf]; omega
      · have hf : ¬ fs s d n ≤ (x + y) / 2 := fun hh => hc (M.out.1 hh)
        go_wp2_with fail
        go_roundw
        case rel => exact ⟨(x + y) / 2 + 1, y, by go_num, rfl, by omega, by omega, hyf, hy, T1.out, HB1.out⟩
        case measure => simp [intOf]; omega
    · have he : x = fs s d n := by omega
      go_wp2_with fail
      go_ret
      exact ⟨rfl, HW.out⟩
set_option maxHeartbeats 400000 in
theorem rsure_bad (s d n : Int) (w : World) (h : okB s d = false) :
    Calls Try.prog 22 #[.agg #[.int .i64 s, .int .i64 d], .int .i64 n] w fun e w' => e = .returned (.tuple #[.agg #[.int .i64 0, .int .i64 0], .int .i64 8]) ∧ Below w.heap.size w w' := by
  have HH := Lib.hid h
  clear h
  go_enter Try.func22, Try.ntmps22
  go_wp2_with (go_at_call 24; refine (rcc_no _ HH.out).mono ?_; rintro e w1 ⟨rfl, hb1⟩; obtain ⟨hc1, hf1⟩ := bcell hb1; have hz1 : w.heap.size + 1 < w1.heap.size := (by (have := hb1.size; (try simp at this); omega)))
  refine bodyPost_ret (v := .tuple #[.agg #[.int .i64 0, .int .i64 0], .int .i64 8]) (by simp [results, Try.results22, go_sem, hc1, hz1]) rfl ⟨rfl, ?_⟩
  exact two_below (((below_new _ _).alloc (by simp) _).trans (hb1.mono (by simp; omega))) (by omega)
set_option maxHeartbeats 2000000 in
theorem rsure_ok (s d n : Int) (w : World) (h : okB s d = true) (a b e : Int) (F : Int) (hF : fs s d n = F) (f0 : 0 ≤ F) (f1 : F ≤ 1099511627777)
    (hc : F = 1099511627777 ∧ a = 0 ∧ b = 0 ∧ e = 6 ∨ F ≤ 1099511627776 ∧ ¬ sh s d F = n ∧ a = 0 ∧ b = 0 ∧ e = 6 ∨
      (F ≤ 1099511627776 ∧ sh s d F = n ∧ F ≤ b ∧ b ≤ 1099511627776 ∧ (∀ k, F ≤ k → k < b → sh s d (k + 1) = n) ∧ (b < 1099511627776 → ¬ sh s d (b + 1) = n) ∧ a = F ∧ e = 0)) :
    Calls Try.prog 22 #[.agg #[.int .i64 s, .int .i64 d], .int .i64 n] w fun e' w' => e' = .returned (.tuple #[.agg #[.int .i64 a, .int .i64 b], .int .i64 e]) ∧ Below w.heap.size w w' := by
  have HH := Lib.hid h
  have HC := Lib.hid hc
  have HF := Lib.hid hF
  clear h hc hF
  go_enter Try.func22, Try.ntmps22
  go_wp2_with fail
  refine (rcc_yes _ HH.out).mono ?_
  rintro e w1 ⟨rfl, hb1⟩
  have T1 : RowKit.Hid (Two w.heap.size w1 s d) := Lib.hid (((Two.new w s d _).on (below_new _ _)).on hb1)
  have T2 : RowKit.Hid (Two (w.heap.size + 1) w1 0 0) := Lib.hid ((by simpa using Two.new (w.alloc _) 0 0 _ : Two (w.heap.size + 1) _ 0 0).on hb1)
  have HB : RowKit.Hid (Below w.heap.size w w1) := Lib.hid (((below_new _ _).alloc (by simp) _).trans (hb1.mono (by simp; omega)))
  clear hb1
  obtain ⟨a0, a1, _, _⟩ := T1.out
  go_wp2_with fail
  have hfirst := first_any s d n w1 HH.out
  rw [HF.out] at hfirst
  refine hfirst.mono ?_
  clear hfirst
  rintro e w2 ⟨rfl, hb2⟩
  have T12 := Lib.hid (T1.out.on hb2)
  have T22 := Lib.hid (T2.out.on hb2)
  have HB2 := Lib.hid (chain HB.out hb2)
  clear hb2 T1 T2 HB a0 a1
  obtain ⟨a0, a1, _, _⟩ := T12.out
  rcases HC.out with ⟨rfl, rfl, rfl, rfl⟩ | ⟨h1, h2, rfl, rfl, rfl⟩ | ⟨h1, h2, h3, h4, h5, h6, rfl, rfl⟩
  · obtain ⟨b0, b1, b2, b3⟩ := T22.out
    go_wp2_with fail
    have A := two_set (x' := 0) (y' := 0) T22.out
    refine bodyPost_ret (v := .tuple #[.agg #[.int .i64 0, .int .i64 0], .int .i64 6]) (by simp [results, Try.results22, go_sem, A.a0, A.a1]) rfl ⟨rfl, ?_⟩
    exact two_below HB2.out (by omega)
  · have h2' : (sh s d F == n) = false := by simpa using h2
    have h2'' : (sh s d F != n) = true := by simpa using h2
    have H2 := Lib.hid (And.intro h2' h2'')
    clear h2 h2' h2'' HC
    go_wp2_with fail
    refine (shown_any s d F _ HH.out f0 (by omega)).mono ?_
    rintro e w3 ⟨rfl, hb3⟩
    have T23 := Lib.hid (T22.out.on hb3)
    have HB3 := Lib.hid (chain HB2.out hb3)
    clear hb3 a0 a1
    obtain ⟨h2', h2''⟩ := H2.out
    obtain ⟨b0, b1, b2, b3⟩ := T23.out
    go_wp2_with fail
    have A := two_set (x' := 0) (y' := 0) T23.out
    refine bodyPost_ret (v := .tuple #[.agg #[.int .i64 0, .int .i64 0], .int .i64 6]) (by simp [results, Try.results22, go_sem, A.a0, A.a1]) rfl ⟨rfl, ?_⟩
    exact two_below HB3.out (by omega)
  · have H2 := Lib.hid h2
    have H5 := Lib.hid h5
    have H6 := Lib.hid h6
    clear h2 h5 h6 HC
    go_wp2_with fail
    have hs := shown_any s d a w2 HH.out f0 (by omega)
    rw [H2.out] at hs
    refine hs.mono ?_
    clear hs
    rintro e w3 ⟨rfl, hb3⟩
    have T13 := Lib.hid (T12.out.on hb3)
    have T23 := Lib.hid (T22.out.on hb3)
    have HB3 := Lib.hid (chain HB2.out hb3)
    clear hb3 T12 T22 HB2 a0 a1
    go_wp2_with fail
    go_loopw [7] (fun l wr => ∃ k : Int, l = .int .i64 k ∧ a ≤ k ∧ k ≤ b ∧ Two w.heap.size wr s d ∧ Two (w.heap.size + 1) wr 0 0 ∧ Below w.heap.size w wr) (fun l _ => (b - intOf l).toNat)
    case atStart => exact ⟨a, rfl, by omega, h3, T13.out, T23.out, HB3.out⟩
    case round =>
      obtain ⟨k, rfl, hk0, hk1, hT1, hT2, hb⟩ := hrel
      have TW := Lib.hid hT1
      have TV := Lib.hid hT2
      have HW := Lib.hid hb
      clear hb hT1 hT2 T13 T23 HB3
      obtain ⟨a0, a1, _, _⟩ := TW.out
      by_cases hkb : k < b
      · have hke : k < 1099511627776 := by omega
        go_wp2_with fail
        have hs := shown_any s d (k + 1) wr HH.out (by omega) (by omega)
        rw [H5.out k hk0 hkb] at hs
        refine hs.mono ?_
        clear hs
        rintro e w4 ⟨rfl, hb4⟩
        have T1 := Lib.hid (TW.out.on hb4)
        have T2 := Lib.hid (TV.out.on hb4)
        have HB1 := Lib.hid (chain HW.out hb4)
        clear hb4 a0 a1
        go_wp2_with fail
        go_roundw
        case rel => exact ⟨k + 1, by go_num, by omega, by omega, T1.out, T2.out, HB1.out⟩
        case measure => simp [intOf]; omega
      · have hkb' : k = b := by omega
        by_cases hke : k < 1099511627776
        · have h6 := H6.out (by omega)
          rw [← hkb'] at h6
          have h6' : (sh s d (k + 1) == n) = false := by simpa using h6
          have HX := Lib.hid h6'
          have HK := Lib.hid hkb'
          clear h6 h6' hkb'
          go_wp2_with fail
          refine (shown_any s d (k + 1) wr HH.out (by omega) (by omega)).mono ?_
          rintro e w4 ⟨rfl, hb4⟩
          have T2 := Lib.hid (TV.out.on hb4)
          have HB1 := Lib.hid (chain HW.out hb4)
          clear hb4 a0 a1
          have h6' := HX.out
          obtain ⟨b0, b1, b2, b3⟩ := T2.out
          go_wp2_with fail
          have A := two_set (x' := a) (y' := k) T2.out
          refine bodyPost_ret (v := .tuple #[.agg #[.int .i64 a, .int .i64 k], .int .i64 0]) (by simp [results, Try.results22, go_sem, A.a0, A.a1]) rfl ⟨by rw [HK.out], ?_⟩
          exact two_below HB1.out (by omega)
        · have HK := Lib.hid hkb'
          clear hkb'
          obtain ⟨b0, b1, b2, b3⟩ := TV.out
          go_wp2_with fail
          have A := two_set (x' := a) (y' := k) TV.out
          refine bodyPost_ret (v := .tuple #[.agg #[.int .i64 a, .int .i64 k], .int .i64 0]) (by simp [results, Try.results22, go_sem, A.a0, A.a1]) rfl ⟨by rw [HK.out], ?_⟩
          exact two_below HW.out (by omega)
end Go.Proofs.Ytopdblkgchcdnaa
