/-
  THE CHAPTER's EXAMPLE (alive).
-/
import Derived.Test.YtopdblkgchcdnaaClkC
import Derived.Test.YtopdblkgchcdnaaClkD
import Derived.Test.YtopdblkgchcdnaaClkG
namespace Go.Proofs.Ytopdblkgchcdnaa
open Go.RowKit Clk
set_option linter.unusedVariables false
set_option linter.unusedSimpArgs false
/-- what Sure answers -/
def suOk (s d n : Int) : Bool := okB s d && someB s d n
def suF (s d n : Int) : Int := if suOk s d n = true then sc s d n else 0
def suT (s d n : Int) : Int := if suOk s d n = true then tl s d n else 0
def suE (s d n : Int) : Int := if okB s d = true then (if someB s d n = true then 0 else 6) else 8
theorem sure_any (s d n : Int) (w : World) :
    Calls Try.prog 14 #[.agg #[.int .i64 s, .int .i64 d], .int .i64 n] w fun e' w' => e' = .returned (.tuple #[.agg #[.int .i64 (suF s d n), .int .i64 (suT s d n)], .int .i64 (suE s d n)]) ∧ Below w.heap.size w w' := by
  cases h : okB s d
  · have e : suF s d n = 0 ∧ suT s d n = 0 ∧ suE s d n = 8 := by simp [suF, suT, suE, suOk, h]
    obtain ⟨e1, e2, e3⟩ := e
    rw [e1, e2, e3]
    exact sure_bad s d n w h
  · by_cases hn : s ≤ n ∧ n ≤ sh s d 1099511627776
    · refine sure_in s d n w h hn.1 hn.2 _ _ _ ?_
      by_cases hs : sc s d n ≤ tl s d n
      · have hb := someB_true.2 ⟨hn.1, hn.2, hs⟩
        exact Or.inl ⟨hs, by simp [suF, suOk, h, hb], by simp [suT, suOk, h, hb], by simp [suE, h, hb]⟩
      · have hb : someB s d n = false := by simp only [someB, decide_eq_false_iff_not]; omega
        exact Or.inr ⟨by omega, by simp [suF, suOk, h, hb], by simp [suT, suOk, h, hb], by simp [suE, h, hb]⟩
    · have hb : someB s d n = false := by simp only [someB, decide_eq_false_iff_not]; omega
      have e : suF s d n = 0 ∧ suT s d n = 0 ∧ suE s d n = 6 := by simp [suF, suT, suE, suOk, h, hb]
      obtain ⟨e1, e2, e3⟩ := e
      rw [e1, e2, e3]
      exact sure_out s d n w h (by omega)
theorem rsure_any (s d n : Int) (w : World) :
    Calls Try.prog 22 #[.agg #[.int .i64 s, .int .i64 d], .int .i64 n] w fun e' w' => e' = .returned (.tuple #[.agg #[.int .i64 (suF s d n), .int .i64 (suT s d n)], .int .i64 (suE s d n)]) ∧ Below w.heap.size w w' := by
  cases h : okB s d
  · have e : suF s d n = 0 ∧ suT s d n = 0 ∧ suE s d n = 8 := by simp [suF, suT, suE, suOk, h]
    obtain ⟨e1, e2, e3⟩ := e
    rw [e1, e2, e3]
    exact rsure_bad s d n w h
  · obtain ⟨g0, g1⟩ := fs_bd s d n
    refine rsure_ok s d n w h _ _ _ (fs s d n) rfl g0 g1 ?_
    have k0 := sc_le (n := n) (t := 0) h
    rw [sh_zero] at k0
    have kE := sc_le (n := n) (t := 1099511627776) h
    cases hb : someB s d n
    · have e : suF s d n = 0 ∧ suT s d n = 0 ∧ suE s d n = 6 := by simp [suF, suT, suE, suOk, h, hb]
      by_cases hf : fs s d n = 1099511627777
      · exact Or.inl ⟨hf, e⟩
      · refine Or.inr (Or.inl ⟨by omega, fun hh => ?_, e⟩)
        have := (some_of h g0 (by omega) hh).1
        rw [hb] at this
        cases this
    · have e : suF s d n = sc s d n ∧ suT s d n = tl s d n ∧ suE s d n = 0 := by simp [suF, suT, suE, suOk, h, hb]
      obtain ⟨e1, e2, e3⟩ := e
      obtain ⟨q1, q2, q3⟩ := someB_true.1 hb
      have hf : fs s d n = sc s d n := by
        have := sc_nonneg h q1
        have := sc_hi h q2
        unfold fs; omega
      rw [e1, e2, e3, hf]
      have htl : tl s d n ≤ 1099511627776 := by unfold tl; omega
      refine Or.inr (Or.inr ⟨sc_hi h q2, sh_at h hb, q3, htl, fun k h1 h2 => sh_in h hb ⟨by omega, by omega⟩, fun h1 hh => ?_, rfl, rfl⟩)
      have := after_gt (n := n) h (by omega)
      omega
theorem ex1 : rdV 5 (-1000) 999 = 1003 ∧ rdE 5 (-1000) 999 = 0 ∧ rdV 5 (-1000) 1000 = 1004 ∧ rdE 5 (-1000) 1000 = 0 ∧ rdV 5 (-1000) 1001 = 1004 ∧ rdE 5 (-1000) 1001 = 0 ∧ suF 5 (-1000) 1004 = 1000 ∧ suT 5 (-1000) 1004 = 1001 ∧ suE 5 (-1000) 1004 = 0 := by decide +kernel
set_option maxHeartbeats 1000000 in
theorem alive_any (w : World) :
    Calls Try.prog 16 #[] w fun e' w' => e' = .returned (.bool true) ∧ Below w.heap.size w w' := by
  have h1 := fun w => read_any 5 (-1000) 999 w
  have h2 := fun w => read_any 5 (-1000) 1000 w
  have h3 := fun w => read_any 5 (-1000) 1001 w
  have h4 := fun w => sure_any 5 (-1000) 1004 w
  obtain ⟨e1, e2, e3, e4, e5, e6, e7, e8, e9⟩ := ex1
  rw [e1, e2] at h1
  rw [e3, e4] at h2
  rw [e5, e6] at h3
  rw [e7, e8, e9] at h4
  have H1 := Lib.hid h1
  have H2 := Lib.hid h2
  have H3 := Lib.hid h3
  have H4 := Lib.hid h4
  clear e1 e2 e3 e4 e5 e6 e7 e8 e9 h1 h2 h3 h4
  go_enter Try.func16, Try.ntmps16
  go_wp2_with fail
  have T := Lib.hid (Two.new w 5 (-1000) 30)
  have HB := Lib.hid (below_new w (.cells #[.int .i64 5, .int .i64 (-1000)] 30))
  refine (H1.out _).mono ?_
  rintro e w1 ⟨rfl, hb1⟩
  have T1 := Lib.hid (T.out.on hb1)
  have HB1 := Lib.hid (chain HB.out hb1)
  clear hb1 T HB
  obtain ⟨a0, a1, _, _⟩ := T1.out
  go_wp2_with fail
  refine (H2.out _).mono ?_
  rintro e w2 ⟨rfl, hb2⟩
  have T2 := Lib.hid (T1.out.on hb2)
  have HB2 := Lib.hid (chain HB1.out hb2)
  clear hb2 T1 HB1 a0 a1
  obtain ⟨a0, a1, _, _⟩ := T2.out
  go_wp2_with fail
  refine (H3.out _).mono ?_
  rintro e w3 ⟨rfl, hb3⟩
  have T3 := Lib.hid (T2.out.on hb3)
  have HB3 := Lib.hid (chain HB2.out hb3)
  clear hb3 T2 HB2 a0 a1
  obtain ⟨a0, a1, _, _⟩ := T3.out
  go_wp2_with fail
  refine (H4.out _).mono ?_
  rintro e w4 ⟨rfl, hb4⟩
  have HB4 := Lib.hid (chain HB3.out hb4)
  clear hb4 a0 a1
  go_wp2_with fail
  go_ret
  exact ⟨rfl, HB4.out.alloc HB4.out.size _⟩
end Go.Proofs.Ytopdblkgchcdnaa
