/-
  PLAIN MATHEMATICS of layer 4 (clocks): no Go in sight.
-/
import Derived.Lib.Hide
namespace Go.Proofs.Ytopdblkgchcdnaa
namespace Clk
set_option linter.unusedVariables false
/-- what a clock shows -/
def sh (s d t : Int) : Int := s + t * (1000000 + d) / 1000000
/-- the first time at which it shows at least n -/
def sc (s d n : Int) : Int := ((n - s) * 1000000 + (1000000 + d) - 1) / (1000000 + d)
/-- the end of time -/
def E : Int := 1099511627776
def okB (s d : Int) : Bool := decide (-1048576 ≤ s ∧ s ≤ 1048576 ∧ -1000 ≤ d ∧ d ≤ 1000)
def tmB (t : Int) : Bool := decide (0 ≤ t ∧ t ≤ 1099511627776)
def wnB (a b : Int) : Bool := decide (0 ≤ a ∧ a ≤ 1099511627776 ∧ 0 ≤ b ∧ b ≤ 1099511627776 ∧ a ≤ b)
theorem okB_true {s d : Int} : okB s d = true ↔ (-1048576 ≤ s ∧ s ≤ 1048576 ∧ -1000 ≤ d ∧ d ≤ 1000) := by simp [okB]
theorem tmB_true {t : Int} : tmB t = true ↔ (0 ≤ t ∧ t ≤ 1099511627776) := by simp [tmB]
theorem wnB_true {a b : Int} : wnB a b = true ↔ (0 ≤ a ∧ a ≤ 1099511627776 ∧ 0 ≤ b ∧ b ≤ 1099511627776 ∧ a ≤ b) := by simp [wnB]
/-- t times a rate -/
theorem prod_bd {t d : Int} (h0 : 0 ≤ t) (h1 : t ≤ 1099511627777) (d0 : -1000 ≤ d) (d1 : d ≤ 1000) :
    999000 * t ≤ t * (1000000 + d) ∧ t * (1000000 + d) ≤ 1001000 * t := by
  constructor
  · rw [Int.mul_comm]; exact Int.mul_le_mul_of_nonneg_left (by omega) h0
  · rw [Int.mul_comm 1001000]; exact Int.mul_le_mul_of_nonneg_left (by omega) h0
theorem drift_bd {t d : Int} (h0 : 0 ≤ t) (d0 : -1000 ≤ d) (d1 : d ≤ 1000) : -(1000 * t) ≤ t * d ∧ t * d ≤ 1000 * t := by
  constructor
  · have := Int.mul_le_mul_of_nonneg_left (show -1000 ≤ d by omega) h0
    omega
  · have := Int.mul_le_mul_of_nonneg_left (show d ≤ 1000 by omega) h0
    omega
theorem sh_bd {s d t : Int} (h : okB s d = true) (h0 : 0 ≤ t) (h1 : t ≤ 1099511627777) : s + 999 * t / 1000 - 1 ≤ sh s d t ∧ sh s d t ≤ s + 1001 * t / 1000 := by
  obtain ⟨_, _, d0, d1⟩ := okB_true.1 h
  have := prod_bd h0 h1 d0 d1
  unfold sh
  omega
theorem sh_zero (s d : Int) : sh s d 0 = s := by simp [sh]
theorem sh_mono {s d t u : Int} (h : okB s d = true) (htu : t ≤ u) : sh s d t ≤ sh s d u := by
  obtain ⟨_, _, d0, d1⟩ := okB_true.1 h
  have := Int.mul_le_mul_of_nonneg_right htu (show 0 ≤ 1000000 + d by omega)
  unfold sh
  omega
/-- THE FIRST TIME, MEANT: n is reached at t exactly if t is not before it -/
theorem sc_le {s d n t : Int} (h : okB s d = true) : sc s d n ≤ t ↔ n ≤ sh s d t := by
  obtain ⟨_, _, d0, d1⟩ := okB_true.1 h
  unfold sc sh
  have hp : 0 < 1000000 + d := by omega
  have e1 : ((n - s) * 1000000 + (1000000 + d) - 1) / (1000000 + d) ≤ t ↔ ((n - s) * 1000000 + (1000000 + d) - 1) < (t + 1) * (1000000 + d) := by
    rw [← Int.ediv_lt_iff_lt_mul hp]; omega
  have e2 : (t + 1) * (1000000 + d) = t * (1000000 + d) + (1000000 + d) := by rw [Int.add_mul, Int.one_mul]
  rw [e1, e2]
  omega
theorem sc_nonneg {s d n : Int} (h : okB s d = true) (hn : s ≤ n) : 0 ≤ sc s d n := by
  obtain ⟨_, _, d0, d1⟩ := okB_true.1 h
  unfold sc
  exact Int.ediv_nonneg (by omega) (by omega)
theorem sc_mono {s d m n : Int} (h : okB s d = true) (hmn : m ≤ n) : sc s d m ≤ sc s d n := by
  rw [sc_le h]
  have := (sc_le h (t := sc s d n)).1 (Int.le_refl _)
  omega
/-- a number is shown for at most two seconds -/
theorem sc_two {s d n : Int} (h : okB s d = true) : sc s d (n + 1) ≤ sc s d n + 2 := by
  obtain ⟨_, _, d0, d1⟩ := okB_true.1 h
  rw [sc_le h]
  have := (sc_le h (t := sc s d n)).1 (Int.le_refl _)
  unfold sh at this ⊢
  have e2 : (sc s d n + 2) * (1000000 + d) = sc s d n * (1000000 + d) + 2 * (1000000 + d) := by rw [Int.add_mul]
  rw [e2]
  omega
/-- what the reference reckons -/
theorem sh_ref (s d t : Int) : sh s d t = t + s + t * d / 1000000 := by
  unfold sh
  rw [Int.mul_add]
  omega
theorem sc_hi {s d n : Int} (h : okB s d = true) (hn : n ≤ sh s d 1099511627776) : sc s d n ≤ 1099511627776 := (sc_le h).2 hn
/-- THE WINDOW OF WHAT IS SHOWN -/
def tl (s d n : Int) : Int := min (sc s d (n + 1) - 1) 1099511627776
/-- some time shows n -/
def someB (s d n : Int) : Bool := decide (s ≤ n ∧ n ≤ sh s d 1099511627776 ∧ sc s d n ≤ tl s d n)
theorem someB_true {s d n : Int} : someB s d n = true ↔ (s ≤ n ∧ n ≤ sh s d 1099511627776 ∧ sc s d n ≤ tl s d n) := by simp [someB]
theorem sh_at {s d n : Int} (h : okB s d = true) (hs : someB s d n = true) : sh s d (sc s d n) = n := by
  obtain ⟨_, _, h3⟩ := someB_true.1 hs
  have h1 := (sc_le h (t := sc s d n)).1 (Int.le_refl _)
  have h4 : ¬ sc s d (n + 1) ≤ sc s d n := by unfold tl at h3; omega
  rw [sc_le h] at h4
  omega
theorem sh_in {s d n t : Int} (h : okB s d = true) (hs : someB s d n = true) : (sc s d n ≤ t ∧ t ≤ tl s d n) → sh s d t = n := by
  intro ⟨h1, h2⟩
  have h3 := (sc_le h).1 h1
  have h4 : ¬ sc s d (n + 1) ≤ t := by unfold tl at h2; omega
  rw [sc_le h] at h4
  omega
theorem some_of {s d n t : Int} (h : okB s d = true) (h0 : 0 ≤ t) (h1 : t ≤ 1099511627776) (e : sh s d t = n) : someB s d n = true ∧ sc s d n ≤ t ∧ t ≤ tl s d n := by
  have a := (sc_le h (n := n) (t := t)).2 (by omega)
  have b : ¬ sc s d (n + 1) ≤ t := by rw [sc_le h]; omega
  have c : t ≤ tl s d n := by unfold tl; omega
  have d0 := sh_mono h h0
  have d1 := sh_mono h h1
  rw [sh_zero] at d0
  exact ⟨someB_true.2 ⟨by omega, by omega, by omega⟩, a, c⟩
theorem to_two {s d n : Int} (h : okB s d = true) : tl s d n - sc s d n ≤ 1 := by
  have := sc_two (n := n) h
  unfold tl; omega
theorem before_lt {s d n : Int} (h : okB s d = true) : sh s d (sc s d n - 1) < n := by
  have : ¬ sc s d n ≤ sc s d n - 1 := by omega
  rw [sc_le h] at this; omega
theorem after_gt {s d n : Int} (h : okB s d = true) (h1 : tl s d n + 1 ≤ 1099511627776) : n < sh s d (tl s d n + 1) := by
  have : sc s d (n + 1) ≤ tl s d n + 1 := by unfold tl at h1 ⊢; omega
  rw [sc_le h] at this; omega
end Clk
end Go.Proofs.Ytopdblkgchcdnaa
