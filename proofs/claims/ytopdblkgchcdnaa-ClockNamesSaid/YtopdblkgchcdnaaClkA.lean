/-
  THE WALKS over package clock and its reference: what only computes.
-/
import Derived.Test.YtopdblkgchcdnaaClkKit
namespace Go.Proofs.Ytopdblkgchcdnaa
open Go.RowKit Clk
set_option linter.unusedVariables false
set_option linter.unusedSimpArgs false
theorem tm_any (t : Int) (w : World) :
    Calls Try.prog 25 #[.int .i64 t] w fun e w' => e = .returned (.bool (tmB t)) ∧ w = w' := by
  by_cases h : 0 ≤ t ∧ t ≤ 1099511627776
  · have e : tmB t = true := tmB_true.2 h
    rw [e]; clear e
    obtain ⟨h1, h2⟩ := h
    go_enter Try.func25, Try.ntmps25
    go_wp2
    go_ret
    exact ⟨rfl, rfl⟩
  · have e : tmB t = false := by simpa [tmB] using h
    rw [e]; clear e
    by_cases h1 : 0 ≤ t
    · have h2 : ¬ t ≤ 1099511627776 := fun h2 => h ⟨h1, h2⟩
      clear h
      go_enter Try.func25, Try.ntmps25
      go_wp2
      go_ret
      exact ⟨rfl, rfl⟩
    · clear h
      go_enter Try.func25, Try.ntmps25
      go_wp2
      go_ret
      exact ⟨rfl, rfl⟩
theorem rtm_any (t : Int) (w : World) :
    Calls Try.prog 29 #[.int .i64 t] w fun e w' => e = .returned (.bool (tmB t)) ∧ w = w' := by
  by_cases h : 0 ≤ t ∧ t ≤ 1099511627776
  · have e : tmB t = true := tmB_true.2 h
    rw [e]; clear e
    obtain ⟨h1, h2⟩ := h
    go_enter Try.func29, Try.ntmps29
    go_wp2
    go_ret
    exact ⟨rfl, rfl⟩
  · have e : tmB t = false := by simpa [tmB] using h
    rw [e]; clear e
    by_cases h1 : 0 ≤ t
    · have h2 : ¬ t ≤ 1099511627776 := fun h2 => h ⟨h1, h2⟩
      clear h
      go_enter Try.func29, Try.ntmps29
      go_wp2
      go_ret
      exact ⟨rfl, rfl⟩
    · clear h
      go_enter Try.func29, Try.ntmps29
      go_wp2
      go_ret
      exact ⟨rfl, rfl⟩
/-- what Check answers -/
def chkW (a b : Int) : Int := if wnB a b = true then 0 else 8
def chkC (s d : Int) : Int := if okB s d = true then 0 else 8
theorem chk_any (a b : Int) (w : World) :
    Calls Try.prog 10 #[.agg #[.int .i64 a, .int .i64 b]] w fun e w' => e = .returned (.int .i64 (chkW a b)) ∧ Below w.heap.size w w' := by
  cases ha : tmB a
  · have e : chkW a b = 8 := by
      have : ¬ (0 ≤ a ∧ a ≤ 1099511627776) := by rw [← tmB_true, ha]; simp
      unfold chkW; rw [if_neg (by rw [wnB_true]; omega)]
    rw [e]; clear e
    go_enter Try.func10, Try.ntmps10
    go_wp2_with (go_at_call 25; refine (tm_any _ _).mono ?_; rintro e w1 ⟨rfl, rfl⟩)
    go_ret
    exact ⟨rfl, below_new _ _⟩
  · cases hb : tmB b
    · have e : chkW a b = 8 := by
        have : ¬ (0 ≤ b ∧ b ≤ 1099511627776) := by rw [← tmB_true, hb]; simp
        unfold chkW; rw [if_neg (by rw [wnB_true]; omega)]
      rw [e]; clear e
      go_enter Try.func10, Try.ntmps10
      go_wp2_with (go_at_call 25; refine (tm_any _ _).mono ?_; rintro e w1 ⟨rfl, rfl⟩)
      go_ret
      exact ⟨rfl, below_new _ _⟩
    · have h1 := tmB_true.1 ha
      have h2 := tmB_true.1 hb
      by_cases hc : a ≤ b
      · have e : chkW a b = 0 := by unfold chkW; rw [if_pos (by rw [wnB_true]; omega)]
        rw [e]; clear e h1 h2
        go_enter Try.func10, Try.ntmps10
        go_wp2_with (go_at_call 25; refine (tm_any _ _).mono ?_; rintro e w1 ⟨rfl, rfl⟩)
        go_ret
        exact ⟨rfl, below_new _ _⟩
      · have e : chkW a b = 8 := by unfold chkW; rw [if_neg (by rw [wnB_true]; omega)]
        rw [e]; clear e h1 h2
        go_enter Try.func10, Try.ntmps10
        go_wp2_with (go_at_call 25; refine (tm_any _ _).mono ?_; rintro e w1 ⟨rfl, rfl⟩)
        go_ret
        exact ⟨rfl, below_new _ _⟩
theorem rchk_any (a b : Int) (w : World) :
    Calls Try.prog 19 #[.agg #[.int .i64 a, .int .i64 b]] w fun e w' => e = .returned (.int .i64 (chkW a b)) ∧ Below w.heap.size w w' := by
  cases ha : tmB a
  · have e : chkW a b = 8 := by
      have : ¬ (0 ≤ a ∧ a ≤ 1099511627776) := by rw [← tmB_true, ha]; simp
      unfold chkW; rw [if_neg (by rw [wnB_true]; omega)]
    rw [e]; clear e
    go_enter Try.func19, Try.ntmps19
    go_wp2_with (go_at_call 29; refine (rtm_any _ _).mono ?_; rintro e w1 ⟨rfl, rfl⟩)
    go_ret
    exact ⟨rfl, below_new _ _⟩
  · cases hb : tmB b
    · have e : chkW a b = 8 := by
        have : ¬ (0 ≤ b ∧ b ≤ 1099511627776) := by rw [← tmB_true, hb]; simp
        unfold chkW; rw [if_neg (by rw [wnB_true]; omega)]
      rw [e]; clear e
      go_enter Try.func19, Try.ntmps19
      go_wp2_with (go_at_call 29; refine (rtm_any _ _).mono ?_; rintro e w1 ⟨rfl, rfl⟩)
      go_ret
      exact ⟨rfl, below_new _ _⟩
    · have h1 := tmB_true.1 ha
      have h2 := tmB_true.1 hb
      by_cases hc : a ≤ b
      · have e : chkW a b = 0 := by unfold chkW; rw [if_pos (by rw [wnB_true]; omega)]
        rw [e]; clear e h1 h2
        go_enter Try.func19, Try.ntmps19
        go_wp2_with (go_at_call 29; refine (rtm_any _ _).mono ?_; rintro e w1 ⟨rfl, rfl⟩)
        go_ret
        exact ⟨rfl, below_new _ _⟩
      · have e : chkW a b = 8 := by unfold chkW; rw [if_neg (by rw [wnB_true]; omega)]
        rw [e]; clear e h1 h2
        go_enter Try.func19, Try.ntmps19
        go_wp2_with (go_at_call 29; refine (rtm_any _ _).mono ?_; rintro e w1 ⟨rfl, rfl⟩)
        go_ret
        exact ⟨rfl, below_new _ _⟩
/-- a time in a window -/
def inB (a b t : Int) : Bool := wnB a b && decide (a ≤ t ∧ t ≤ b)
theorem inB_true {a b t : Int} : inB a b t = true ↔ wnB a b = true ∧ a ≤ t ∧ t ≤ b := by simp [inB]
theorem chk_yes {a b : Int} (w : World) (h : wnB a b = true) :
    Calls Try.prog 10 #[.agg #[.int .i64 a, .int .i64 b]] w fun e w' => e = .returned (.int .i64 0) ∧ Below w.heap.size w w' := by
  have := chk_any a b w
  rwa [show chkW a b = 0 by unfold chkW; rw [if_pos h]] at this
theorem chk_no {a b : Int} (w : World) (h : wnB a b = false) :
    Calls Try.prog 10 #[.agg #[.int .i64 a, .int .i64 b]] w fun e w' => e = .returned (.int .i64 8) ∧ Below w.heap.size w w' := by
  have := chk_any a b w
  rwa [show chkW a b = 8 by unfold chkW; rw [if_neg (by rw [h]; simp)]] at this
theorem rchk_yes {a b : Int} (w : World) (h : wnB a b = true) :
    Calls Try.prog 19 #[.agg #[.int .i64 a, .int .i64 b]] w fun e w' => e = .returned (.int .i64 0) ∧ Below w.heap.size w w' := by
  have := rchk_any a b w
  rwa [show chkW a b = 0 by unfold chkW; rw [if_pos h]] at this
theorem rchk_no {a b : Int} (w : World) (h : wnB a b = false) :
    Calls Try.prog 19 #[.agg #[.int .i64 a, .int .i64 b]] w fun e w' => e = .returned (.int .i64 8) ∧ Below w.heap.size w w' := by
  have := rchk_any a b w
  rwa [show chkW a b = 8 by unfold chkW; rw [if_neg (by rw [h]; simp)]] at this

theorem in_any (a b t : Int) (w : World) :
    Calls Try.prog 11 #[.agg #[.int .i64 a, .int .i64 b], .int .i64 t] w fun e w' => e = .returned (.bool (inB a b t)) ∧ Below w.heap.size w w' := by
  cases h : wnB a b
  · rw [show inB a b t = false by simp [inB, h]]
    have HH := Lib.hid h
    clear h
    go_enter Try.func11, Try.ntmps11
    go_wp2_with (go_at_call 10; refine (chk_no _ HH.out).mono ?_; rintro e w1 ⟨rfl, hb1⟩; obtain ⟨hc1, hf1⟩ := bcell hb1)
    go_ret
    exact ⟨rfl, chain (below_new _ _) hb1⟩
  · by_cases h1 : a ≤ t
    · by_cases h2 : t ≤ b
      · rw [show inB a b t = true from inB_true.2 ⟨h, h1, h2⟩]
        have HH := Lib.hid h
        clear h
        go_enter Try.func11, Try.ntmps11
        go_wp2_with (go_at_call 10; refine (chk_yes _ HH.out).mono ?_; rintro e w1 ⟨rfl, hb1⟩; obtain ⟨hc1, hf1⟩ := bcell hb1)
        go_ret
        exact ⟨rfl, chain (below_new _ _) hb1⟩
      · rw [show inB a b t = false by simp [inB, h2]]
        have HH := Lib.hid h
        clear h
        go_enter Try.func11, Try.ntmps11
        go_wp2_with (go_at_call 10; refine (chk_yes _ HH.out).mono ?_; rintro e w1 ⟨rfl, hb1⟩; obtain ⟨hc1, hf1⟩ := bcell hb1)
        go_ret
        exact ⟨ret_eq (by show Value.bool (decide (t ≤ b)) = _; rw [decide_eq_false (show ¬ t ≤ b by omega)]), chain (below_new _ _) hb1⟩
    · rw [show inB a b t = false by simp [inB, h1]]
      have HH := Lib.hid h
      clear h
      go_enter Try.func11, Try.ntmps11
      go_wp2_with (go_at_call 10; refine (chk_yes _ HH.out).mono ?_; rintro e w1 ⟨rfl, hb1⟩; obtain ⟨hc1, hf1⟩ := bcell hb1)
      go_ret
      exact ⟨rfl, chain (below_new _ _) hb1⟩

theorem rin_any (a b t : Int) (w : World) :
    Calls Try.prog 20 #[.agg #[.int .i64 a, .int .i64 b], .int .i64 t] w fun e w' => e = .returned (.bool (inB a b t)) ∧ Below w.heap.size w w' := by
  cases h : wnB a b
  · rw [show inB a b t = false by simp [inB, h]]
    have HH := Lib.hid h
    clear h
    go_enter Try.func20, Try.ntmps20
    go_wp2_with (go_at_call 19; refine (rchk_no _ HH.out).mono ?_; rintro e w1 ⟨rfl, hb1⟩; obtain ⟨hc1, hf1⟩ := bcell hb1)
    go_ret
    exact ⟨rfl, chain (below_new _ _) hb1⟩
  · by_cases h1 : a ≤ t
    · by_cases h2 : t ≤ b
      · rw [show inB a b t = true from inB_true.2 ⟨h, h1, h2⟩]
        have HH := Lib.hid h
        clear h
        go_enter Try.func20, Try.ntmps20
        go_wp2_with (go_at_call 19; refine (rchk_yes _ HH.out).mono ?_; rintro e w1 ⟨rfl, hb1⟩; obtain ⟨hc1, hf1⟩ := bcell hb1)
        go_ret
        exact ⟨rfl, chain (below_new _ _) hb1⟩
      · rw [show inB a b t = false by simp [inB, h2]]
        have HH := Lib.hid h
        clear h
        go_enter Try.func20, Try.ntmps20
        go_wp2_with (go_at_call 19; refine (rchk_yes _ HH.out).mono ?_; rintro e w1 ⟨rfl, hb1⟩; obtain ⟨hc1, hf1⟩ := bcell hb1)
        go_ret
        exact ⟨ret_eq (by show Value.bool (decide (t ≤ b)) = _; rw [decide_eq_false (show ¬ t ≤ b by omega)]), chain (below_new _ _) hb1⟩
    · rw [show inB a b t = false by simp [inB, h1]]
      have HH := Lib.hid h
      clear h
      go_enter Try.func20, Try.ntmps20
      go_wp2_with (go_at_call 19; refine (rchk_yes _ HH.out).mono ?_; rintro e w1 ⟨rfl, hb1⟩; obtain ⟨hc1, hf1⟩ := bcell hb1)
      go_ret
      exact ⟨rfl, chain (below_new _ _) hb1⟩

theorem cc_any (s d : Int) (w : World) :
    Calls Try.prog 23 #[.agg #[.int .i64 s, .int .i64 d]] w fun e w' => e = .returned (.int .i64 (chkC s d)) ∧ Below w.heap.size w w' := by
  by_cases h0 : -1048576 ≤ s
  · by_cases h1 : s ≤ 1048576
    · by_cases h2 : -1000 ≤ d
      · by_cases h3 : d ≤ 1000
        · rw [show chkC s d = 0 by unfold chkC; rw [if_pos (okB_true.2 ⟨h0, h1, h2, h3⟩)]]
          go_enter Try.func23, Try.ntmps23
          go_wp2
          go_ret
          exact ⟨rfl, below_new _ _⟩
        · rw [show chkC s d = 8 by unfold chkC; rw [if_neg (by rw [okB_true]; omega)]]
          go_enter Try.func23, Try.ntmps23
          go_wp2
          go_ret
          exact ⟨rfl, below_new _ _⟩
      · rw [show chkC s d = 8 by unfold chkC; rw [if_neg (by rw [okB_true]; omega)]]
        go_enter Try.func23, Try.ntmps23
        go_wp2
        go_ret
        exact ⟨rfl, below_new _ _⟩
    · rw [show chkC s d = 8 by unfold chkC; rw [if_neg (by rw [okB_true]; omega)]]
      go_enter Try.func23, Try.ntmps23
      go_wp2
      go_ret
      exact ⟨rfl, below_new _ _⟩
  · rw [show chkC s d = 8 by unfold chkC; rw [if_neg (by rw [okB_true]; omega)]]
    go_enter Try.func23, Try.ntmps23
    go_wp2
    go_ret
    exact ⟨rfl, below_new _ _⟩

theorem rcc_any (s d : Int) (w : World) :
    Calls Try.prog 24 #[.agg #[.int .i64 s, .int .i64 d]] w fun e w' => e = .returned (.int .i64 (chkC s d)) ∧ Below w.heap.size w w' := by
  by_cases h0 : -1048576 ≤ s
  · by_cases h1 : s ≤ 1048576
    · by_cases h2 : -1000 ≤ d
      · by_cases h3 : d ≤ 1000
        · rw [show chkC s d = 0 by unfold chkC; rw [if_pos (okB_true.2 ⟨h0, h1, h2, h3⟩)]]
          go_enter Try.func24, Try.ntmps24
          go_wp2
          go_ret
          exact ⟨rfl, below_new _ _⟩
        · rw [show chkC s d = 8 by unfold chkC; rw [if_neg (by rw [okB_true]; omega)]]
          go_enter Try.func24, Try.ntmps24
          go_wp2
          go_ret
          exact ⟨rfl, below_new _ _⟩
      · rw [show chkC s d = 8 by unfold chkC; rw [if_neg (by rw [okB_true]; omega)]]
        go_enter Try.func24, Try.ntmps24
        go_wp2
        go_ret
        exact ⟨rfl, below_new _ _⟩
    · rw [show chkC s d = 8 by unfold chkC; rw [if_neg (by rw [okB_true]; omega)]]
      go_enter Try.func24, Try.ntmps24
      go_wp2
      go_ret
      exact ⟨rfl, below_new _ _⟩
  · rw [show chkC s d = 8 by unfold chkC; rw [if_neg (by rw [okB_true]; omega)]]
    go_enter Try.func24, Try.ntmps24
    go_wp2
    go_ret
    exact ⟨rfl, below_new _ _⟩

theorem cc_yes {s d : Int} (w : World) (h : okB s d = true) :
    Calls Try.prog 23 #[.agg #[.int .i64 s, .int .i64 d]] w fun e w' => e = .returned (.int .i64 0) ∧ Below w.heap.size w w' := by
  have := cc_any s d w
  rwa [show chkC s d = 0 by unfold chkC; rw [if_pos h]] at this
theorem cc_no {s d : Int} (w : World) (h : okB s d = false) :
    Calls Try.prog 23 #[.agg #[.int .i64 s, .int .i64 d]] w fun e w' => e = .returned (.int .i64 8) ∧ Below w.heap.size w w' := by
  have := cc_any s d w
  rwa [show chkC s d = 8 by unfold chkC; rw [if_neg (by rw [h]; simp)]] at this

theorem rcc_yes {s d : Int} (w : World) (h : okB s d = true) :
    Calls Try.prog 24 #[.agg #[.int .i64 s, .int .i64 d]] w fun e w' => e = .returned (.int .i64 0) ∧ Below w.heap.size w w' := by
  have := rcc_any s d w
  rwa [show chkC s d = 0 by unfold chkC; rw [if_pos h]] at this
theorem rcc_no {s d : Int} (w : World) (h : okB s d = false) :
    Calls Try.prog 24 #[.agg #[.int .i64 s, .int .i64 d]] w fun e w' => e = .returned (.int .i64 8) ∧ Below w.heap.size w w' := by
  have := rcc_any s d w
  rwa [show chkC s d = 8 by unfold chkC; rw [if_neg (by rw [h]; simp)]] at this
end Go.Proofs.Ytopdblkgchcdnaa
