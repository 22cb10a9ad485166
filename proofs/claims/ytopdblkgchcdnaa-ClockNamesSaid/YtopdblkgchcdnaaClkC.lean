/-
  THE WALKS over package clock and its reference: Read, Both.
-/
import Derived.Test.YtopdblkgchcdnaaClkB
namespace Go.Proofs.Ytopdblkgchcdnaa
open Go.RowKit Clk
set_option linter.unusedVariables false
set_option linter.unusedSimpArgs false
/-- what Read answers -/
def rdV (s d t : Int) : Int := if okB s d = true ∧ tmB t = true then sh s d t else 0
def rdE (s d t : Int) : Int := if okB s d = true then (if tmB t = true then 0 else 2) else 8
set_option maxHeartbeats 400000 in
theorem read_any (s d t : Int) (w : World) :
    Calls Try.prog 13 #[.agg #[.int .i64 s, .int .i64 d], .int .i64 t] w fun e w' => e = .returned (.tuple #[.int .i64 (rdV s d t), .int .i64 (rdE s d t)]) ∧ Below w.heap.size w w' := by
  cases h : okB s d
  · rw [show rdV s d t = 0 by simp [rdV, h], show rdE s d t = 8 by simp [rdE, h]]
    have HH := Lib.hid h
    clear h
    go_enter Try.func13, Try.ntmps13
    go_wp2_with (go_at_call 23; refine (cc_no _ HH.out).mono ?_; rintro e w1 ⟨rfl, hb1⟩; obtain ⟨hc1, hf1⟩ := bcell hb1)
    go_ret2
    exact ⟨rfl, chain (below_new _ _) hb1⟩
  · cases ht : tmB t
    · rw [show rdV s d t = 0 by simp [rdV, ht], show rdE s d t = 2 by simp [rdE, h, ht]]
      have HH := Lib.hid h
      clear h
      go_enter Try.func13, Try.ntmps13
      go_wp2_with (first | (go_at_call 23; refine (cc_yes _ HH.out).mono ?_; rintro e w1 ⟨rfl, hb1⟩; obtain ⟨hc1, hf1⟩ := bcell hb1) | (go_at_call 25; refine (tm_any _ _).mono ?_; rintro e w2 ⟨rfl, rfl⟩))
      go_ret2
      exact ⟨rfl, chain (below_new _ _) hb1⟩
    · rw [show rdV s d t = sh s d t by simp [rdV, h, ht], show rdE s d t = 0 by simp [rdE, h, ht]]
      have HH := Lib.hid h
      have HT := Lib.hid (tmB_true.1 ht)
      clear h
      go_enter Try.func13, Try.ntmps13
      go_wp2_with (first | (go_at_call 23; refine (cc_yes _ HH.out).mono ?_; rintro e w1 ⟨rfl, hb1⟩; obtain ⟨hc1, hf1⟩ := bcell hb1) | (go_at_call 25; refine (tm_any _ _).mono ?_; rintro e w2 ⟨rfl, rfl⟩) | (go_at_call 26; refine (show_any _ _ _ _ HH.out HT.out.1 (by have := HT.out.2; omega)).mono ?_; rintro e w3 ⟨rfl, hb3⟩))
      go_ret2
      exact ⟨rfl, chain (chain (below_new _ _) hb1) hb3⟩
set_option maxHeartbeats 400000 in
theorem rread_any (s d t : Int) (w : World) :
    Calls Try.prog 21 #[.agg #[.int .i64 s, .int .i64 d], .int .i64 t] w fun e w' => e = .returned (.tuple #[.int .i64 (rdV s d t), .int .i64 (rdE s d t)]) ∧ Below w.heap.size w w' := by
  cases h : okB s d
  · rw [show rdV s d t = 0 by simp [rdV, h], show rdE s d t = 8 by simp [rdE, h]]
    have HH := Lib.hid h
    clear h
    go_enter Try.func21, Try.ntmps21
    go_wp2_with (go_at_call 24; refine (rcc_no _ HH.out).mono ?_; rintro e w1 ⟨rfl, hb1⟩; obtain ⟨hc1, hf1⟩ := bcell hb1)
    go_ret2
    exact ⟨rfl, chain (below_new _ _) hb1⟩
  · cases ht : tmB t
    · rw [show rdV s d t = 0 by simp [rdV, ht], show rdE s d t = 2 by simp [rdE, h, ht]]
      have HH := Lib.hid h
      clear h
      go_enter Try.func21, Try.ntmps21
      go_wp2_with (first | (go_at_call 24; refine (rcc_yes _ HH.out).mono ?_; rintro e w1 ⟨rfl, hb1⟩; obtain ⟨hc1, hf1⟩ := bcell hb1) | (go_at_call 29; refine (rtm_any _ _).mono ?_; rintro e w2 ⟨rfl, rfl⟩))
      go_ret2
      exact ⟨rfl, chain (below_new _ _) hb1⟩
    · rw [show rdV s d t = sh s d t by simp [rdV, h, ht], show rdE s d t = 0 by simp [rdE, h, ht]]
      have HH := Lib.hid h
      have HT := Lib.hid (tmB_true.1 ht)
      clear h
      go_enter Try.func21, Try.ntmps21
      go_wp2_with (first | (go_at_call 24; refine (rcc_yes _ HH.out).mono ?_; rintro e w1 ⟨rfl, hb1⟩; obtain ⟨hc1, hf1⟩ := bcell hb1) | (go_at_call 29; refine (rtm_any _ _).mono ?_; rintro e w2 ⟨rfl, rfl⟩) | (go_at_call 30; refine (shown_any _ _ _ _ HH.out HT.out.1 (by have := HT.out.2; omega)).mono ?_; rintro e w3 ⟨rfl, hb3⟩))
      go_ret2
      exact ⟨rfl, chain (chain (below_new _ _) hb1) hb3⟩
end Go.Proofs.Ytopdblkgchcdnaa
