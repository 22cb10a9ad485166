/-
  THE WALKS over package clock and its reference: rates, what is shown, reading.
-/
import Derived.Test.YtopdblkgchcdnaaClkA
namespace Go.Proofs.Ytopdblkgchcdnaa
open Go.RowKit Clk
set_option linter.unusedVariables false
set_option linter.unusedSimpArgs false
theorem rate_any (s d : Int) (w : World) (h : okB s d = true) :
    Calls Try.prog 32 #[.agg #[.int .i64 s, .int .i64 d]] w fun e w' => e = .returned (.int .i64 (1000000 + d)) ∧ Below w.heap.size w w' := by
  obtain ⟨h0, h1, h2, h3⟩ := okB_true.1 h
  clear h
  go_enter Try.func32, Try.ntmps32
  go_wp2
  go_ret
  exact ⟨rfl, below_new _ _⟩
set_option maxHeartbeats 400000 in
theorem show_any (s d t : Int) (w : World) (h : okB s d = true) (h0 : 0 ≤ t) (h1 : t ≤ 1099511627777) :
    Calls Try.prog 26 #[.agg #[.int .i64 s, .int .i64 d], .int .i64 t] w fun e w' => e = .returned (.int .i64 (sh s d t)) ∧ Below w.heap.size w w' := by
  obtain ⟨s0, s1, d0, d1⟩ := okB_true.1 h
  have HH := Lib.hid h
  obtain ⟨p0, p1⟩ := prod_bd h0 h1 d0 d1
  have q0 : 0 ≤ t * (1000000 + d) := by omega
  have q1 : t * (1000000 + d) ≤ 1200000000000000000 := by omega
  have e1 : IntKind.i64.wrap (t * (1000000 + d)) = t * (1000000 + d) := IntWalk.i64_in _ (by omega)
  clear h p0 p1
  go_enter Try.func26, Try.ntmps26
  go_wp2_with fail
  obtain ⟨N, hN⟩ : ∃ N, w.heap.size = N := ⟨_, rfl⟩
  generalize hv : World.alloc _ _ = v
  have T : RowKit.Hid (Two N v s d) := Lib.hid (by rw [← hv, ← hN]; exact Two.new w s d _)
  have HB := Lib.hid (show Below w.heap.size w v by rw [← hv]; exact below_new _ _)
  clear hv
  try rw [hN]
  clear hN
  obtain ⟨a0, a1, _, _⟩ := T.out
  have hz := T.out.lt
  go_region_held3 (fun z => z.cell? ⟨N, 0, none⟩ = some (.int .i64 s) ∧ z.cell? ⟨N, 1, none⟩ = some (.int .i64 d))
    (first | exact ⟨a0, a1⟩ | exact ⟨(hc1 _ _ hz).trans a0, (hc1 _ _ hz).trans a1⟩)
    ((go_at_call 32; refine (rate_any _ _ _ HH.out).mono ?_; rintro e w1 ⟨rfl, hb1⟩; obtain ⟨hc1, hf1⟩ := bcellD hb1))
  go_wp2_with fail
  go_ret
  exact ⟨ret_eq (by show Value.int .i64 (IntKind.i64.wrap (s + IntKind.i64.wrap ((t * (1000000 + d)).tdiv 1000000))) = _; rw [Int.tdiv_eq_ediv_of_nonneg q0, IntWalk.i64_in (t * (1000000 + d) / 1000000) (by clear e1; omega), IntWalk.i64_in _ (by clear e1; omega)]; rfl), chain HB.out (((Below.refl v.heap.size v).drew).trans hb1)⟩
theorem keepB {v z w : World} {N : Nat} {a b : Value} (h : Below v.heap.size v z ∧ z.cell? ⟨N, 0, none⟩ = some a ∧ z.cell? ⟨N, 1, none⟩ = some b) (hb : Below z.heap.size z w) : Below v.heap.size v w ∧ w.cell? ⟨N, 0, none⟩ = some a ∧ w.cell? ⟨N, 1, none⟩ = some b :=
  ⟨chain h.1 hb, (hb.cell (p := ⟨N, 0, none⟩) (World.block_lt_of_cell? _ _ h.2.1)).trans h.2.1, (hb.cell (p := ⟨N, 1, none⟩) (World.block_lt_of_cell? _ _ h.2.2)).trans h.2.2⟩
set_option maxHeartbeats 400000 in
theorem since_any (s d n : Int) (w : World) (h : okB s d = true) (h0 : s ≤ n) (h1 : n ≤ s + 1200000000000) :
    Calls Try.prog 27 #[.agg #[.int .i64 s, .int .i64 d], .int .i64 n] w fun e w' => e = .returned (.int .i64 (sc s d n)) ∧ Below w.heap.size w w' := by
  obtain ⟨s0, s1, d0, d1⟩ := okB_true.1 h
  have HH := Lib.hid h
  have e0 : IntKind.i64.wrap (n - s) = n - s := IntWalk.i64_in _ (by omega)
  have e1 : IntKind.i64.wrap ((n - s) * 1000000) = (n - s) * 1000000 := IntWalk.i64_in _ (by omega)
  have e2 : IntKind.i64.wrap ((n - s) * 1000000 + (1000000 + d)) = (n - s) * 1000000 + (1000000 + d) := IntWalk.i64_in _ (by omega)
  have e3 : IntKind.i64.wrap ((n - s) * 1000000 + (1000000 + d) - 1) = (n - s) * 1000000 + (1000000 + d) - 1 := IntWalk.i64_in _ (by omega)
  have z0 : ¬ 1000000 + d = 0 := by omega
  have z1 : ((1000000 + d : Int) == 0) = false := by simpa using z0
  clear h
  go_enter Try.func27, Try.ntmps27
  go_wp2_with fail
  obtain ⟨N, hN⟩ : ∃ N, w.heap.size = N := ⟨_, rfl⟩
  generalize hv : World.alloc _ _ = v
  have T : RowKit.Hid (Two N v s d) := Lib.hid (by rw [← hv, ← hN]; exact Two.new w s d _)
  have HB := Lib.hid (show Below w.heap.size w v by rw [← hv]; exact below_new _ _)
  clear hv
  try rw [hN]
  clear hN
  obtain ⟨a0, a1, _, _⟩ := T.out
  have hz := T.out.lt
  go_region_held3 (fun z => Below v.heap.size v z ∧ z.cell? ⟨N, 0, none⟩ = some (.int .i64 s) ∧ z.cell? ⟨N, 1, none⟩ = some (.int .i64 d))
    (first | exact ⟨(Below.refl _ _).drew, a0, a1⟩ | exact keepB ⟨(Below.refl _ _).drew, a0, a1⟩ hb1 | exact keepB (by assumption) hb1)
    ((go_at_call 32; refine (rate_any _ _ _ HH.out).mono ?_; rintro e w1 ⟨rfl, hb1⟩))
  go_wp2_with fail
  go_ret
  have hb2 : Below v.heap.size v _ := And.left (by assumption)
  refine ⟨ret_eq (?_ : Value.int .i64 (IntKind.i64.wrap (((n - s) * 1000000 + (1000000 + d) - 1).tdiv (1000000 + d))) = _), chain HB.out hb2⟩
  clear e0 e1 e2 e3
  have q0 : 0 ≤ (n - s) * 1000000 + (1000000 + d) - 1 := by omega
  have q1 := Int.ediv_le_self (1000000 + d) q0
  have q2 := Int.ediv_nonneg q0 (show 0 ≤ 1000000 + d by omega)
  rw [Int.tdiv_eq_ediv_of_nonneg q0, IntWalk.i64_in _ (by omega)]
  rfl
/-- the reference's way to what is shown -/
theorem tdiv_floor (p : Int) : (if p.tdiv 1000000 * 1000000 > p then p.tdiv 1000000 - 1 else p.tdiv 1000000) = p / 1000000 := by
  by_cases h : 0 ≤ p
  · rw [Int.tdiv_eq_ediv_of_nonneg h, if_neg (by omega)]
  · have e : p.tdiv 1000000 = -(-p / 1000000) := by
      rw [← Int.tdiv_eq_ediv_of_nonneg (by omega : 0 ≤ -p), Int.neg_tdiv, Int.neg_neg]
    rw [e]
    by_cases h2 : -(-p / 1000000) * 1000000 > p
    · rw [if_pos h2]; omega
    · rw [if_neg h2]; omega
theorem tdiv_bd (p : Int) (h0 : -1200000000000000 ≤ p) (h1 : p ≤ 1200000000000000) : -1200000001 ≤ p.tdiv 1000000 ∧ p.tdiv 1000000 ≤ 1200000001 := by
  have := tdiv_floor p
  by_cases h : p.tdiv 1000000 * 1000000 > p
  · rw [if_pos h] at this; omega
  · rw [if_neg h] at this; omega
set_option maxHeartbeats 400000 in
theorem shown_any (s d t : Int) (w : World) (h : okB s d = true) (h0 : 0 ≤ t) (h1 : t ≤ 1099511627777) :
    Calls Try.prog 30 #[.agg #[.int .i64 s, .int .i64 d], .int .i64 t] w fun e w' => e = .returned (.int .i64 (sh s d t)) ∧ Below w.heap.size w w' := by
  obtain ⟨s0, s1, d0, d1⟩ := okB_true.1 h
  obtain ⟨p0, p1⟩ := drift_bd h0 d0 d1
  have hfl := tdiv_floor (t * d)
  obtain ⟨q0, q1⟩ := tdiv_bd (t * d) (by omega) (by omega)
  rw [sh_ref]
  rw [← hfl]
  have b0 : -1200000000000000 ≤ t * d := by omega
  have b1 : t * d ≤ 1200000000000000 := by omega
  clear h hfl p0 p1
  by_cases hc : (t * d).tdiv 1000000 * 1000000 > t * d
  · rw [if_pos hc]
    go_enter Try.func30, Try.ntmps30
    go_wp2_with fail
    go_ret
    exact ⟨rfl, below_new _ _⟩
  · rw [if_neg hc]
    go_enter Try.func30, Try.ntmps30
    go_wp2_with fail
    go_ret
    exact ⟨rfl, below_new _ _⟩
end Go.Proofs.Ytopdblkgchcdnaa
