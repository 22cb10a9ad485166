/-
  THE WALKS over package span: the next address, the one before, checks.
-/
import Derived.Test.YtjngfieggacpiaaGreatDoorSpanM
import Derived.Test.YtjngfieggacpiaaGreatDoorCells
import Derived.Shelf.Spec.BitsCarry
namespace Go.Proofs.YtjngfieggacpiaaGreatDoor
open Go.RowKit Adr
set_option linter.unusedVariables false
set_option linter.unusedSimpArgs false
theorem add_run (x y c : Nat) (hc : c ≤ 1) (w : World) : (callFunc 100 #[.int .u64 (x : Int), .int .u64 (y : Int), .int .u64 (c : Int)]).run Tryz.prog w =
    .ok (.value (.tuple #[.int .u64 (((x + y + c) % 18446744073709551616 : Nat) : Int), .int .u64 (((x + y + c) / 18446744073709551616 : Nat) : Int)])) w := by
  rw [run_callFunc_extern Tryz.func100 (by kernel_rfl) (by kernel_rfl) (by kernel_rfl) (e := add64Entry) (by kernel_rfl), run_add64 x y c (by omega) (by omega) (by omega) (by omega)]
  simp only [Result.andThen]
  congr 5 <;> omega
/-- the carry into the first word -/
def cy (N : Nat) : Int := ((N % 18446744073709551616 + 1) / 18446744073709551616 : Nat)
theorem add_lo (N : Nat) (w : World) : (callFunc 100 #[.int .u64 (aL N), .int .u64 1, .int .u64 0]).run Tryz.prog w = .ok (.value (.tuple #[.int .u64 (aL (N + 1)), .int .u64 (cy N)])) w := by
  have h := add_run (N % 18446744073709551616) 1 0 (by omega) w
  rw [show (N % 18446744073709551616 + 1 + 0) % 18446744073709551616 = (N + 1) % 18446744073709551616 by omega] at h
  exact h
theorem add_hi (N : Nat) (hN : N + 1 < 2 ^ 128) (w : World) : (callFunc 100 #[.int .u64 (aH N), .int .u64 0, .int .u64 (cy N)]).run Tryz.prog w = .ok (.value (.tuple #[.int .u64 (aH (N + 1)), .int .u64 0])) w := by
  have h2 : (2 : Nat) ^ 128 = 340282366920938463463374607431768211456 := by decide
  have h := add_run (N / 18446744073709551616) 0 ((N % 18446744073709551616 + 1) / 18446744073709551616) (by omega) w
  rw [show (N / 18446744073709551616 + 0 + (N % 18446744073709551616 + 1) / 18446744073709551616) % 18446744073709551616 = (N + 1) / 18446744073709551616 by omega,
    show (N / 18446744073709551616 + 0 + (N % 18446744073709551616 + 1) / 18446744073709551616) / 18446744073709551616 = 0 by omega] at h
  exact h
theorem add_over (N : Nat) (hN : N + 1 = 2 ^ 128) (w : World) : (callFunc 100 #[.int .u64 (aH N), .int .u64 0, .int .u64 (cy N)]).run Tryz.prog w = .ok (.value (.tuple #[.int .u64 0, .int .u64 1])) w := by
  have h2 : (2 : Nat) ^ 128 = 340282366920938463463374607431768211456 := by decide
  have h := add_run (N / 18446744073709551616) 0 ((N % 18446744073709551616 + 1) / 18446744073709551616) (by omega) w
  rw [show (N / 18446744073709551616 + 0 + (N % 18446744073709551616 + 1) / 18446744073709551616) % 18446744073709551616 = 0 by omega,
    show (N / 18446744073709551616 + 0 + (N % 18446744073709551616 + 1) / 18446744073709551616) / 18446744073709551616 = 1 by omega] at h
  exact h
/-- is N an address of the family? -/
def isA (f : Int) (N : Nat) : Bool := if f = 4 then decide (N < 4294967296) else f == 6
theorem ca_num (f : Int) (N : Nat) : ca f (aH N) (aL N) = isA f N := by
  unfold ca isA
  split
  · rw [Bool.eq_iff_iff]
    simp only [Bool.and_eq_true, beq_iff_eq, decide_eq_true_eq]
    unfold aH aL
    omega
  · rfl
theorem isA_any (f : Int) (N : Nat) (w : World) :
    Calls Tryz.prog 27 #[.int .u8 f, .agg #[.int .u64 (aH N), .int .u64 (aL N)]] w fun e w' => e = .returned (.bool (isA f N)) ∧ Below w.heap.size w w' := by
  have h := ca_any f (aH N) (aL N) w (aL_u N).1
  rw [ca_num] at h
  exact h
abbrev adr (N : Nat) : Value := .agg #[.int .u64 (aH N), .int .u64 (aL N)]
def nextOk (f : Int) (N : Nat) : Bool := isA f N && decide (N + 1 < 2 ^ 128) && isA f (N + 1)
set_option maxRecDepth 100000 in
set_option maxHeartbeats 1000000 in
theorem next_yes (f : Int) (N : Nat) (w : World) (h : nextOk f N = true) :
    Calls Tryz.prog 81 #[.int .u8 f, .agg #[.int .u64 (aH N), .int .u64 (aL N)]] w fun e w' => e = .returned (.tuple #[adr (N + 1), .bool true]) ∧ Below w.heap.size w w' := by
  unfold nextOk at h
  simp only [Bool.and_eq_true, decide_eq_true_eq] at h
  obtain ⟨⟨h1, h2⟩, h3⟩ := h
  have a1 := add_lo N
  have a2 := add_hi N h2
  have C1 := Lib.hid (fun w => isA_any f N w)
  have C2 := Lib.hid (fun w => isA_any f (N + 1) w)
  rw [h1] at C1
  rw [h3] at C2
  clear h1 h2 h3
  obtain ⟨x, hx⟩ : ∃ x, aL (N + 1) = x := ⟨_, rfl⟩
  obtain ⟨y, hy⟩ : ∃ y, aH (N + 1) = y := ⟨_, rfl⟩
  show Calls _ _ _ _ fun e w' => e = .returned (.tuple #[.agg #[.int .u64 (aH (N + 1)), .int .u64 (aL (N + 1))], .bool true]) ∧ _
  rw [hx] at a1 C2 ⊢
  rw [hy] at a2 C2 ⊢
  clear hx hy
  go_enter Tryz.func81, Tryz.ntmps81
  go_wp2_with fail
  generalize hv : World.alloc (World.alloc (World.alloc _ _) _) _ = v
  have TA : RowKit.Hid (Ad2 w.heap.size v (aH N) (aL N)) := Lib.hid (by rw [← hv]; exact ((Ad2.new w _ _ _).on (below_new _ _)).on (below_new _ _))
  have TR : RowKit.Hid (Ad2 (w.heap.size + 1) v 0 0) := Lib.hid (by
    rw [← hv]
    have := (Ad2.new (w.alloc (.cells #[.int .u64 (aH N), .int .u64 (aL N)] 24)) 0 0 24).on (below_new _ (.cells #[.int .u64 y, .int .u64 x] 24))
    simpa using this)
  have TB : RowKit.Hid (Ad2 (w.heap.size + 1 + 1) v y x) := Lib.hid (by
    rw [← hv]
    have := Ad2.new ((w.alloc (.cells #[.int .u64 (aH N), .int .u64 (aL N)] 24)).alloc (.cells #[.int .u64 0, .int .u64 0] 24)) y x 24
    simpa using this)
  have HB := Lib.hid (show Below w.heap.size w v by rw [← hv]; exact (((Below.refl _ _).alloc (Nat.le_refl _) _).alloc (by simp) _).alloc (by simp; omega) _)
  clear hv
  refine (C1.out v).mono ?_
  rintro e w1 ⟨rfl, hb1⟩
  have TR1 := Lib.hid (TR.out.on hb1)
  have TB1 := Lib.hid (TB.out.on hb1)
  have HB1 := Lib.hid (HB.out.trans (hb1.mono HB.out.size))
  clear hb1 HB TR TB TA
  obtain ⟨b0, b1, _, _⟩ := TB1.out
  go_wp2_with fail
  refine (C2.out w1).mono ?_
  rintro e w2 ⟨rfl, hb2⟩
  have TR2 := Lib.hid (TR1.out.on hb2)
  have TB2 := Lib.hid (TB1.out.on hb2)
  have HB2 := Lib.hid (HB1.out.trans (hb2.mono HB1.out.size))
  clear hb2 HB1 TR1 TB1 b0 b1
  obtain ⟨b0, b1, _, _⟩ := TB2.out
  obtain ⟨r0, r1, g0, g1⟩ := TR2.out
  go_wp2_with fail
  have A := two_set0 (v0 := .int .u64 y) (v1 := .int .u64 x) r0 r1
  refine bodyPost_ret (v := .tuple #[.agg #[.int .u64 y, .int .u64 x], .bool true]) (by simp [results, Tryz.results81, go_sem, A.1, A.2]) rfl ⟨rfl, (HB2.out.setCell (by simp) _).setCell (by simp) _⟩
set_option maxRecDepth 100000 in
set_option maxHeartbeats 1000000 in
theorem next_over (f : Int) (N : Nat) (w : World) (h : N + 1 = 2 ^ 128) :
    Calls Tryz.prog 81 #[.int .u8 f, .agg #[.int .u64 (aH N), .int .u64 (aL N)]] w fun e w' => e = .returned (.tuple #[.agg #[.int .u64 0, .int .u64 0], .bool false]) ∧ Below w.heap.size w w' := by
  have a1 := add_lo N
  have a2 := add_over N h
  clear h
  obtain ⟨x, hx⟩ : ∃ x, aL (N + 1) = x := ⟨_, rfl⟩
  rw [hx] at a1
  clear hx
  go_enter Tryz.func81, Tryz.ntmps81
  go_wp2_with fail
  refine bodyPost_ret (v := .tuple #[.agg #[.int .u64 0, .int .u64 0], .bool false]) (by simp [results, Tryz.results81, go_sem]) rfl ⟨rfl, ?_⟩
  exact (((Below.refl _ _).alloc (Nat.le_refl _) _).alloc (by simp) _).alloc (by simp; omega) _
set_option maxRecDepth 100000 in
set_option maxHeartbeats 1000000 in
theorem next_no1 (f : Int) (N : Nat) (w : World) (h2 : N + 1 < 2 ^ 128) (h : isA f N = false) :
    Calls Tryz.prog 81 #[.int .u8 f, .agg #[.int .u64 (aH N), .int .u64 (aL N)]] w fun e w' => e = .returned (.tuple #[.agg #[.int .u64 0, .int .u64 0], .bool false]) ∧ Below w.heap.size w w' := by
  have a1 := add_lo N
  have a2 := add_hi N h2
  have C1 := Lib.hid (fun w => isA_any f N w)
  rw [h] at C1
  clear h h2
  obtain ⟨x, hx⟩ : ∃ x, aL (N + 1) = x := ⟨_, rfl⟩
  obtain ⟨y, hy⟩ : ∃ y, aH (N + 1) = y := ⟨_, rfl⟩
  rw [hx] at a1
  rw [hy] at a2
  clear hx hy
  go_enter Tryz.func81, Tryz.ntmps81
  go_wp2_with fail
  generalize hv : World.alloc (World.alloc (World.alloc _ _) _) _ = v
  have TR : RowKit.Hid (Ad2 (w.heap.size + 1) v 0 0) := Lib.hid (by
    rw [← hv]
    have := (Ad2.new (w.alloc (.cells #[.int .u64 (aH N), .int .u64 (aL N)] 24)) 0 0 24).on (below_new _ (.cells #[.int .u64 y, .int .u64 x] 24))
    simpa using this)
  have HB := Lib.hid (show Below w.heap.size w v by rw [← hv]; exact (((Below.refl _ _).alloc (Nat.le_refl _) _).alloc (by simp) _).alloc (by simp; omega) _)
  clear hv
  refine (C1.out v).mono ?_
  rintro e w1 ⟨rfl, hb1⟩
  have TR1 := Lib.hid (TR.out.on hb1)
  have HB1 := Lib.hid (HB.out.trans (hb1.mono HB.out.size))
  clear hb1 HB TR
  obtain ⟨r0, r1, g0, g1⟩ := TR1.out
  go_wp2_with fail
  have A := two_set0 (v0 := .int .u64 0) (v1 := .int .u64 0) r0 r1
  refine bodyPost_ret (v := .tuple #[.agg #[.int .u64 0, .int .u64 0], .bool false]) (by simp [results, Tryz.results81, go_sem, A.1, A.2]) rfl ⟨rfl, (HB1.out.setCell (by simp) _).setCell (by simp) _⟩
set_option maxRecDepth 100000 in
set_option maxHeartbeats 1000000 in
theorem next_no2 (f : Int) (N : Nat) (w : World) (h2 : N + 1 < 2 ^ 128) (h : isA f N = true) (h3 : isA f (N + 1) = false) :
    Calls Tryz.prog 81 #[.int .u8 f, .agg #[.int .u64 (aH N), .int .u64 (aL N)]] w fun e w' => e = .returned (.tuple #[.agg #[.int .u64 0, .int .u64 0], .bool false]) ∧ Below w.heap.size w w' := by
  have a1 := add_lo N
  have a2 := add_hi N h2
  have C1 := Lib.hid (fun w => isA_any f N w)
  have C2 := Lib.hid (fun w => isA_any f (N + 1) w)
  rw [h] at C1
  rw [h3] at C2
  clear h h2 h3
  obtain ⟨x, hx⟩ : ∃ x, aL (N + 1) = x := ⟨_, rfl⟩
  obtain ⟨y, hy⟩ : ∃ y, aH (N + 1) = y := ⟨_, rfl⟩
  rw [hx] at a1 C2
  rw [hy] at a2 C2
  clear hx hy
  go_enter Tryz.func81, Tryz.ntmps81
  go_wp2_with fail
  generalize hv : World.alloc (World.alloc (World.alloc _ _) _) _ = v
  have TR : RowKit.Hid (Ad2 (w.heap.size + 1) v 0 0) := Lib.hid (by
    rw [← hv]
    have := (Ad2.new (w.alloc (.cells #[.int .u64 (aH N), .int .u64 (aL N)] 24)) 0 0 24).on (below_new _ (.cells #[.int .u64 y, .int .u64 x] 24))
    simpa using this)
  have TB : RowKit.Hid (Ad2 (w.heap.size + 1 + 1) v y x) := Lib.hid (by
    rw [← hv]
    have := Ad2.new ((w.alloc (.cells #[.int .u64 (aH N), .int .u64 (aL N)] 24)).alloc (.cells #[.int .u64 0, .int .u64 0] 24)) y x 24
    simpa using this)
  have HB := Lib.hid (show Below w.heap.size w v by rw [← hv]; exact (((Below.refl _ _).alloc (Nat.le_refl _) _).alloc (by simp) _).alloc (by simp; omega) _)
  clear hv
  refine (C1.out v).mono ?_
  rintro e w1 ⟨rfl, hb1⟩
  have TR1 := Lib.hid (TR.out.on hb1)
  have TB1 := Lib.hid (TB.out.on hb1)
  have HB1 := Lib.hid (HB.out.trans (hb1.mono HB.out.size))
  clear hb1 HB TR TB
  obtain ⟨b0, b1, _, _⟩ := TB1.out
  go_wp2_with fail
  refine (C2.out w1).mono ?_
  rintro e w2 ⟨rfl, hb2⟩
  have TR2 := Lib.hid (TR1.out.on hb2)
  have HB2 := Lib.hid (HB1.out.trans (hb2.mono HB1.out.size))
  clear hb2 HB1 TR1 TB1 b0 b1
  obtain ⟨r0, r1, g0, g1⟩ := TR2.out
  go_wp2_with fail
  have A := two_set0 (v0 := .int .u64 0) (v1 := .int .u64 0) r0 r1
  refine bodyPost_ret (v := .tuple #[.agg #[.int .u64 0, .int .u64 0], .bool false]) (by simp [results, Tryz.results81, go_sem, A.1, A.2]) rfl ⟨rfl, (HB2.out.setCell (by simp) _).setCell (by simp) _⟩
theorem next_no (f : Int) (N : Nat) (w : World) (hN : N < 2 ^ 128) (h : nextOk f N = false) :
    Calls Tryz.prog 81 #[.int .u8 f, .agg #[.int .u64 (aH N), .int .u64 (aL N)]] w fun e w' => e = .returned (.tuple #[.agg #[.int .u64 0, .int .u64 0], .bool false]) ∧ Below w.heap.size w w' := by
  by_cases h1 : N + 1 = 2 ^ 128
  · exact next_over f N w h1
  · have h2 : N + 1 < 2 ^ 128 := by omega
    cases h3 : isA f N
    · exact next_no1 f N w h2 h3
    · cases h4 : isA f (N + 1)
      · exact next_no2 f N w h2 h3 h4
      · unfold nextOk at h
        rw [h3, h4] at h
        simp at h
        omega
/-! the one before -/
end Go.Proofs.YtjngfieggacpiaaGreatDoor
