/-
  THE WALKS over package span: widths, words of ones, last addresses.
-/
import Derived.Test.YtjngfieggacpiaaGreatDoorNumWalkD
import Derived.Test.YtjngfieggacpiaaGreatDoorNumMathC
import Derived.Test.YtjngfieggacpiaaGreatDoorNumCmp
import Derived.StillTailTactics
import Derived.Laws.Shifts
namespace Go.Proofs.YtjngfieggacpiaaGreatDoor
open Go.RowKit Adr
set_option linter.unusedVariables false
def swid (f : Int) : Int := if f = 4 then 32 else 128
theorem swid_any (f : Int) (w : World) : Calls Tryz.prog 75 #[.int .u8 f] w fun e w' => e = .returned (.int .i64 (swid f)) ∧ w = w' := by
  unfold swid
  by_cases h : f = 4
  · subst h
    go_enter Tryz.func75, Tryz.ntmps75
    go_wp2
    go_ret
    exact ⟨rfl, rfl⟩
  · have hb : (f == 4) = false := beq_eq_false_iff_ne.2 h
    rw [if_neg h]
    go_enter Tryz.func75, Tryz.ntmps75
    go_wp2
    go_ret
    exact ⟨rfl, rfl⟩
/-- a word whose last n bits are 1 -/
def onesV (n : Int) : Int := if n ≤ 0 then 0 else if 64 ≤ n then 18446744073709551615 else 2 ^ n.toNat - 1
theorem wrap_u (x : Int) (h : 0 ≤ x) (h2 : x < 18446744073709551616) : IntKind.u64.wrap x = x := wrap_u64 ⟨h, h2⟩
theorem ones_lo (n : Int) (w : World) (h : n ≤ 0) : Calls Tryz.prog 76 #[.int .i64 n] w fun e w' => e = .returned (.int .u64 0) ∧ w = w' := by
  go_enter Tryz.func76, Tryz.ntmps76
  go_wp2
  · go_ret
    exact ⟨rfl, rfl⟩
  · obtain rfl : n = 0 := by omega
    go_ret
    exact ⟨rfl, rfl⟩
theorem ones_mid (n : Int) (w : World) (h : 0 < n) (h2 : n < 64) : Calls Tryz.prog 76 #[.int .i64 n] w fun e w' => e = .returned (.int .u64 (2 ^ n.toNat - 1)) ∧ w = w' := by
  have hp : (1 : Int) ≤ 2 ^ n.toNat := by
    have : (0 : Int) < 2 ^ n.toNat := Int.pow_pos (by omega)
    omega
  have hq : (2 : Int) ^ n.toNat < 18446744073709551616 := by
    have h3 : (2 : Nat) ^ n.toNat ≤ 2 ^ 63 := Nat.pow_le_pow_right (by omega) (by omega)
    have h4 : (2 : Nat) ^ 63 = 9223372036854775808 := by decide
    have h5 : ((2 : Int) ^ n.toNat) = ((2 ^ n.toNat : Nat) : Int) := by simp
    omega
  have HP := Lib.hid hp
  have HQ := Lib.hid hq
  clear hp hq
  go_enter Tryz.func76, Tryz.ntmps76
  go_wp2
  go_ret
  refine ⟨?_, rfl⟩
  show Ending.returned (.int .u64 (IntKind.u64.wrap (IntKind.u64.wrap (2 ^ n.toNat) - 1))) = _
  rw [wrap_u _ (by have := HP.out; omega) HQ.out, wrap_u _ (by have := HP.out; omega) (by have := HQ.out; omega)]
theorem ones_hi (n : Int) (w : World) (h : 64 ≤ n) (h2 : n ≤ 128) : Calls Tryz.prog 76 #[.int .i64 n] w fun e w' => e = .returned (.int .u64 18446744073709551615) ∧ w = w' := by
  have hs : Op.shift .shl .u64 1 .i64 n = pure (.int .u64 0) := by
    rw [shift_shl_any .u64 .i64 1 n (by omega)]
    rw [show min n.toNat IntKind.u64.bits = 64 by rw [show IntKind.u64.bits = 64 from rfl]; omega]
    rfl
  go_enter Tryz.func76, Tryz.ntmps76
  go_wp2
  go_ret
  exact ⟨rfl, rfl⟩
theorem ones_any (n : Int) (w : World) (h2 : n ≤ 128) : Calls Tryz.prog 76 #[.int .i64 n] w fun e w' => e = .returned (.int .u64 (onesV n)) ∧ w = w' := by
  unfold onesV
  by_cases h0 : n ≤ 0
  · rw [if_pos h0]; exact ones_lo n w h0
  · rw [if_neg h0]
    by_cases h1 : 64 ≤ n
    · rw [if_pos h1]; exact ones_hi n w h1 h2
    · rw [if_neg h1]; exact ones_mid n w (by omega) (by omega)
theorem two_set0 {w : World} {b : Nat} {v0 v1 u0 u1 : Value} (c0 : w.cell? ⟨b, 0, none⟩ = some u0) (c1 : w.cell? ⟨b, 1, none⟩ = some u1) :
    ((w.setCell ⟨b, 0, none⟩ v0).setCell ⟨b, 1, none⟩ v1).cell? ⟨b, 0, none⟩ = some v0 ∧ ((w.setCell ⟨b, 0, none⟩ v0).setCell ⟨b, 1, none⟩ v1).cell? ⟨b, 1, none⟩ = some v1 := by
  have e0 : (w.setCell ⟨b, 0, none⟩ v0).cell? ⟨b, 0, none⟩ = some v0 := World.cell?_setCell_same (h := c0) ..
  have e1 : (w.setCell ⟨b, 0, none⟩ v0).cell? ⟨b, 1, none⟩ = some u1 := by rw [World.cell?_setCell_other (h := by simp)]; exact c1
  exact ⟨by rw [World.cell?_setCell_other (h := by simp)]; exact e0, World.cell?_setCell_same (h := e1) ..⟩
set_option maxRecDepth 100000 in
set_option maxHeartbeats 1000000 in
theorem last_any (f h l n : Int) (w : World) (h0 : 0 ≤ n) (h1 : n ≤ swid f) :
    Calls Tryz.prog 49 #[.agg #[.int .u8 f, .int .u64 h, .int .u64 l, .int .i64 n]] w fun e w' => e = .returned (.agg #[.int .u64 (bits .or .u64 h (onesV (swid f - n - 64))), .int .u64 (bits .or .u64 l (onesV (swid f - n)))]) ∧ Below w.heap.size w w' := by
  have hw : 0 ≤ swid f ∧ swid f ≤ 128 := by unfold swid; split <;> omega
  obtain ⟨W, hW⟩ : ∃ W, swid f = W := ⟨_, rfl⟩
  have HS := Lib.hid (fun w => swid_any f w)
  rw [hW] at HS hw h1 ⊢
  have e1 : IntKind.i64.wrap (W - n) = W - n := IntWalk.i64_in _ (by omega)
  have e2 : IntKind.i64.wrap (W - n - 64) = W - n - 64 := IntWalk.i64_in _ (by omega)
  obtain ⟨o1, ho1⟩ : ∃ o1, onesV (W - n - 64) = o1 := ⟨_, rfl⟩
  obtain ⟨o2, ho2⟩ : ∃ o2, onesV (W - n) = o2 := ⟨_, rfl⟩
  have H1 := Lib.hid (fun w => ones_any (W - n - 64) w (by omega))
  have H2 := Lib.hid (fun w => ones_any (W - n) w (by omega))
  rw [ho1] at H1 ⊢
  rw [ho2] at H2 ⊢
  clear hW hw h0 h1 ho1 ho2
  go_enter Tryz.func49, Tryz.ntmps49
  go_wp2_with fail
  go_quiet ((go_at_call 75; exact Calls.quiet_of_same ((HS.out _).mono fun e w' h => ⟨h.1, h.2.symm⟩)))
  go_wp2_with fail
  generalize hv : World.drewN _ _ = v
  have c1 : v.cell? ⟨w.heap.size, 1, none⟩ = some (.int .u64 h) := by rw [← hv]; simp
  have c2 : v.cell? ⟨w.heap.size, 2, none⟩ = some (.int .u64 l) := by rw [← hv]; simp
  have r0 : v.cell? ⟨w.heap.size + 1, 0, none⟩ = some (.int .u64 0) := by rw [← hv]; simp
  have r1 : v.cell? ⟨w.heap.size + 1, 1, none⟩ = some (.int .u64 0) := by rw [← hv]; simp
  have f0 : v.frozen? ⟨w.heap.size + 1, 0, none⟩ = false := by rw [← hv]; simp
  have f1 : v.frozen? ⟨w.heap.size + 1, 1, none⟩ = false := by rw [← hv]; simp
  have HB := Lib.hid (show Below w.heap.size w v by rw [← hv]; exact below_drewN (((Below.refl _ _).alloc (Nat.le_refl _) _).alloc (by simp) _) _)
  clear hv
  go_still_tail 14, (by kernel_rfl)
  still_call ((H1.out _).mono fun _ _ h => ⟨h.1, h.2.symm⟩)
  repeat still_step
  still_call ((H2.out _).mono fun _ _ h => ⟨h.1, h.2.symm⟩)
  repeat still_step
  refine wpStill_nil ?_
  change wpList _ _ _ _ _ v.drew
  go_wp2_with fail
  have A := two_set0 (v0 := .int .u64 (bits .or .u64 h o1)) (v1 := .int .u64 (bits .or .u64 l o2)) r0 r1
  refine bodyPost_ret (v := .agg #[.int .u64 (bits .or .u64 h o1), .int .u64 (bits .or .u64 l o2)]) (by simp [results, Tryz.results49, go_sem, A.1, A.2]) rfl ⟨rfl, ((HB.out.setCell (by simp) _).setCell (by simp) _).drew⟩
end Go.Proofs.YtjngfieggacpiaaGreatDoor
