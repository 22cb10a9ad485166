/-
  THE WALK over layer 8's reference: Length. Written by wip/gen-oc12.py.
-/
import Derived.Test.YtlbchefdkdngnaaOcS
namespace Go.Proofs.Ytlbchefdkdngnaa
open Go.RowKit Sha Oc
set_option linter.unusedVariables false
set_option linter.unusedSimpArgs false
theorem nat8 (k : Nat) (z : Int) (h : (k % 256 : Nat) = z) : (((UInt8.ofNat k).toNat : Nat) : Int) = z := by rw [UInt8.toNat_ofNat']; exact h
set_option maxRecDepth 100000 in
set_option maxHeartbeats 4000000 in
theorem length_ref (n : Nat) (hn : n < 16777216) (w : World) : Calls Try.prog 68 #[.int .i64 (n : Int)] w (fun e w' => ∃ v, e = .returned v ∧ w'.ownsRow w.heap.size 5 1 v (lenb n).length (bvals (lenb n)) ∧ Below w.heap.size w w') := by
  by_cases h1 : n < 128
  · have h1i : (n : Int) < 128 := by omega
    have hl : lenb n = [UInt8.ofNat n] := by unfold lenb; rw [if_pos h1]
    rw [hl]
    clear hl
    go_enter Try.func68, Try.ntmps68
    go_wp2_with fail
    go_ret
    refine ⟨_, rfl, ?_, below_new w _⟩
    refine ⟨rfl, .inr ⟨w.heap.size, 1, _, rfl, Nat.le_refl _, heap_alloc_new w _, Nat.le_refl _, by decide, rfl, ?_⟩⟩
    simp [bvals]
    all_goals omega
  · have h1i : ¬ (n : Int) < 128 := by omega
    by_cases h2 : n < 256
    · have h2i : (n : Int) < 256 := by omega
      have hl : lenb n = [129, UInt8.ofNat n] := by unfold lenb; rw [if_neg h1, if_pos h2]
      rw [hl]
      clear hl
      go_enter Try.func68, Try.ntmps68
      go_wp2_with fail
      go_ret
      refine ⟨_, rfl, ?_, below_new w _⟩
      refine ⟨rfl, .inr ⟨w.heap.size, 2, _, rfl, Nat.le_refl _, heap_alloc_new w _, Nat.le_refl _, by decide, rfl, ?_⟩⟩
      simp [bvals]
      all_goals omega
    · have h2i : ¬ (n : Int) < 256 := by omega
      by_cases h3 : n < 65536
      · have h3i : (n : Int) < 65536 := by omega
        have hl : lenb n = [130, UInt8.ofNat (n / 256), UInt8.ofNat (n % 256)] := by unfold lenb; rw [if_neg h1, if_neg h2, if_pos h3]
        rw [hl]
        clear hl
        go_enter Try.func68, Try.ntmps68
        go_wp2_with fail
        go_ret
        refine ⟨_, rfl, ?_, below_new w _⟩
        refine ⟨rfl, .inr ⟨w.heap.size, 3, _, rfl, Nat.le_refl _, heap_alloc_new w _, Nat.le_refl _, by decide, rfl, ?_⟩⟩
        simp [bvals]
        all_goals omega
      · have h3i : ¬ (n : Int) < 65536 := by omega
        have hl : lenb n = [131, UInt8.ofNat (n / 65536), UInt8.ofNat (n / 256 % 256), UInt8.ofNat (n % 256)] := by unfold lenb; rw [if_neg h1, if_neg h2, if_neg h3]
        rw [hl]
        clear hl
        go_enter Try.func68, Try.ntmps68
        go_wp2_with fail
        go_ret
        refine ⟨_, rfl, ?_, below_new w _⟩
        refine ⟨rfl, .inr ⟨w.heap.size, 4, _, rfl, Nat.le_refl _, heap_alloc_new w _, Nat.le_refl _, by decide, rfl, ?_⟩⟩
        simp [bvals]
        all_goals omega
end Go.Proofs.Ytlbchefdkdngnaa
