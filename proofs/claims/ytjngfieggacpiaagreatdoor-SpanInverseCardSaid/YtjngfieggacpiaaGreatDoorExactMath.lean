/-
  What covers an address; the walk over covered.
-/
import Derived.Test.YtjngfieggacpiaaGreatDoorSpanI
import Derived.Deep.DeepCutAuto
namespace Go.Proofs.YtjngfieggacpiaaGreatDoor
open Go.RowKit Adr Spn
set_option linter.unusedVariables false
set_option linter.unusedSimpArgs false
variable {fl : Bool}
theorem block_iff (Y A k : Nat) (ha : A % 2 ^ k = 0) : Y / 2 ^ k * 2 ^ k = A ↔ (A ≤ Y ∧ Y < A + 2 ^ k) := by
  have hp := Nat.two_pow_pos k
  have h1 := Nat.div_add_mod Y (2 ^ k)
  have h2 := Nat.mod_lt Y hp
  rw [Nat.mul_comm] at h1
  obtain ⟨q, rfl⟩ := Nat.dvd_of_mod_eq_zero ha
  constructor
  · intro e
    omega
  · rintro ⟨e1, e2⟩
    have e3 : Y / 2 ^ k = q := by
      apply Nat.div_eq_of_lt_le
      · rw [Nat.mul_comm]; exact e1
      · rw [Nat.mul_comm, Nat.mul_add, Nat.mul_one]; exact e2
    rw [e3, Nat.mul_comm]
theorem ok_of_num {f : Int} {W i N : Nat} (hf : Fam f W) (hi : i ≤ W) (hN : N < 2 ^ W) (ha : N % 2 ^ (W - i) = 0) : ok f (aH N) (aL N) i = true := by
  have h := chk_of_num hf hi hN ha
  unfold chk at h
  by_cases hh : ok f (aH N) (aL N) i = true
  · exact hh
  · rw [if_neg hh] at h
    split at h <;> omega
theorem cov_hit {f : Int} {W : Nat} (hf : Fam f W) (A k Y : Nat) (hk : k ≤ W) (hA : A < 2 ^ W) (ha : A % 2 ^ k = 0) (hY : Y < 2 ^ W) :
    cov f (aH A) (aL A) ((W - k : Nat) : Int) f (aH Y) (aL Y) (W : Int) = hit Y (A, k) := by
  obtain ⟨w1, w2, w3, w4⟩ := hf.wid
  have o1 := ok_of_num hf (show W - k ≤ W by omega) hA (by rw [show W - (W - k) = k by omega]; exact ha)
  have o2 := ok_of_num hf (Nat.le_refl W) hY (by rw [Nat.sub_self]; exact Nat.mod_one _)
  unfold cov
  rw [o1, o2, w1, show ((W : Int) - (W - k : Nat)) = (k : Int) by omega, (clr_a Y k).1, (clr_a Y k).2]
  have e : (aH (Y / 2 ^ k * 2 ^ k) == aH A && aL (Y / 2 ^ k * 2 ^ k) == aL A) = decide (Y / 2 ^ k * 2 ^ k = A) := by
    rw [Bool.eq_iff_iff]
    simp only [Bool.and_eq_true, beq_iff_eq, decide_eq_true_eq]
    exact ⟨fun h => a_inj h.1 h.2, fun h => by rw [h]; exact ⟨rfl, rfl⟩⟩
  have e5 : decide (Y / 2 ^ k * 2 ^ k = A) = decide (A ≤ Y ∧ Y < A + 2 ^ k) := decide_eq_decide.2 (block_iff Y A k ha)
  rw [e, e5]
  rw [show decide (((W - k : Nat) : Int) ≤ (W : Int)) = true from decide_eq_true (by omega)]
  simp [hit]
/-- a list of blocks -/
def Blocks (W : Nat) (xs : List (Nat × Nat)) : Prop := ∀ p ∈ xs, p.1 < 2 ^ W ∧ p.2 ≤ W ∧ p.1 % 2 ^ p.2 = 0
end Go.Proofs.YtjngfieggacpiaaGreatDoor
