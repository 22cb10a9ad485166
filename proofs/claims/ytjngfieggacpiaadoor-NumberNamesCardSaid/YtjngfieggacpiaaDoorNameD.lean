/-
  THE WALKS over names: package number alone.
-/
import Derived.Test.YtjngfieggacpiaaDoorNumWalkD
namespace Go.Proofs.YtjngfieggacpiaaDoor
open Go.RowKit Adr
/-- a byte of a name -/
def nbI (c : Int) : Bool := (decide (97 ≤ c) && decide (c ≤ 122)) || (decide (65 ≤ c) && decide (c ≤ 90)) || (decide (48 ≤ c) && decide (c ≤ 57)) || c == 45 || c == 95
def allNb (s : ByteArray) : Bool := s.data.toList.all fun c => nbI c.toNat
def nameB (s : ByteArray) : Bool := decide (1 ≤ s.size) && decide (s.size ≤ 40) && allNb s

set_option maxHeartbeats 400000 in
theorem nb_any (c : Int) (w : World) (v : Bool) (hv : nbI c = v) :
    Calls Tryd.prog 35 #[.int .u8 c] w fun e w' => e = .returned (.bool v) ∧ w = w' := by
  have HV := Lib.hid hv
  clear hv
  go_enter Tryd.func35, Tryd.ntmps35
  go_wp2
  all_goals
    go_ret
    refine ⟨?_, rfl⟩
    rw [← HV.out]
    refine congrArg (fun b => Ending.returned (Value.bool b)) ?_
    rw [Bool.eq_iff_iff]
    simp [nbI]
    omega
theorem nbI_of (c : Int) (h : (97 ≤ c ∧ c ≤ 122) ∨ (65 ≤ c ∧ c ≤ 90) ∨ (48 ≤ c ∧ c ≤ 57) ∨ c = 45 ∨ c = 95) : nbI c = true := by
  simp [nbI]; omega
theorem nbI_not (c : Int) (h : ¬ ((97 ≤ c ∧ c ≤ 122) ∨ (65 ≤ c ∧ c ≤ 90) ∨ (48 ≤ c ∧ c ≤ 57) ∨ c = 45 ∨ c = 95)) : nbI c = false := by
  rw [Bool.eq_false_iff]
  intro hh
  simp [nbI] at hh
  omega
theorem allNb_take (s : ByteArray) (k : Nat) (h : k < s.size) : ((s.data.toList.take (k + 1)).all fun c => nbI c.toNat) = ((s.data.toList.take k).all (fun c => nbI c.toNat) && nbI s[k].toNat) := by
  have e : s.data.toList.take (k + 1) = s.data.toList.take k ++ [s[k]] := by
    rw [List.take_succ_eq_append_getElem (by simpa using h)]; rfl
  rw [e, List.all_append]
  simp
theorem allNb_bad (s : ByteArray) (k : Nat) (h : k < s.size) (hb : nbI s[k].toNat = false) : allNb s = false := by
  unfold allNb
  rw [List.all_eq_false]
  exact ⟨s[k], by simp [ByteArray.getElem_eq_getElem_data], by simp [hb]⟩
set_option maxHeartbeats 400000 in
theorem name_any (s : ByteArray) (w : World) (hs : s.size ≤ maxLen) :
    Calls Tryd.prog 12 #[.string s] w fun e w' => e = .returned (.bool (nameB s)) ∧ w = w' := by
  unfold maxLen at hs
  by_cases h1 : s.size < 1
  · have hv : nameB s = false := by simp [nameB]; intro a; omega
    rw [hv]
    clear hv
    go_enter Tryd.func12, Tryd.ntmps12
    go_wp2
    all_goals go_ret
    all_goals exact ⟨rfl, rfl⟩
  · by_cases h2 : 40 < s.size
    · have hv : nameB s = false := by simp [nameB]; intro a; omega
      rw [hv]
      clear hv
      go_enter Tryd.func12, Tryd.ntmps12
      go_wp2
      all_goals go_ret
      all_goals exact ⟨rfl, rfl⟩
    · have hv : nameB s = allNb s := by
        have a : decide (1 ≤ s.size) = true := by simp; omega
        have b : decide (s.size ≤ 40) = true := by simp; omega
        simp only [nameB, a, b, Bool.true_and]
      rw [hv]
      clear hv
      go_enter Tryd.func12, Tryd.ntmps12
      go_wp2
      go_loop [3, 14] (fun _ i => ∃ k : Nat, k ≤ s.size ∧ i = .int .i64 k ∧ (s.data.toList.take k).all (fun c => nbI c.toNat) = true) (fun _ i => s.size - (intOf i).toNat)
      case atStart => exact ⟨0, Nat.zero_le _, rfl, by simp⟩
      case round =>
        obtain ⟨k, hk, rfl, ha⟩ := hrel
        have HA := Lib.hid ha
        clear ha
        by_cases hlt : k < s.size
        · cases hb : nbI s[k].toNat
          · have HB := Lib.hid hb
            have HF := Lib.hid (allNb_bad s k hlt hb)
            clear hb
            go_wp2_with (go_at_call 35; refine (nb_any _ _ false HB.out).mono ?_; rintro e w2 ⟨rfl, rfl⟩)
            go_ret
            exact ⟨by rw [HF.out]; rfl, rfl⟩
          · have HB := Lib.hid hb
            have HT := Lib.hid (allNb_take s k hlt)
            clear hb
            go_wp2_with (go_at_call 35; refine (nb_any _ _ true HB.out).mono ?_; rintro e w2 ⟨rfl, rfl⟩)
            go_round
            case rel => exact ⟨k + 1, by omega, by go_num, by rw [HT.out, HA.out, HB.out]; rfl⟩
            case measure => simp [intOf]; omega
        · go_wp2
          go_ret
          have e : k = s.size := by omega
          subst e
          have HT : allNb s = true := by have := HA.out; rw [List.take_of_length_le (by simp)] at this; exact this
          exact ⟨by rw [HT]; rfl, rfl⟩
end Go.Proofs.YtjngfieggacpiaaDoor
