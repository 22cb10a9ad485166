/-
  THE WALKS over names: package number and the reference.
-/
import Derived.Test.YtjpngoccmjpckaaNumRefF
namespace Go.Proofs.Ytjpngoccmjpckaa
open Go.RowKit Nm
/-- a byte of a name -/
def nbI (c : Int) : Bool := (decide (97 ≤ c) && decide (c ≤ 122)) || (decide (65 ≤ c) && decide (c ≤ 90)) || (decide (48 ≤ c) && decide (c ≤ 57)) || c == 45 || c == 95
def allNb (s : ByteArray) : Bool := s.data.toList.all fun c => nbI c.toNat
def nameB (s : ByteArray) : Bool := decide (1 ≤ s.size) && decide (s.size ≤ 40) && allNb s

set_option maxHeartbeats 400000 in
theorem nb_any (c : Int) (w : World) (v : Bool) (hv : nbI c = v) :
    Calls Try.prog 23 #[.int .u8 c] w fun e w' => e = .returned (.bool v) ∧ w = w' := by
  have HV := Lib.hid hv
  clear hv
  go_enter Try.func23, Try.ntmps23
  go_wp2
  all_goals
    go_ret
    refine ⟨?_, rfl⟩
    rw [← HV.out]
    refine congrArg (fun b => Ending.returned (Value.bool b)) ?_
    rw [Bool.eq_iff_iff]
    simp [nbI]
    omega
theorem nbI_of (c : Int) (h : (97 ≤ c ∧ c ≤ 122) ∨ (65 ≤ c ∧ c ≤ 90) ∨ (48 ≤ c ∧ c ≤ 57) ∨ c = 45 ∨ c = 95) : nbI c = true := by
  simp [nbI]; omega
theorem nbI_not (c : Int) (h : ¬ ((97 ≤ c ∧ c ≤ 122) ∨ (65 ≤ c ∧ c ≤ 90) ∨ (48 ≤ c ∧ c ≤ 57) ∨ c = 45 ∨ c = 95)) : nbI c = false := by
  rw [Bool.eq_false_iff]
  intro hh
  simp [nbI] at hh
  omega
theorem allNb_take (s : ByteArray) (k : Nat) (h : k < s.size) : ((s.data.toList.take (k + 1)).all fun c => nbI c.toNat) = ((s.data.toList.take k).all (fun c => nbI c.toNat) && nbI s[k].toNat) := by
  have e : s.data.toList.take (k + 1) = s.data.toList.take k ++ [s[k]] := by
    rw [List.take_succ_eq_append_getElem (by simpa using h)]; rfl
  rw [e, List.all_append]
  simp
theorem allNb_bad (s : ByteArray) (k : Nat) (h : k < s.size) (hb : nbI s[k].toNat = false) : allNb s = false := by
  unfold allNb
  rw [List.all_eq_false]
  exact ⟨s[k], by simp [ByteArray.getElem_eq_getElem_data], by simp [hb]⟩
set_option maxHeartbeats 400000 in
theorem name_any (s : ByteArray) (w : World) (hs : s.size ≤ maxLen) :
    Calls Try.prog 8 #[.string s] w fun e w' => e = .returned (.bool (nameB s)) ∧ w = w' := by
  unfold maxLen at hs
  by_cases h1 : s.size < 1
  · have hv : nameB s = false := by simp [nameB]; intro a; omega
    rw [hv]
    clear hv
    go_enter Try.func8, Try.ntmps8
    go_wp2
    all_goals go_ret
    all_goals exact ⟨rfl, rfl⟩
  · by_cases h2 : 40 < s.size
    · have hv : nameB s = false := by simp [nameB]; intro a; omega
      rw [hv]
      clear hv
      go_enter Try.func8, Try.ntmps8
      go_wp2
      all_goals go_ret
      all_goals exact ⟨rfl, rfl⟩
    · have hv : nameB s = allNb s := by
        have a : decide (1 ≤ s.size) = true := by simp; omega
        have b : decide (s.size ≤ 40) = true := by simp; omega
        simp only [nameB, a, b, Bool.true_and]
      rw [hv]
      clear hv
      go_enter Try.func8, Try.ntmps8
      go_wp2
      go_loop [3, 14] (fun _ i => ∃ k : Nat, k ≤ s.size ∧ i = .int .i64 k ∧ (s.data.toList.take k).all (fun c => nbI c.toNat) = true) (fun _ i => s.size - (intOf i).toNat)
      case atStart => exact ⟨0, Nat.zero_le _, rfl, by simp⟩
      case round =>
        obtain ⟨k, hk, rfl, ha⟩ := hrel
        have HA := Lib.hid ha
        clear ha
        by_cases hlt : k < s.size
        · cases hb : nbI s[k].toNat
          · have HB := Lib.hid hb
            have HF := Lib.hid (allNb_bad s k hlt hb)
            clear hb
            go_wp2_with (go_at_call 23; refine (nb_any _ _ false HB.out).mono ?_; rintro e w2 ⟨rfl, rfl⟩)
            go_ret
            exact ⟨by rw [HF.out]; rfl, rfl⟩
          · have HB := Lib.hid hb
            have HT := Lib.hid (allNb_take s k hlt)
            clear hb
            go_wp2_with (go_at_call 23; refine (nb_any _ _ true HB.out).mono ?_; rintro e w2 ⟨rfl, rfl⟩)
            go_round
            case rel => exact ⟨k + 1, by omega, by go_num, by rw [HT.out, HA.out, HB.out]; rfl⟩
            case measure => simp [intOf]; omega
        · go_wp2
          go_ret
          have e : k = s.size := by omega
          subst e
          have HT : allNb s = true := by have := HA.out; rw [List.take_of_length_le (by simp)] at this; exact this
          exact ⟨by rw [HT]; rfl, rfl⟩
set_option maxHeartbeats 400000 in
theorem rname_any (s : ByteArray) (w : World) (hs : s.size ≤ maxLen) :
    Calls Try.prog 9 #[.string s] w fun e w' => e = .returned (.bool (nameB s)) ∧ w = w' := by
  unfold maxLen at hs
  by_cases h1 : s.size < 1
  · have hv : nameB s = false := by simp [nameB]; intro a; omega
    rw [hv]
    clear hv
    have hz : ((s.size : Int) == 0) = true := beq_iff_eq.2 (by omega)
    go_enter Try.func9, Try.ntmps9
    go_wp2
    all_goals go_ret
    all_goals exact ⟨rfl, rfl⟩
  · by_cases h2 : 40 < s.size
    · have hv : nameB s = false := by simp [nameB]; intro a; omega
      rw [hv]
      clear hv
      have hz : ((s.size : Int) == 0) = false := beq_eq_false_iff_ne.2 (by omega)
      go_enter Try.func9, Try.ntmps9
      go_wp2
      all_goals go_ret
      all_goals exact ⟨rfl, rfl⟩
    · have hv : nameB s = allNb s := by
        have a : decide (1 ≤ s.size) = true := by simp; omega
        have b : decide (s.size ≤ 40) = true := by simp; omega
        simp only [nameB, a, b, Bool.true_and]
      rw [hv]
      clear hv
      have hz : ((s.size : Int) == 0) = false := beq_eq_false_iff_ne.2 (by omega)
      go_enter Try.func9, Try.ntmps9
      go_wp2
      go_loop [3] (fun i => ∃ k : Nat, k ≤ s.size ∧ i = .int .i64 k ∧ (s.data.toList.take k).all (fun c => nbI c.toNat) = true) (fun i => s.size - (intOf i).toNat)
      case atStart => exact ⟨0, Nat.zero_le _, rfl, by simp⟩
      case round =>
        obtain ⟨k, hk, rfl, ha⟩ := hrel
        have HA := Lib.hid ha
        clear ha
        by_cases hlt : k < s.size
        · have HT := Lib.hid (allNb_take s k hlt)
          have HFb := Lib.hid (allNb_bad s k hlt)
          by_cases h45 : (s[k].toNat : Int) = 45
          · have a1 : ((s[k].toNat : Int) == 45) = true := by simp [h45]
            have a2 : 45 ≤ (s[k].toNat : Int) := by omega
            have a3 : (s[k].toNat : Int) ≤ 45 := by omega
            have HB := Lib.hid (show nbI s[k].toNat = true by simp [nbI, h45])
            clear h45
            go_wp2
            go_round
            case rel => exact ⟨k + 1, by omega, by go_num, by rw [HT.out, HA.out, HB.out]; rfl⟩
            case measure => simp [intOf]; omega
          · have a1 : ((s[k].toNat : Int) == 45) = false := by simpa using h45
            by_cases h95 : (s[k].toNat : Int) = 95
            · have b1 : ((s[k].toNat : Int) == 95) = true := by simp [h95]
              have a2 : 95 ≤ (s[k].toNat : Int) := by omega
              have a3 : (s[k].toNat : Int) ≤ 95 := by omega
              have HB := Lib.hid (show nbI s[k].toNat = true by simp [nbI, h95])
              clear h95 h45
              go_wp2
              go_round
              case rel => exact ⟨k + 1, by omega, by go_num, by rw [HT.out, HA.out, HB.out]; rfl⟩
              case measure => simp [intOf]; omega
            · have b1 : ((s[k].toNat : Int) == 95) = false := by simpa using h95
              go_wp2
              all_goals first | (have hb : nbI s[k].toNat = true := nbI_of _ (by omega); have HB := Lib.hid hb; clear hb; go_round; (case rel => exact ⟨k + 1, by omega, by go_num, by rw [HT.out, HA.out, HB.out]; rfl⟩); (case measure => (simp [intOf]; omega))) | (have hb : nbI s[k].toNat = false := nbI_not _ (by omega); have HB := Lib.hid hb; clear hb; go_ret; exact ⟨by rw [HFb.out HB.out]; rfl, rfl⟩) | (exfalso; clear HFb HT; simp only [Bool.not_eq_eq_eq_not, Bool.not_false, decide_eq_true_eq] at *; omega)
        · go_wp2
          go_ret
          have e : k = s.size := by omega
          subst e
          have HT : allNb s = true := by have := HA.out; rw [List.take_of_length_le (by simp)] at this; exact this
          exact ⟨by rw [HT]; rfl, rfl⟩
end Go.Proofs.Ytjpngoccmjpckaa
