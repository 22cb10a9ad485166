import Derived.Test.YtcgffkkfeimifaaGreatDoorOcKit
import Derived.Walk
import Derived.WalkIn
namespace Go.Proofs.YtcgffkkfeimifaaGreatDoor
namespace Sg
open Go.RowKit Sha
set_option linter.unusedVariables false
set_option linter.unusedSimpArgs false
def nbI (c : Int) : Bool := (decide (97 ≤ c) && decide (c ≤ 122)) || (decide (65 ≤ c) && decide (c ≤ 90)) || (decide (48 ≤ c) && decide (c ≤ 57)) || c == 45 || c == 95
def allNb (s : ByteArray) : Bool := s.data.toList.all fun c => nbI c.toNat
def nameB (s : ByteArray) : Bool := decide (1 ≤ s.size) && decide (s.size ≤ 40) && allNb s

set_option maxHeartbeats 400000 in
theorem nb_any (c : Int) (w : World) (v : Bool) (hv : nbI c = v) :
  Calls Tryz.prog 63 #[.int .u8 c] w fun e w' => e = .returned (.bool v) ∧ w = w' := by
 have HV := Lib.hid hv
 clear hv
 go_enter Tryz.func63, Tryz.ntmps63
 go_wp2
 all_goals
  go_ret
  refine ⟨?_, rfl⟩
  rw [← HV.out]
  refine congrArg (fun b => Ending.returned (Value.bool b)) ?_
  rw [Bool.eq_iff_iff]
  simp [nbI]
  omega
theorem nbI_of (c : Int) (h : (97 ≤ c ∧ c ≤ 122) ∨ (65 ≤ c ∧ c ≤ 90) ∨ (48 ≤ c ∧ c ≤ 57) ∨ c = 45 ∨ c = 95) : nbI c = true := by
 simp [nbI]; omega
theorem nbI_not (c : Int) (h : ¬ ((97 ≤ c ∧ c ≤ 122) ∨ (65 ≤ c ∧ c ≤ 90) ∨ (48 ≤ c ∧ c ≤ 57) ∨ c = 45 ∨ c = 95)) : nbI c = false := by
 rw [Bool.eq_false_iff]
 intro hh
 simp [nbI] at hh
 omega
theorem allNb_take (s : ByteArray) (k : Nat) (h : k < s.size) : ((s.data.toList.take (k + 1)).all fun c => nbI c.toNat) = ((s.data.toList.take k).all (fun c => nbI c.toNat) && nbI s[k].toNat) := by
 have e : s.data.toList.take (k + 1) = s.data.toList.take k ++ [s[k]] := by
  rw [List.take_succ_eq_append_getElem (by simpa using h)]; rfl
 rw [e, List.all_append]
 simp
theorem allNb_bad (s : ByteArray) (k : Nat) (h : k < s.size) (hb : nbI s[k].toNat = false) : allNb s = false := by
 unfold allNb
 rw [List.all_eq_false]
 exact ⟨s[k], by simp [ByteArray.getElem_eq_getElem_data], by simp [hb]⟩
set_option maxHeartbeats 400000 in
theorem name_any (s : ByteArray) (w : World) (hs : s.size ≤ maxLen) :
  Calls Tryz.prog 33 #[.string s] w fun e w' => e = .returned (.bool (nameB s)) ∧ w = w' := by
 unfold maxLen at hs
 by_cases h1 : s.size < 1
 ·
  have hv : nameB s = false := by simp [nameB]; intro a; omega
  rw [hv]
  clear hv
  go_enter Tryz.func33, Tryz.ntmps33
  go_wp2
  all_goals go_ret
  all_goals exact ⟨rfl, rfl⟩
 ·
  by_cases h2 : 40 < s.size
  ·
   have hv : nameB s = false := by simp [nameB]; intro a; omega
   rw [hv]
   clear hv
   go_enter Tryz.func33, Tryz.ntmps33
   go_wp2
   all_goals go_ret
   all_goals exact ⟨rfl, rfl⟩
  ·
   have hv : nameB s = allNb s := by
    have a : decide (1 ≤ s.size) = true := by simp; omega
    have b : decide (s.size ≤ 40) = true := by simp; omega
    simp only [nameB, a, b, Bool.true_and]
   rw [hv]
   clear hv
   go_enter Tryz.func33, Tryz.ntmps33
   go_wp2
   go_loop [3, 14] (fun _ i => ∃ k : Nat, k ≤ s.size ∧ i = .int .i64 k ∧ (s.data.toList.take k).all (fun c => nbI c.toNat) = true) (fun _ i => s.size - (intOf i).toNat)
   case atStart => exact ⟨0, Nat.zero_le _, rfl, by simp⟩
   case round =>
    obtain ⟨k, hk, rfl, ha⟩ := hrel
    have HA := Lib.hid ha
    clear ha
    by_cases hlt : k < s.size
    ·
     cases hb : nbI s[k].toNat
     ·
      have HB := Lib.hid hb
      have HF := Lib.hid (allNb_bad s k hlt hb)
      clear hb
      go_wp2_with (go_at_call 63; refine (nb_any _ _ false HB.out).mono ?_; rintro e w2 ⟨rfl, rfl⟩)
      go_ret
      exact ⟨by rw [HF.out]; rfl, rfl⟩
     ·
      have HB := Lib.hid hb
      have HT := Lib.hid (allNb_take s k hlt)
      clear hb
      go_wp2_with (go_at_call 63; refine (nb_any _ _ true HB.out).mono ?_; rintro e w2 ⟨rfl, rfl⟩)
      go_round
      case rel => exact ⟨k + 1, by omega, by go_num, by rw [HT.out, HA.out, HB.out]; rfl⟩
      case measure => simp [intOf]; omega
    ·
     go_wp2
     go_ret
     have e : k = s.size := by omega
     subst e
     have HT : allNb s = true := by have := HA.out; rw [List.take_of_length_le (by simp)] at this; exact this
     exact ⟨by rw [HT]; rfl, rfl⟩
set_option maxHeartbeats 400000 in
theorem rname_any (s : ByteArray) (w : World) (hs : s.size ≤ maxLen) :
  Calls Tryz.prog 78 #[.string s] w fun e w' => e = .returned (.bool (nameB s)) ∧ w = w' := by
 unfold maxLen at hs
 by_cases h1 : s.size < 1
 ·
  have hv : nameB s = false := by simp [nameB]; intro a; omega
  rw [hv]
  clear hv
  have hz : ((s.size : Int) == 0) = true := beq_iff_eq.2 (by omega)
  go_enter Tryz.func78, Tryz.ntmps78
  go_wp2
  all_goals go_ret
  all_goals exact ⟨rfl, rfl⟩
 ·
  by_cases h2 : 40 < s.size
  ·
   have hv : nameB s = false := by simp [nameB]; intro a; omega
   rw [hv]
   clear hv
   have hz : ((s.size : Int) == 0) = false := beq_eq_false_iff_ne.2 (by omega)
   go_enter Tryz.func78, Tryz.ntmps78
   go_wp2
   all_goals go_ret
   all_goals exact ⟨rfl, rfl⟩
  ·
   have hv : nameB s = allNb s := by
    have a : decide (1 ≤ s.size) = true := by simp; omega
    have b : decide (s.size ≤ 40) = true := by simp; omega
    simp only [nameB, a, b, Bool.true_and]
   rw [hv]
   clear hv
   have hz : ((s.size : Int) == 0) = false := beq_eq_false_iff_ne.2 (by omega)
   go_enter Tryz.func78, Tryz.ntmps78
   go_wp2
   go_loop [3] (fun i => ∃ k : Nat, k ≤ s.size ∧ i = .int .i64 k ∧ (s.data.toList.take k).all (fun c => nbI c.toNat) = true) (fun i => s.size - (intOf i).toNat)
   case atStart => exact ⟨0, Nat.zero_le _, rfl, by simp⟩
   case round =>
    obtain ⟨k, hk, rfl, ha⟩ := hrel
    have HA := Lib.hid ha
    clear ha
    by_cases hlt : k < s.size
    ·
     have HT := Lib.hid (allNb_take s k hlt)
     have HFb := Lib.hid (allNb_bad s k hlt)
     by_cases h45 : (s[k].toNat : Int) = 45
     ·
      have a1 : ((s[k].toNat : Int) == 45) = true := by simp [h45]
      have a2 : 45 ≤ (s[k].toNat : Int) := by omega
      have a3 : (s[k].toNat : Int) ≤ 45 := by omega
      have HB := Lib.hid (show nbI s[k].toNat = true by simp [nbI, h45])
      clear h45
      go_wp2
      go_round
      case rel => exact ⟨k + 1, by omega, by go_num, by rw [HT.out, HA.out, HB.out]; rfl⟩
      case measure => simp [intOf]; omega
     ·
      have a1 : ((s[k].toNat : Int) == 45) = false := by simpa using h45
      by_cases h95 : (s[k].toNat : Int) = 95
      ·
       have b1 : ((s[k].toNat : Int) == 95) = true := by simp [h95]
       have a2 : 95 ≤ (s[k].toNat : Int) := by omega
       have a3 : (s[k].toNat : Int) ≤ 95 := by omega
       have HB := Lib.hid (show nbI s[k].toNat = true by simp [nbI, h95])
       clear h95 h45
       go_wp2
       go_round
       case rel => exact ⟨k + 1, by omega, by go_num, by rw [HT.out, HA.out, HB.out]; rfl⟩
       case measure => simp [intOf]; omega
      ·
       have b1 : ((s[k].toNat : Int) == 95) = false := by simpa using h95
       go_wp2
       all_goals first | (have hb : nbI s[k].toNat = true := nbI_of _ (by omega); have HB := Lib.hid hb; clear hb; go_round; (case rel => exact ⟨k + 1, by omega, by go_num, by rw [HT.out, HA.out, HB.out]; rfl⟩); (case measure => (simp [intOf]; omega))) | (have hb : nbI s[k].toNat = false := nbI_not _ (by omega); have HB := Lib.hid hb; clear hb; go_ret; exact ⟨by rw [HFb.out HB.out]; rfl, rfl⟩) | (exfalso; clear HFb HT; simp only [Bool.not_eq_eq_eq_not, Bool.not_false, decide_eq_true_eq] at *; omega)
    ·
     go_wp2
     go_ret
     have e : k = s.size := by omega
     subst e
     have HT : allNb s = true := by have := HA.out; rw [List.take_of_length_le (by simp)] at this; exact this
     exact ⟨by rw [HT]; rfl, rfl⟩
def tmB (t : Int) : Bool := decide (0 ≤ t ∧ t ≤ 1099511627776)
def wnB (a b : Int) : Bool := decide (0 ≤ a ∧ a ≤ 1099511627776 ∧ 0 ≤ b ∧ b ≤ 1099511627776 ∧ a ≤ b)
theorem tmB_true {t : Int} : tmB t = true ↔ (0 ≤ t ∧ t ≤ 1099511627776) := by simp [tmB]
theorem wnB_true {a b : Int} : wnB a b = true ↔ (0 ≤ a ∧ a ≤ 1099511627776 ∧ 0 ≤ b ∧ b ≤ 1099511627776 ∧ a ≤ b) := by simp [wnB]
theorem tm_any (t : Int) (w : World) :
  Calls Tryz.prog 64 #[.int .i64 t] w fun e w' => e = .returned (.bool (tmB t)) ∧ w = w' := by
 by_cases h : 0 ≤ t ∧ t ≤ 1099511627776
 ·
  have e : tmB t = true := tmB_true.2 h
  rw [e]; clear e
  obtain ⟨h1, h2⟩ := h
  go_enter Tryz.func64, Tryz.ntmps64
  go_wp2
  go_ret
  exact ⟨rfl, rfl⟩
 ·
  have e : tmB t = false := by simpa [tmB] using h
  rw [e]; clear e
  by_cases h1 : 0 ≤ t
  ·
   have h2 : ¬ t ≤ 1099511627776 := fun h2 => h ⟨h1, h2⟩
   clear h
   go_enter Tryz.func64, Tryz.ntmps64
   go_wp2
   go_ret
   exact ⟨rfl, rfl⟩
  ·
   clear h
   go_enter Tryz.func64, Tryz.ntmps64
   go_wp2
   go_ret
   exact ⟨rfl, rfl⟩
theorem rtm_any (t : Int) (w : World) :
  Calls Tryz.prog 116 #[.int .i64 t] w fun e w' => e = .returned (.bool (tmB t)) ∧ w = w' := by
 by_cases h : 0 ≤ t ∧ t ≤ 1099511627776
 ·
  have e : tmB t = true := tmB_true.2 h
  rw [e]; clear e
  obtain ⟨h1, h2⟩ := h
  go_enter Tryz.func116, Tryz.ntmps116
  go_wp2
  go_ret
  exact ⟨rfl, rfl⟩
 ·
  have e : tmB t = false := by simpa [tmB] using h
  rw [e]; clear e
  by_cases h1 : 0 ≤ t
  ·
   have h2 : ¬ t ≤ 1099511627776 := fun h2 => h ⟨h1, h2⟩
   clear h
   go_enter Tryz.func116, Tryz.ntmps116
   go_wp2
   go_ret
   exact ⟨rfl, rfl⟩
  ·
   clear h
   go_enter Tryz.func116, Tryz.ntmps116
   go_wp2
   go_ret
   exact ⟨rfl, rfl⟩
def chkW (a b : Int) : Int := if wnB a b = true then 0 else 8
theorem chk_any (a b : Int) (w : World) :
  Calls Tryz.prog 34 #[.agg #[.int .i64 a, .int .i64 b]] w fun e w' => e = .returned (.int .i64 (chkW a b)) ∧ Below w.heap.size w w' := by
 cases ha : tmB a
 ·
  have e : chkW a b = 8 := by
   have : ¬ (0 ≤ a ∧ a ≤ 1099511627776) := by rw [← tmB_true, ha]; simp
   unfold chkW; rw [if_neg (by rw [wnB_true]; omega)]
  rw [e]; clear e
  go_enter Tryz.func34, Tryz.ntmps34
  go_wp2_with (go_at_call 64; refine (tm_any _ _).mono ?_; rintro e w1 ⟨rfl, rfl⟩)
  go_ret
  exact ⟨rfl, below_new _ _⟩
 ·
  cases hb : tmB b
  ·
   have e : chkW a b = 8 := by
    have : ¬ (0 ≤ b ∧ b ≤ 1099511627776) := by rw [← tmB_true, hb]; simp
    unfold chkW; rw [if_neg (by rw [wnB_true]; omega)]
   rw [e]; clear e
   go_enter Tryz.func34, Tryz.ntmps34
   go_wp2_with (go_at_call 64; refine (tm_any _ _).mono ?_; rintro e w1 ⟨rfl, rfl⟩)
   go_ret
   exact ⟨rfl, below_new _ _⟩
  ·
   have h1 := tmB_true.1 ha
   have h2 := tmB_true.1 hb
   by_cases hc : a ≤ b
   ·
    have e : chkW a b = 0 := by unfold chkW; rw [if_pos (by rw [wnB_true]; omega)]
    rw [e]; clear e h1 h2
    go_enter Tryz.func34, Tryz.ntmps34
    go_wp2_with (go_at_call 64; refine (tm_any _ _).mono ?_; rintro e w1 ⟨rfl, rfl⟩)
    go_ret
    exact ⟨rfl, below_new _ _⟩
   ·
    have e : chkW a b = 8 := by unfold chkW; rw [if_neg (by rw [wnB_true]; omega)]
    rw [e]; clear e h1 h2
    go_enter Tryz.func34, Tryz.ntmps34
    go_wp2_with (go_at_call 64; refine (tm_any _ _).mono ?_; rintro e w1 ⟨rfl, rfl⟩)
    go_ret
    exact ⟨rfl, below_new _ _⟩
theorem rchk_any (a b : Int) (w : World) :
  Calls Tryz.prog 79 #[.agg #[.int .i64 a, .int .i64 b]] w fun e w' => e = .returned (.int .i64 (chkW a b)) ∧ Below w.heap.size w w' := by
 cases ha : tmB a
 ·
  have e : chkW a b = 8 := by
   have : ¬ (0 ≤ a ∧ a ≤ 1099511627776) := by rw [← tmB_true, ha]; simp
   unfold chkW; rw [if_neg (by rw [wnB_true]; omega)]
  rw [e]; clear e
  go_enter Tryz.func79, Tryz.ntmps79
  go_wp2_with (go_at_call 116; refine (rtm_any _ _).mono ?_; rintro e w1 ⟨rfl, rfl⟩)
  go_ret
  exact ⟨rfl, below_new _ _⟩
 ·
  cases hb : tmB b
  ·
   have e : chkW a b = 8 := by
    have : ¬ (0 ≤ b ∧ b ≤ 1099511627776) := by rw [← tmB_true, hb]; simp
    unfold chkW; rw [if_neg (by rw [wnB_true]; omega)]
   rw [e]; clear e
   go_enter Tryz.func79, Tryz.ntmps79
   go_wp2_with (go_at_call 116; refine (rtm_any _ _).mono ?_; rintro e w1 ⟨rfl, rfl⟩)
   go_ret
   exact ⟨rfl, below_new _ _⟩
  ·
   have h1 := tmB_true.1 ha
   have h2 := tmB_true.1 hb
   by_cases hc : a ≤ b
   ·
    have e : chkW a b = 0 := by unfold chkW; rw [if_pos (by rw [wnB_true]; omega)]
    rw [e]; clear e h1 h2
    go_enter Tryz.func79, Tryz.ntmps79
    go_wp2_with (go_at_call 116; refine (rtm_any _ _).mono ?_; rintro e w1 ⟨rfl, rfl⟩)
    go_ret
    exact ⟨rfl, below_new _ _⟩
   ·
    have e : chkW a b = 8 := by unfold chkW; rw [if_neg (by rw [wnB_true]; omega)]
    rw [e]; clear e h1 h2
    go_enter Tryz.func79, Tryz.ntmps79
    go_wp2_with (go_at_call 116; refine (rtm_any _ _).mono ?_; rintro e w1 ⟨rfl, rfl⟩)
    go_ret
    exact ⟨rfl, below_new _ _⟩
set_option maxRecDepth 100000 in
set_option maxHeartbeats 1000000 in
theorem isHeight_any (h : Int) (w : World) :
  Calls Tryz.prog 37 #[.int .i64 h] w fun e w' => e = .returned (.bool (decide (0 ≤ h ∧ h ≤ 4))) ∧ Below w.heap.size w w' := by
 have hz : Below w.heap.size w w := Below.refl _ _
 by_cases h1 : 0 ≤ h
 ·
  by_cases h2 : h ≤ 4
  ·
   rw [decide_eq_true ⟨h1, h2⟩]
   go_enter Tryz.func37, Tryz.ntmps37
   go_wp2_with fail
   go_ret
   exact ⟨rfl, hz⟩
  ·
   rw [decide_eq_false (fun hh => h2 hh.2)]
   go_enter Tryz.func37, Tryz.ntmps37
   go_wp2_with fail
   go_ret
   exact ⟨rfl, hz⟩
 ·
  rw [decide_eq_false (fun hh => h1 hh.1)]
  go_enter Tryz.func37, Tryz.ntmps37
  go_wp2_with fail
  go_ret
  exact ⟨rfl, hz⟩
theorem shl_any (h : Nat) (hh : h ≤ 4) : ∀ w : World, (Op.shift .shl .i64 1 .i64 (h : Int)).run Tryz.prog w = .ok (.int .i64 ((2 ^ h : Nat) : Int)) w := by
 intro w
 obtain rfl | rfl | rfl | rfl | rfl : h = 0 ∨ h = 1 ∨ h = 2 ∨ h = 3 ∨ h = 4 := by omega
 all_goals rfl
set_option maxRecDepth 100000 in
set_option maxHeartbeats 1000000 in
theorem isIndex_any (n : Int) (h : Nat) (hh : h ≤ 4) (w : World) :
  Calls Tryz.prog 69 #[.int .i64 n, .int .i64 (h : Int)] w fun e w' => e = .returned (.bool (decide (0 ≤ n ∧ n < ((2 ^ h : Nat) : Int)))) ∧ Below w.heap.size w w' := by
 have hz : Below w.heap.size w w := Below.refl _ _
 have hs := shl_any h hh
 obtain ⟨p, hp⟩ : ∃ p : Int, ((2 ^ h : Nat) : Int) = p := ⟨_, rfl⟩
 rw [hp] at hs ⊢
 obtain ⟨k, hk⟩ : ∃ k : Int, (h : Int) = k := ⟨_, rfl⟩
 rw [hk] at hs ⊢
 clear hk hp hh
 by_cases h1 : 0 ≤ n
 ·
  by_cases h2 : n < p
  ·
   rw [decide_eq_true ⟨h1, h2⟩]
   go_enter Tryz.func69, Tryz.ntmps69
   go_wp2_with fail
   go_ret
   exact ⟨rfl, hz⟩
  ·
   rw [decide_eq_false (fun hh => h2 hh.2)]
   go_enter Tryz.func69, Tryz.ntmps69
   go_wp2_with fail
   go_ret
   exact ⟨rfl, hz⟩
 ·
  rw [decide_eq_false (fun hh => h1 hh.1)]
  go_enter Tryz.func69, Tryz.ntmps69
  go_wp2_with fail
  go_ret
  exact ⟨rfl, hz⟩
def chkV (h n : Int) (cl pl : Nat) : Int :=
 if 0 ≤ h ∧ h ≤ 4 then (if (0 ≤ n ∧ n < ((2 ^ h.toNat : Nat) : Int)) ∧ cl = 35 ∧ (pl : Int) = h then 0 else 12) else 2
theorem isHeight_yes (h : Nat) (hh : h ≤ 4) (w : World) : Calls Tryz.prog 37 #[.int .i64 (h : Int)] w fun e w' => e = .returned (.bool true) ∧ Below w.heap.size w w' := by
 have h1 := isHeight_any (h : Int) w
 rw [decide_eq_true (by omega)] at h1
 exact h1
theorem isHeight_no (h : Int) (hh : ¬ (0 ≤ h ∧ h ≤ 4)) (w : World) : Calls Tryz.prog 37 #[.int .i64 h] w fun e w' => e = .returned (.bool false) ∧ Below w.heap.size w w' := by
 have h1 := isHeight_any h w
 rw [decide_eq_false hh] at h1
 exact h1
theorem isIndex_yes (n h : Nat) (hh : h ≤ 4) (hn : n < 2 ^ h) (w : World) : Calls Tryz.prog 69 #[.int .i64 (n : Int), .int .i64 (h : Int)] w fun e w' => e = .returned (.bool true) ∧ Below w.heap.size w w' := by
 have h1 := isIndex_any (n : Int) h hh w
 rw [decide_eq_true ⟨by omega, by exact_mod_cast hn⟩] at h1
 exact h1
theorem isIndex_no (n : Int) (h : Nat) (hh : h ≤ 4) (hn : ¬ (0 ≤ n ∧ n < ((2 ^ h : Nat) : Int))) (w : World) : Calls Tryz.prog 69 #[.int .i64 n, .int .i64 (h : Int)] w fun e w' => e = .returned (.bool false) ∧ Below w.heap.size w w' := by
 have h1 := isIndex_any n h hh w
 rw [decide_eq_false hn] at h1
 exact h1
set_option maxRecDepth 100000 in
set_option maxHeartbeats 1000000 in
theorem check_any (h n : Int) (CA PA : Option Addr) (cl cc pl pc : Nat) (w : World) :
  Calls Tryz.prog 65 #[.int .i64 h, .agg #[.int .i64 n, .slice CA cl cc, .slice PA pl pc]] w fun e w' => e = .returned (.int .i64 (chkV h n cl pl)) ∧ Below w.heap.size w w' := by
 have hb0 := below_new w (.cells #[.int .i64 n, .slice CA cl cc, .slice PA pl pc] 30)
 have HB0 := Lib.hid hb0
 clear hb0
 by_cases hh : 0 ≤ h ∧ h ≤ 4
 ·
  obtain ⟨k, rfl⟩ : ∃ k : Nat, h = (k : Int) := ⟨h.toNat, by omega⟩
  have hk : k ≤ 4 := by omega
  have IH := Lib.hid (fun (V : World) => isHeight_yes k hk V)
  by_cases hn : 0 ≤ n ∧ n < ((2 ^ k : Nat) : Int)
  ·
   have II : RowKit.Hid (∀ V : World, Calls Tryz.prog 69 #[.int .i64 n, .int .i64 (k : Int)] V fun e w' => e = .returned (.bool true) ∧ Below V.heap.size V w') := Lib.hid (fun V => by
    obtain ⟨m, rfl⟩ : ∃ m : Nat, n = (m : Int) := ⟨n.toNat, by omega⟩
    exact isIndex_yes m k hk (by omega) V)
   by_cases hc : cl = 35
   ·
    by_cases hp : (pl : Int) = (k : Int)
    ·
     have hv : chkV (k : Int) n cl pl = 0 := by unfold chkV; rw [if_pos hh, if_pos ⟨hn, hc, hp⟩]
     rw [hv]
     have hne1 : (((cl : Nat) : Int) != 35) = false := by simp; omega
     have hne : (((pl : Nat) : Int) != (k : Int)) = false := by simp [hp]
     obtain ⟨ki, hki⟩ : ∃ ki : Int, (k : Int) = ki := ⟨_, rfl⟩
     rw [hki] at IH II hne ⊢
     clear hv hp hh hn hc hki hk
     go_enter Tryz.func65, Tryz.ntmps65
     go_wp2_with fail
     refine (IH.out _).mono ?_
     rintro e w1 ⟨rfl, hb1⟩
     have HB1 := Lib.hid (chain HB0.out hb1)
     have HR1 := Lib.hid ((hb1.block w.heap.size (by simp)).trans (heap_alloc_new _ _))
     clear hb1 HB0
     have hc0 := cell_of_row _ _ 0 _ _ _ HR1.out
     have hc1 := cell_of_row _ _ 1 _ _ _ HR1.out
     have hc2 := cell_of_row _ _ 2 _ _ _ HR1.out
     simp only [List.getElem?_toArray, List.getElem?_cons_zero, List.getElem?_cons_succ] at hc0 hc1 hc2
     have hlt1 : w.heap.size < w1.heap.size := (Array.getElem?_eq_some_iff.1 HR1.out).1
     go_wp2_with fail
     refine (II.out _).mono ?_
     rintro e w2 ⟨rfl, hb2⟩
     have HB2 := Lib.hid (chain HB1.out hb2)
     have hd0 : w2.cell? ⟨w.heap.size, 0, none⟩ = some (.int .i64 n) := by rw [hb2.cell (p := ⟨w.heap.size, 0, none⟩) hlt1]; exact hc0
     have hd1 : w2.cell? ⟨w.heap.size, 1, none⟩ = some (.slice CA cl cc) := by rw [hb2.cell (p := ⟨w.heap.size, 1, none⟩) hlt1]; exact hc1
     have hd2 : w2.cell? ⟨w.heap.size, 2, none⟩ = some (.slice PA pl pc) := by rw [hb2.cell (p := ⟨w.heap.size, 2, none⟩) hlt1]; exact hc2
     clear hc0 hc1 hc2 hb2 HB1 HR1
     go_wp2_with fail
     go_ret
     exact ⟨rfl, HB2.out⟩
    ·
     have hv : chkV (k : Int) n cl pl = 12 := by unfold chkV; rw [if_pos hh, if_neg (fun h => hp h.2.2)]
     rw [hv]
     have hne1 : (((cl : Nat) : Int) != 35) = false := by simp; omega
     have hne : (((pl : Nat) : Int) != (k : Int)) = true := by simp; omega
     obtain ⟨ki, hki⟩ : ∃ ki : Int, (k : Int) = ki := ⟨_, rfl⟩
     rw [hki] at IH II hne ⊢
     clear hv hp hh hn hc hki hk
     go_enter Tryz.func65, Tryz.ntmps65
     go_wp2_with fail
     refine (IH.out _).mono ?_
     rintro e w1 ⟨rfl, hb1⟩
     have HB1 := Lib.hid (chain HB0.out hb1)
     have HR1 := Lib.hid ((hb1.block w.heap.size (by simp)).trans (heap_alloc_new _ _))
     clear hb1 HB0
     have hc0 := cell_of_row _ _ 0 _ _ _ HR1.out
     have hc1 := cell_of_row _ _ 1 _ _ _ HR1.out
     have hc2 := cell_of_row _ _ 2 _ _ _ HR1.out
     simp only [List.getElem?_toArray, List.getElem?_cons_zero, List.getElem?_cons_succ] at hc0 hc1 hc2
     have hlt1 : w.heap.size < w1.heap.size := (Array.getElem?_eq_some_iff.1 HR1.out).1
     go_wp2_with fail
     refine (II.out _).mono ?_
     rintro e w2 ⟨rfl, hb2⟩
     have HB2 := Lib.hid (chain HB1.out hb2)
     have hd0 : w2.cell? ⟨w.heap.size, 0, none⟩ = some (.int .i64 n) := by rw [hb2.cell (p := ⟨w.heap.size, 0, none⟩) hlt1]; exact hc0
     have hd1 : w2.cell? ⟨w.heap.size, 1, none⟩ = some (.slice CA cl cc) := by rw [hb2.cell (p := ⟨w.heap.size, 1, none⟩) hlt1]; exact hc1
     have hd2 : w2.cell? ⟨w.heap.size, 2, none⟩ = some (.slice PA pl pc) := by rw [hb2.cell (p := ⟨w.heap.size, 2, none⟩) hlt1]; exact hc2
     clear hc0 hc1 hc2 hb2 HB1 HR1
     go_wp2_with fail
     go_ret
     exact ⟨rfl, HB2.out⟩
   ·
    have hv : chkV (k : Int) n cl pl = 12 := by unfold chkV; rw [if_pos hh, if_neg (fun h => hc h.2.1)]
    rw [hv]
    have hne1 : (((cl : Nat) : Int) != 35) = true := by simp; omega
    obtain ⟨ki, hki⟩ : ∃ ki : Int, (k : Int) = ki := ⟨_, rfl⟩
    rw [hki] at IH II ⊢
    clear hv hh hn hc hki hk
    go_enter Tryz.func65, Tryz.ntmps65
    go_wp2_with fail
    refine (IH.out _).mono ?_
    rintro e w1 ⟨rfl, hb1⟩
    have HB1 := Lib.hid (chain HB0.out hb1)
    have HR1 := Lib.hid ((hb1.block w.heap.size (by simp)).trans (heap_alloc_new _ _))
    clear hb1 HB0
    have hc0 := cell_of_row _ _ 0 _ _ _ HR1.out
    have hc1 := cell_of_row _ _ 1 _ _ _ HR1.out
    have hc2 := cell_of_row _ _ 2 _ _ _ HR1.out
    simp only [List.getElem?_toArray, List.getElem?_cons_zero, List.getElem?_cons_succ] at hc0 hc1 hc2
    have hlt1 : w.heap.size < w1.heap.size := (Array.getElem?_eq_some_iff.1 HR1.out).1
    go_wp2_with fail
    refine (II.out _).mono ?_
    rintro e w2 ⟨rfl, hb2⟩
    have HB2 := Lib.hid (chain HB1.out hb2)
    have hd0 : w2.cell? ⟨w.heap.size, 0, none⟩ = some (.int .i64 n) := by rw [hb2.cell (p := ⟨w.heap.size, 0, none⟩) hlt1]; exact hc0
    have hd1 : w2.cell? ⟨w.heap.size, 1, none⟩ = some (.slice CA cl cc) := by rw [hb2.cell (p := ⟨w.heap.size, 1, none⟩) hlt1]; exact hc1
    have hd2 : w2.cell? ⟨w.heap.size, 2, none⟩ = some (.slice PA pl pc) := by rw [hb2.cell (p := ⟨w.heap.size, 2, none⟩) hlt1]; exact hc2
    clear hc0 hc1 hc2 hb2 HB1 HR1
    go_wp2_with fail
    go_ret
    exact ⟨rfl, HB2.out⟩
  ·
   have hv : chkV (k : Int) n cl pl = 12 := by unfold chkV; rw [if_pos hh, if_neg (fun h => hn h.1)]
   rw [hv]
   have II := Lib.hid (fun (V : World) => isIndex_no n k hk hn V)
   obtain ⟨ki, hki⟩ : ∃ ki : Int, (k : Int) = ki := ⟨_, rfl⟩
   rw [hki] at IH II ⊢
   clear hv hh hn hki hk
   go_enter Tryz.func65, Tryz.ntmps65
   go_wp2_with fail
   refine (IH.out _).mono ?_
   rintro e w1 ⟨rfl, hb1⟩
   have HB1 := Lib.hid (chain HB0.out hb1)
   have HR1 := Lib.hid ((hb1.block w.heap.size (by simp)).trans (heap_alloc_new _ _))
   clear hb1 HB0
   have hc0 := cell_of_row _ _ 0 _ _ _ HR1.out
   have hc1 := cell_of_row _ _ 1 _ _ _ HR1.out
   have hc2 := cell_of_row _ _ 2 _ _ _ HR1.out
   simp only [List.getElem?_toArray, List.getElem?_cons_zero, List.getElem?_cons_succ] at hc0 hc1 hc2
   have hlt1 : w.heap.size < w1.heap.size := (Array.getElem?_eq_some_iff.1 HR1.out).1
   go_wp2_with fail
   refine (II.out _).mono ?_
   rintro e w2 ⟨rfl, hb2⟩
   have HB2 := Lib.hid (chain HB1.out hb2)
   have hd0 : w2.cell? ⟨w.heap.size, 0, none⟩ = some (.int .i64 n) := by rw [hb2.cell (p := ⟨w.heap.size, 0, none⟩) hlt1]; exact hc0
   have hd1 : w2.cell? ⟨w.heap.size, 1, none⟩ = some (.slice CA cl cc) := by rw [hb2.cell (p := ⟨w.heap.size, 1, none⟩) hlt1]; exact hc1
   have hd2 : w2.cell? ⟨w.heap.size, 2, none⟩ = some (.slice PA pl pc) := by rw [hb2.cell (p := ⟨w.heap.size, 2, none⟩) hlt1]; exact hc2
   clear hc0 hc1 hc2 hb2 HB1 HR1
   go_wp2_with fail
   go_ret
   exact ⟨rfl, HB2.out⟩
 ·
  have hv : chkV h n cl pl = 2 := by unfold chkV; rw [if_neg hh]
  rw [hv]
  have IH := Lib.hid (fun (V : World) => isHeight_no h hh V)
  clear hv hh
  go_enter Tryz.func65, Tryz.ntmps65
  go_wp2_with fail
  refine (IH.out _).mono ?_
  rintro e w1 ⟨rfl, hb1⟩
  have HB1 := Lib.hid (chain HB0.out hb1)
  have HR1 := Lib.hid ((hb1.block w.heap.size (by simp)).trans (heap_alloc_new _ _))
  clear hb1 HB0
  go_wp2_with fail
  go_ret
  exact ⟨rfl, HB1.out⟩
set_option maxRecDepth 100000 in
set_option maxHeartbeats 1000000 in
theorem power_ref (h : Nat) (hh : h ≤ 4) (w : World) :
  Calls Tryz.prog 81 #[.int .i64 (h : Int)] w fun e w' => e = .returned (.int .i64 ((2 ^ h : Nat) : Int)) ∧ Below w.heap.size w w' := by
 have hP0 : 2 ^ 0 = 1 := rfl
 have hPs : ∀ k, 2 ^ (k + 1) = 2 ^ k + 2 ^ k := fun k => by rw [Nat.pow_succ]; omega
 have hPm : ∀ k, k ≤ h → 2 ^ k ≤ 16 := fun k hk => by
  have := Nat.pow_le_pow_right (show 0 < 2 by decide) (show k ≤ 4 by omega)
  simpa using this
 obtain ⟨P, hP⟩ : ∃ P : Nat → Nat, ∀ k, 2 ^ k = P k := ⟨_, fun _ => rfl⟩
 simp only [hP] at hP0 hPs hPm ⊢
 have HP0 := Lib.hid hP0
 have HPS := Lib.hid hPs
 have HPM := Lib.hid hPm
 have HZ := Lib.hid (Below.refl w.heap.size w)
 have HH := Lib.hid hh
 clear hP0 hPs hPm hP hh
 go_enter Tryz.func81, Tryz.ntmps81
 go_wp2_with fail
 go_loopw [3, 4] (fun nn ix wr => ∃ k : Nat, k ≤ h ∧ ix = .int .i64 (k : Int) ∧ nn = .int .i64 (P k : Int) ∧ RowKit.Hid (Below w.heap.size w wr)) (fun _ ix _ => h - (intOf ix).toNat)
 case atStart => exact ⟨0, by omega, rfl, by rw [HP0.out]; rfl, HZ⟩
 case round =>
  clear HZ
  obtain ⟨k, hk, rfl, rfl, HB⟩ := hrel
  by_cases hlt : k < h
  ·
   have hki : (k : Int) < (h : Int) := by omega
   have h4 := HH.out
   have h5 := HPM.out k hk
   go_wp2_with fail
   refine ⟨⟨k + 1, by omega, by go_num, ?_, HB⟩, by simp [intOf]; omega⟩
   rw [HPS.out k]
   go_num
  ·
   have hkk : k = h := by omega
   subst hkk
   have hge : ¬ (k : Int) < (k : Int) := by omega
   go_wp2_with fail
   go_ret
   exact ⟨rfl, HB.out⟩
set_option maxRecDepth 100000 in
set_option maxHeartbeats 4000000 in
theorem check_ref (h n : Int) (CA PA : Option Addr) (cl cc pl pc : Nat) (w : World) :
  Calls Tryz.prog 118 #[.int .i64 h, .agg #[.int .i64 n, .slice CA cl cc, .slice PA pl pc]] w fun e w' => e = .returned (.int .i64 (chkV h n cl pl)) ∧ Below w.heap.size w w' := by
 by_cases hh : 0 ≤ h ∧ h ≤ 4
 ·
  obtain ⟨k, rfl⟩ : ∃ k : Nat, h = (k : Int) := ⟨h.toNat, by omega⟩
  have hk : k ≤ 4 := by omega
  by_cases hn0 : 0 ≤ n
  ·
   by_cases hnp : n < ((2 ^ (k : Int).toNat : Nat) : Int)
   ·
    by_cases hc : cl = 35
    ·
     by_cases hp0 : (pl : Int) = (k : Int)
     ·
      have hv : chkV (k : Int) n cl pl = 0 := by unfold chkV; rw [if_pos hh, if_pos ⟨⟨by omega, by omega⟩, hc, hp0⟩]
      rw [hv]
      have hk0 : ¬ (k : Int) < 0 := by omega
      have hk5 : ¬ (4 : Int) < (k : Int) := by omega
      have hn1 : ¬ n < 0 := by omega
      have hn2 : ¬ ((2 ^ k : Nat) : Int) ≤ n := by rw [Int.toNat_natCast] at hnp; omega
      have PW := Lib.hid (fun (V : World) => power_ref k hk V)
      obtain ⟨p, hp⟩ : ∃ p : Int, ((2 ^ k : Nat) : Int) = p := ⟨_, rfl⟩
      rw [hp] at hn2 PW
      have hne1 : (((cl : Nat) : Int) != 35) = false := by simp; omega
      have hne : (((pl : Nat) : Int) != (k : Int)) = false := by simp [hp0]
      obtain ⟨ki, hki⟩ : ∃ ki : Int, (k : Int) = ki := ⟨_, rfl⟩
      rw [hki] at hk0 hk5 PW hne ⊢
      clear hv hh hki hk hn0 hnp hp hc hp0
      go_enter Tryz.func118, Tryz.ntmps118
      go_upto_region 3 with (fail)
      generalize hV : World.alloc w _ = V
      have hb0 : Below w.heap.size w V := by rw [← hV]; exact below_new _ _
      have hr : V.heap[w.heap.size]? = some (.cells #[.int .i64 n, .slice CA cl cc, .slice PA pl pc] 30 (0, 0)) := by rw [← hV]; exact heap_alloc_new _ _
      have HB0 := Lib.hid hb0
      have HR := Lib.hid hr
      have mkS : ∀ z, Below V.heap.size V z → Below V.heap.size V z ∧ z.cell? ⟨w.heap.size, 0, none⟩ = some (.int .i64 n) ∧ z.cell? ⟨w.heap.size, 1, none⟩ = some (.slice CA cl cc) ∧ z.cell? ⟨w.heap.size, 2, none⟩ = some (.slice PA pl pc) := fun z hz => ⟨hz, (facts3 (row_on HR.out hz)).2⟩
      clear hV hb0 hr
      refine wp_region_held_drew (S := fun z => Below V.heap.size V z ∧ z.cell? ⟨w.heap.size, 0, none⟩ = some (.int .i64 n) ∧ z.cell? ⟨w.heap.size, 1, none⟩ = some (.slice CA cl cc) ∧ z.cell? ⟨w.heap.size, 2, none⟩ = some (.slice PA pl pc)) (by kernel_rfl) (mkS _ (Below.refl _ _).drew) (fun hHeld => ?_)
      refine wpAnyH_take (i := 0) (oi := { dst := some 11, op := .fieldAddr 30 (.tmp 3) 0, type := 0, pos := "ref.go:82", after := #[], guard := none }) (v := ?_) rfl (by kernel_rfl) (by kernel_rfl) (by kernel_rfl) (fun _ _ _ h => h) (Or.inl ⟨by rfl, ?_⟩) hHeld ?_
      rotate_left
      ·
       intro w hSw
       clear hSw
       go_simp
       try with_reducible rfl
      try simp only [Act.put, List.setIfInBounds_toArray, List.set_cons_zero, List.set_cons_succ]
      refine wpAnyH_take (i := 1) (oi := { dst := some 12, op := .load 3 (.tmp 11), type := 3, pos := "ref.go:82", after := #[{ on := 0, ground := .data }], guard := none }) (v := ?_) rfl (by kernel_rfl) (by kernel_rfl) (by kernel_rfl) (fun _ _ _ h => h) (Or.inl ⟨by rfl, ?_⟩) hHeld ?_
      rotate_left
      ·
       intro w hSw
       have hfc0 := hSw.2.1
       clear hSw
       go_simp
       try with_reducible rfl
      try simp only [Act.put, List.setIfInBounds_toArray, List.set_cons_zero, List.set_cons_succ]
      refine wpAnyH_take (i := 2) (oi := { dst := some 13, op := .binOp .lss 3 (.tmp 12) (.const (.int .i64 0)) 3, type := 4, pos := "ref.go:82", after := #[{ on := 1, ground := .data }], guard := none }) (v := ?_) rfl (by kernel_rfl) (by kernel_rfl) (by kernel_rfl) (fun _ _ _ h => h) (Or.inl ⟨by rfl, ?_⟩) hHeld ?_
      rotate_left
      ·
       intro w hSw
       clear hSw
       go_simp
       try with_reducible rfl
      try simp only [Act.put, List.setIfInBounds_toArray, List.set_cons_zero, List.set_cons_succ]
      refine wpAnyH_take (i := 3) (oi := { dst := some 14, op := .move (.tmp 13), type := 4, pos := "ref.go:82", after := #[{ on := 2, ground := .data }], guard := none }) (v := ?_) rfl (by kernel_rfl) (by kernel_rfl) (by kernel_rfl) (fun _ _ _ h => h) (Or.inl ⟨by rfl, ?_⟩) hHeld ?_
      rotate_left
      ·
       intro w hSw
       clear hSw
       go_simp
       try with_reducible rfl
      try simp only [Act.put, List.setIfInBounds_toArray, List.set_cons_zero, List.set_cons_succ]
      refine wpAnyH_take (i := 4) (oi := { dst := some 15, op := .fieldAddr 30 (.tmp 3) 0, type := 0, pos := "ref.go:82", after := #[{ on := 3, ground := .guard }], guard := some (3, false) }) (v := ?_) rfl (by kernel_rfl) (by kernel_rfl) (by kernel_rfl) (fun _ _ _ h => h) (Or.inl ⟨by rfl, ?_⟩) hHeld ?_
      rotate_left
      ·
       intro w hSw
       clear hSw
       go_simp
       try with_reducible rfl
      try simp only [Act.put, List.setIfInBounds_toArray, List.set_cons_zero, List.set_cons_succ]
      refine wpAnyH_take (i := 5) (oi := { dst := some 16, op := .load 3 (.tmp 15), type := 3, pos := "ref.go:82", after := #[{ on := 4, ground := .data }, { on := 3, ground := .guard }], guard := some (3, false) }) (v := ?_) rfl (by kernel_rfl) (by kernel_rfl) (by kernel_rfl) (fun _ _ _ h => h) (Or.inl ⟨by rfl, ?_⟩) hHeld ?_
      rotate_left
      ·
       intro w hSw
       have hfc0 := hSw.2.1
       clear hSw
       go_simp
       try with_reducible rfl
      try simp only [Act.put, List.setIfInBounds_toArray, List.set_cons_zero, List.set_cons_succ]
      refine wpAnyH_take (i := 6) (oi := { dst := some 17, op := .move (.tmp 0), type := 3, pos := "ref.go:82", after := #[{ on := 3, ground := .guard }], guard := some (3, false) }) (v := ?_) rfl (by kernel_rfl) (by kernel_rfl) (by kernel_rfl) (fun _ _ _ h => h) (Or.inl ⟨by rfl, ?_⟩) hHeld ?_
      rotate_left
      ·
       intro w hSw
       clear hSw
       go_simp
       try with_reducible rfl
      try simp only [Act.put, List.setIfInBounds_toArray, List.set_cons_zero, List.set_cons_succ]
      refine wpAnyH_ready (rs := [7]) (by kernel_rfl) (by simp) (AllReadyH.cons (o := { dst := some 18, op := .call { callee := .value (.func 81), args := #[.tmp 17], argTypes := #[3] }, type := 3, pos := "ref.go:82", after := #[{ on := 6, ground := .data }, { on := 3, ground := .chain }, { on := 3, ground := .guard }], guard := some (3, false) }) rfl (fun K hK => ?_) AllReadyH.nil)
      go_simp
      refine (PW.out _).mono ?_
      rintro e w8 ⟨rfl, hb8⟩
      go_simp
      refine hK.out _ _ (mkS _ (chain hHeld.1 hb8)) (fun hHeld2 => ?_)
      clear hK K
      have hHeldP := hHeld.1
      clear hHeld
      have hHeld := hHeld2
      clear hHeld2 hHeldP hb8
      try simp only [Act.put, List.setIfInBounds_toArray, List.set_cons_zero, List.set_cons_succ]
      refine wpAnyH_take (i := 8) (oi := { dst := some 19, op := .binOp .geq 3 (.tmp 16) (.tmp 18) 3, type := 4, pos := "ref.go:82", after := #[{ on := 5, ground := .data }, { on := 7, ground := .data }, { on := 3, ground := .guard }], guard := some (3, false) }) (v := ?_) rfl (by kernel_rfl) (by kernel_rfl) (by kernel_rfl) (fun _ _ _ h => h) (Or.inl ⟨by rfl, ?_⟩) hHeld ?_
      rotate_left
      ·
       intro w hSw
       clear hSw
       go_simp
       try with_reducible rfl
      try simp only [Act.put, List.setIfInBounds_toArray, List.set_cons_zero, List.set_cons_succ]
      refine wpAnyH_take (i := 9) (oi := { dst := some 20, op := .pick (.tmp 14) (.const (.bool true)) (.tmp 19), type := 4, pos := "ref.go:82", after := #[{ on := 3, ground := .data }, { on := 8, ground := .data }], guard := none }) (v := ?_) rfl (by kernel_rfl) (by kernel_rfl) (by kernel_rfl) (fun _ _ _ h => h) (Or.inl ⟨by rfl, ?_⟩) hHeld ?_
      rotate_left
      ·
       intro w hSw
       clear hSw
       go_simp
       try with_reducible rfl
      try simp only [Act.put, List.setIfInBounds_toArray, List.set_cons_zero, List.set_cons_succ]
      refine wpAnyH_take (i := 10) (oi := { dst := some 21, op := .move (.tmp 20), type := 4, pos := "ref.go:82", after := #[{ on := 9, ground := .data }, { on := 7, ground := .chain }], guard := none }) (v := ?_) rfl (by kernel_rfl) (by kernel_rfl) (by kernel_rfl) (fun _ _ _ h => h) (Or.inl ⟨by rfl, ?_⟩) hHeld ?_
      rotate_left
      ·
       intro w hSw
       clear hSw
       go_simp
       try with_reducible rfl
      try simp only [Act.put, List.setIfInBounds_toArray, List.set_cons_zero, List.set_cons_succ]
      refine wpAnyH_take (i := 11) (oi := { dst := some 22, op := .fieldAddr 30 (.tmp 3) 1, type := 0, pos := "ref.go:82", after := #[{ on := 10, ground := .guard }], guard := some (10, false) }) (v := ?_) rfl (by kernel_rfl) (by kernel_rfl) (by kernel_rfl) (fun _ _ _ h => h) (Or.inl ⟨by rfl, ?_⟩) hHeld ?_
      rotate_left
      ·
       intro w hSw
       clear hSw
       go_simp
       try with_reducible rfl
      try simp only [Act.put, List.setIfInBounds_toArray, List.set_cons_zero, List.set_cons_succ]
      refine wpAnyH_take (i := 12) (oi := { dst := some 23, op := .load 28 (.tmp 22), type := 28, pos := "ref.go:82", after := #[{ on := 11, ground := .data }, { on := 10, ground := .guard }], guard := some (10, false) }) (v := ?_) rfl (by kernel_rfl) (by kernel_rfl) (by kernel_rfl) (fun _ _ _ h => h) (Or.inl ⟨by rfl, ?_⟩) hHeld ?_
      rotate_left
      ·
       intro w hSw
       have hfc0 := hSw.2.2.1
       clear hSw
       go_simp
       try with_reducible rfl
      try simp only [Act.put, List.setIfInBounds_toArray, List.set_cons_zero, List.set_cons_succ]
      refine wpAnyH_take (i := 13) (oi := { dst := some 24, op := .call { callee := .builtin .len, args := #[.tmp 23], argTypes := #[28] }, type := 3, pos := "ref.go:82", after := #[{ on := 12, ground := .data }, { on := 10, ground := .guard }], guard := some (10, false) }) (v := ?_) rfl (by kernel_rfl) (by kernel_rfl) (by kernel_rfl) (fun _ _ _ h => h) (Or.inl ⟨by rfl, ?_⟩) hHeld ?_
      rotate_left
      ·
       intro w hSw
       clear hSw
       go_simp
       try with_reducible rfl
      try simp only [Act.put, List.setIfInBounds_toArray, List.set_cons_zero, List.set_cons_succ]
      refine wpAnyH_take (i := 14) (oi := { dst := some 25, op := .binOp .neq 3 (.tmp 24) (.const (.int .i64 35)) 3, type := 4, pos := "ref.go:82", after := #[{ on := 13, ground := .data }, { on := 10, ground := .guard }], guard := some (10, false) }) (v := ?_) rfl (by kernel_rfl) (by kernel_rfl) (by kernel_rfl) (fun _ _ _ h => h) (Or.inl ⟨by rfl, ?_⟩) hHeld ?_
      rotate_left
      ·
       intro w hSw
       clear hSw
       go_simp
       try with_reducible rfl
      try simp only [Act.put, List.setIfInBounds_toArray, List.set_cons_zero, List.set_cons_succ]
      refine wpAnyH_take (i := 15) (oi := { dst := some 26, op := .pick (.tmp 21) (.const (.bool true)) (.tmp 25), type := 4, pos := "ref.go:82", after := #[{ on := 10, ground := .data }, { on := 14, ground := .data }], guard := none }) (v := ?_) rfl (by kernel_rfl) (by kernel_rfl) (by kernel_rfl) (fun _ _ _ h => h) (Or.inl ⟨by rfl, ?_⟩) hHeld ?_
      rotate_left
      ·
       intro w hSw
       clear hSw
       go_simp
       try with_reducible rfl
      try simp only [Act.put, List.setIfInBounds_toArray, List.set_cons_zero, List.set_cons_succ]
      refine wpAnyH_take (i := 16) (oi := { dst := some 27, op := .move (.tmp 26), type := 4, pos := "ref.go:82", after := #[{ on := 15, ground := .data }, { on := 10, ground := .chain }], guard := none }) (v := ?_) rfl (by kernel_rfl) (by kernel_rfl) (by kernel_rfl) (fun _ _ _ h => h) (Or.inl ⟨by rfl, ?_⟩) hHeld ?_
      rotate_left
      ·
       intro w hSw
       clear hSw
       go_simp
       try with_reducible rfl
      try simp only [Act.put, List.setIfInBounds_toArray, List.set_cons_zero, List.set_cons_succ]
      refine wpAnyH_take (i := 17) (oi := { dst := some 28, op := .fieldAddr 30 (.tmp 3) 2, type := 0, pos := "ref.go:82", after := #[{ on := 16, ground := .guard }], guard := some (16, false) }) (v := ?_) rfl (by kernel_rfl) (by kernel_rfl) (by kernel_rfl) (fun _ _ _ h => h) (Or.inl ⟨by rfl, ?_⟩) hHeld ?_
      rotate_left
      ·
       intro w hSw
       clear hSw
       go_simp
       try with_reducible rfl
      try simp only [Act.put, List.setIfInBounds_toArray, List.set_cons_zero, List.set_cons_succ]
      refine wpAnyH_take (i := 18) (oi := { dst := some 29, op := .load 28 (.tmp 28), type := 28, pos := "ref.go:82", after := #[{ on := 17, ground := .data }, { on := 16, ground := .guard }], guard := some (16, false) }) (v := ?_) rfl (by kernel_rfl) (by kernel_rfl) (by kernel_rfl) (fun _ _ _ h => h) (Or.inl ⟨by rfl, ?_⟩) hHeld ?_
      rotate_left
      ·
       intro w hSw
       have hfc0 := hSw.2.2.2
       clear hSw
       go_simp
       try with_reducible rfl
      try simp only [Act.put, List.setIfInBounds_toArray, List.set_cons_zero, List.set_cons_succ]
      refine wpAnyH_take (i := 19) (oi := { dst := some 30, op := .call { callee := .builtin .len, args := #[.tmp 29], argTypes := #[28] }, type := 3, pos := "ref.go:82", after := #[{ on := 18, ground := .data }, { on := 16, ground := .guard }], guard := some (16, false) }) (v := ?_) rfl (by kernel_rfl) (by kernel_rfl) (by kernel_rfl) (fun _ _ _ h => h) (Or.inl ⟨by rfl, ?_⟩) hHeld ?_
      rotate_left
      ·
       intro w hSw
       clear hSw
       go_simp
       try with_reducible rfl
      try simp only [Act.put, List.setIfInBounds_toArray, List.set_cons_zero, List.set_cons_succ]
      refine wpAnyH_take (i := 20) (oi := { dst := some 31, op := .move (.tmp 0), type := 3, pos := "ref.go:82", after := #[{ on := 16, ground := .guard }], guard := some (16, false) }) (v := ?_) rfl (by kernel_rfl) (by kernel_rfl) (by kernel_rfl) (fun _ _ _ h => h) (Or.inl ⟨by rfl, ?_⟩) hHeld ?_
      rotate_left
      ·
       intro w hSw
       clear hSw
       go_simp
       try with_reducible rfl
      try simp only [Act.put, List.setIfInBounds_toArray, List.set_cons_zero, List.set_cons_succ]
      refine wpAnyH_take (i := 21) (oi := { dst := some 32, op := .binOp .neq 3 (.tmp 30) (.tmp 31) 3, type := 4, pos := "ref.go:82", after := #[{ on := 19, ground := .data }, { on := 20, ground := .data }, { on := 16, ground := .guard }], guard := some (16, false) }) (v := ?_) rfl (by kernel_rfl) (by kernel_rfl) (by kernel_rfl) (fun _ _ _ h => h) (Or.inl ⟨by rfl, ?_⟩) hHeld ?_
      rotate_left
      ·
       intro w hSw
       clear hSw
       go_simp
       try with_reducible rfl
      try simp only [Act.put, List.setIfInBounds_toArray, List.set_cons_zero, List.set_cons_succ]
      refine wpAnyH_take (i := 22) (oi := { dst := some 33, op := .pick (.tmp 27) (.const (.bool true)) (.tmp 32), type := 4, pos := "ref.go:82", after := #[{ on := 16, ground := .data }, { on := 21, ground := .data }], guard := none }) (v := ?_) rfl (by kernel_rfl) (by kernel_rfl) (by kernel_rfl) (fun _ _ _ h => h) (Or.inl ⟨by rfl, ?_⟩) hHeld ?_
      rotate_left
      ·
       intro w hSw
       clear hSw
       go_simp
       try with_reducible rfl
      try simp only [Act.put, List.setIfInBounds_toArray, List.set_cons_zero, List.set_cons_succ]
      refine wpAnyH_done (by kernel_rfl) ?_ _
      have hBe := chain HB0.out hHeld.1
      go_wp2_with fail
      go_ret
      exact ⟨rfl, hBe⟩
     ·
      have hv : chkV (k : Int) n cl pl = 12 := by unfold chkV; rw [if_pos hh, if_neg (fun h => hp0 h.2.2)]
      rw [hv]
      have hk0 : ¬ (k : Int) < 0 := by omega
      have hk5 : ¬ (4 : Int) < (k : Int) := by omega
      have hn1 : ¬ n < 0 := by omega
      have hn2 : ¬ ((2 ^ k : Nat) : Int) ≤ n := by rw [Int.toNat_natCast] at hnp; omega
      have PW := Lib.hid (fun (V : World) => power_ref k hk V)
      obtain ⟨p, hp⟩ : ∃ p : Int, ((2 ^ k : Nat) : Int) = p := ⟨_, rfl⟩
      rw [hp] at hn2 PW
      have hne1 : (((cl : Nat) : Int) != 35) = false := by simp; omega
      have hne : (((pl : Nat) : Int) != (k : Int)) = true := by simp; omega
      obtain ⟨ki, hki⟩ : ∃ ki : Int, (k : Int) = ki := ⟨_, rfl⟩
      rw [hki] at hk0 hk5 PW hne ⊢
      clear hv hh hki hk hn0 hnp hp hc hp0
      go_enter Tryz.func118, Tryz.ntmps118
      go_upto_region 3 with (fail)
      generalize hV : World.alloc w _ = V
      have hb0 : Below w.heap.size w V := by rw [← hV]; exact below_new _ _
      have hr : V.heap[w.heap.size]? = some (.cells #[.int .i64 n, .slice CA cl cc, .slice PA pl pc] 30 (0, 0)) := by rw [← hV]; exact heap_alloc_new _ _
      have HB0 := Lib.hid hb0
      have HR := Lib.hid hr
      have mkS : ∀ z, Below V.heap.size V z → Below V.heap.size V z ∧ z.cell? ⟨w.heap.size, 0, none⟩ = some (.int .i64 n) ∧ z.cell? ⟨w.heap.size, 1, none⟩ = some (.slice CA cl cc) ∧ z.cell? ⟨w.heap.size, 2, none⟩ = some (.slice PA pl pc) := fun z hz => ⟨hz, (facts3 (row_on HR.out hz)).2⟩
      clear hV hb0 hr
      refine wp_region_held_drew (S := fun z => Below V.heap.size V z ∧ z.cell? ⟨w.heap.size, 0, none⟩ = some (.int .i64 n) ∧ z.cell? ⟨w.heap.size, 1, none⟩ = some (.slice CA cl cc) ∧ z.cell? ⟨w.heap.size, 2, none⟩ = some (.slice PA pl pc)) (by kernel_rfl) (mkS _ (Below.refl _ _).drew) (fun hHeld => ?_)
      refine wpAnyH_take (i := 0) (oi := { dst := some 11, op := .fieldAddr 30 (.tmp 3) 0, type := 0, pos := "ref.go:82", after := #[], guard := none }) (v := ?_) rfl (by kernel_rfl) (by kernel_rfl) (by kernel_rfl) (fun _ _ _ h => h) (Or.inl ⟨by rfl, ?_⟩) hHeld ?_
      rotate_left
      ·
       intro w hSw
       clear hSw
       go_simp
       try with_reducible rfl
      try simp only [Act.put, List.setIfInBounds_toArray, List.set_cons_zero, List.set_cons_succ]
      refine wpAnyH_take (i := 1) (oi := { dst := some 12, op := .load 3 (.tmp 11), type := 3, pos := "ref.go:82", after := #[{ on := 0, ground := .data }], guard := none }) (v := ?_) rfl (by kernel_rfl) (by kernel_rfl) (by kernel_rfl) (fun _ _ _ h => h) (Or.inl ⟨by rfl, ?_⟩) hHeld ?_
      rotate_left
      ·
       intro w hSw
       have hfc0 := hSw.2.1
       clear hSw
       go_simp
       try with_reducible rfl
      try simp only [Act.put, List.setIfInBounds_toArray, List.set_cons_zero, List.set_cons_succ]
      refine wpAnyH_take (i := 2) (oi := { dst := some 13, op := .binOp .lss 3 (.tmp 12) (.const (.int .i64 0)) 3, type := 4, pos := "ref.go:82", after := #[{ on := 1, ground := .data }], guard := none }) (v := ?_) rfl (by kernel_rfl) (by kernel_rfl) (by kernel_rfl) (fun _ _ _ h => h) (Or.inl ⟨by rfl, ?_⟩) hHeld ?_
      rotate_left
      ·
       intro w hSw
       clear hSw
       go_simp
       try with_reducible rfl
      try simp only [Act.put, List.setIfInBounds_toArray, List.set_cons_zero, List.set_cons_succ]
      refine wpAnyH_take (i := 3) (oi := { dst := some 14, op := .move (.tmp 13), type := 4, pos := "ref.go:82", after := #[{ on := 2, ground := .data }], guard := none }) (v := ?_) rfl (by kernel_rfl) (by kernel_rfl) (by kernel_rfl) (fun _ _ _ h => h) (Or.inl ⟨by rfl, ?_⟩) hHeld ?_
      rotate_left
      ·
       intro w hSw
       clear hSw
       go_simp
       try with_reducible rfl
      try simp only [Act.put, List.setIfInBounds_toArray, List.set_cons_zero, List.set_cons_succ]
      refine wpAnyH_take (i := 4) (oi := { dst := some 15, op := .fieldAddr 30 (.tmp 3) 0, type := 0, pos := "ref.go:82", after := #[{ on := 3, ground := .guard }], guard := some (3, false) }) (v := ?_) rfl (by kernel_rfl) (by kernel_rfl) (by kernel_rfl) (fun _ _ _ h => h) (Or.inl ⟨by rfl, ?_⟩) hHeld ?_
      rotate_left
      ·
       intro w hSw
       clear hSw
       go_simp
       try with_reducible rfl
      try simp only [Act.put, List.setIfInBounds_toArray, List.set_cons_zero, List.set_cons_succ]
      refine wpAnyH_take (i := 5) (oi := { dst := some 16, op := .load 3 (.tmp 15), type := 3, pos := "ref.go:82", after := #[{ on := 4, ground := .data }, { on := 3, ground := .guard }], guard := some (3, false) }) (v := ?_) rfl (by kernel_rfl) (by kernel_rfl) (by kernel_rfl) (fun _ _ _ h => h) (Or.inl ⟨by rfl, ?_⟩) hHeld ?_
      rotate_left
      ·
       intro w hSw
       have hfc0 := hSw.2.1
       clear hSw
       go_simp
       try with_reducible rfl
      try simp only [Act.put, List.setIfInBounds_toArray, List.set_cons_zero, List.set_cons_succ]
      refine wpAnyH_take (i := 6) (oi := { dst := some 17, op := .move (.tmp 0), type := 3, pos := "ref.go:82", after := #[{ on := 3, ground := .guard }], guard := some (3, false) }) (v := ?_) rfl (by kernel_rfl) (by kernel_rfl) (by kernel_rfl) (fun _ _ _ h => h) (Or.inl ⟨by rfl, ?_⟩) hHeld ?_
      rotate_left
      ·
       intro w hSw
       clear hSw
       go_simp
       try with_reducible rfl
      try simp only [Act.put, List.setIfInBounds_toArray, List.set_cons_zero, List.set_cons_succ]
      refine wpAnyH_ready (rs := [7]) (by kernel_rfl) (by simp) (AllReadyH.cons (o := { dst := some 18, op := .call { callee := .value (.func 81), args := #[.tmp 17], argTypes := #[3] }, type := 3, pos := "ref.go:82", after := #[{ on := 6, ground := .data }, { on := 3, ground := .chain }, { on := 3, ground := .guard }], guard := some (3, false) }) rfl (fun K hK => ?_) AllReadyH.nil)
      go_simp
      refine (PW.out _).mono ?_
      rintro e w8 ⟨rfl, hb8⟩
      go_simp
      refine hK.out _ _ (mkS _ (chain hHeld.1 hb8)) (fun hHeld2 => ?_)
      clear hK K
      have hHeldP := hHeld.1
      clear hHeld
      have hHeld := hHeld2
      clear hHeld2 hHeldP hb8
      try simp only [Act.put, List.setIfInBounds_toArray, List.set_cons_zero, List.set_cons_succ]
      refine wpAnyH_take (i := 8) (oi := { dst := some 19, op := .binOp .geq 3 (.tmp 16) (.tmp 18) 3, type := 4, pos := "ref.go:82", after := #[{ on := 5, ground := .data }, { on := 7, ground := .data }, { on := 3, ground := .guard }], guard := some (3, false) }) (v := ?_) rfl (by kernel_rfl) (by kernel_rfl) (by kernel_rfl) (fun _ _ _ h => h) (Or.inl ⟨by rfl, ?_⟩) hHeld ?_
      rotate_left
      ·
       intro w hSw
       clear hSw
       go_simp
       try with_reducible rfl
      try simp only [Act.put, List.setIfInBounds_toArray, List.set_cons_zero, List.set_cons_succ]
      refine wpAnyH_take (i := 9) (oi := { dst := some 20, op := .pick (.tmp 14) (.const (.bool true)) (.tmp 19), type := 4, pos := "ref.go:82", after := #[{ on := 3, ground := .data }, { on := 8, ground := .data }], guard := none }) (v := ?_) rfl (by kernel_rfl) (by kernel_rfl) (by kernel_rfl) (fun _ _ _ h => h) (Or.inl ⟨by rfl, ?_⟩) hHeld ?_
      rotate_left
      ·
       intro w hSw
       clear hSw
       go_simp
       try with_reducible rfl
      try simp only [Act.put, List.setIfInBounds_toArray, List.set_cons_zero, List.set_cons_succ]
      refine wpAnyH_take (i := 10) (oi := { dst := some 21, op := .move (.tmp 20), type := 4, pos := "ref.go:82", after := #[{ on := 9, ground := .data }, { on := 7, ground := .chain }], guard := none }) (v := ?_) rfl (by kernel_rfl) (by kernel_rfl) (by kernel_rfl) (fun _ _ _ h => h) (Or.inl ⟨by rfl, ?_⟩) hHeld ?_
      rotate_left
      ·
       intro w hSw
       clear hSw
       go_simp
       try with_reducible rfl
      try simp only [Act.put, List.setIfInBounds_toArray, List.set_cons_zero, List.set_cons_succ]
      refine wpAnyH_take (i := 11) (oi := { dst := some 22, op := .fieldAddr 30 (.tmp 3) 1, type := 0, pos := "ref.go:82", after := #[{ on := 10, ground := .guard }], guard := some (10, false) }) (v := ?_) rfl (by kernel_rfl) (by kernel_rfl) (by kernel_rfl) (fun _ _ _ h => h) (Or.inl ⟨by rfl, ?_⟩) hHeld ?_
      rotate_left
      ·
       intro w hSw
       clear hSw
       go_simp
       try with_reducible rfl
      try simp only [Act.put, List.setIfInBounds_toArray, List.set_cons_zero, List.set_cons_succ]
      refine wpAnyH_take (i := 12) (oi := { dst := some 23, op := .load 28 (.tmp 22), type := 28, pos := "ref.go:82", after := #[{ on := 11, ground := .data }, { on := 10, ground := .guard }], guard := some (10, false) }) (v := ?_) rfl (by kernel_rfl) (by kernel_rfl) (by kernel_rfl) (fun _ _ _ h => h) (Or.inl ⟨by rfl, ?_⟩) hHeld ?_
      rotate_left
      ·
       intro w hSw
       have hfc0 := hSw.2.2.1
       clear hSw
       go_simp
       try with_reducible rfl
      try simp only [Act.put, List.setIfInBounds_toArray, List.set_cons_zero, List.set_cons_succ]
      refine wpAnyH_take (i := 13) (oi := { dst := some 24, op := .call { callee := .builtin .len, args := #[.tmp 23], argTypes := #[28] }, type := 3, pos := "ref.go:82", after := #[{ on := 12, ground := .data }, { on := 10, ground := .guard }], guard := some (10, false) }) (v := ?_) rfl (by kernel_rfl) (by kernel_rfl) (by kernel_rfl) (fun _ _ _ h => h) (Or.inl ⟨by rfl, ?_⟩) hHeld ?_
      rotate_left
      ·
       intro w hSw
       clear hSw
       go_simp
       try with_reducible rfl
      try simp only [Act.put, List.setIfInBounds_toArray, List.set_cons_zero, List.set_cons_succ]
      refine wpAnyH_take (i := 14) (oi := { dst := some 25, op := .binOp .neq 3 (.tmp 24) (.const (.int .i64 35)) 3, type := 4, pos := "ref.go:82", after := #[{ on := 13, ground := .data }, { on := 10, ground := .guard }], guard := some (10, false) }) (v := ?_) rfl (by kernel_rfl) (by kernel_rfl) (by kernel_rfl) (fun _ _ _ h => h) (Or.inl ⟨by rfl, ?_⟩) hHeld ?_
      rotate_left
      ·
       intro w hSw
       clear hSw
       go_simp
       try with_reducible rfl
      try simp only [Act.put, List.setIfInBounds_toArray, List.set_cons_zero, List.set_cons_succ]
      refine wpAnyH_take (i := 15) (oi := { dst := some 26, op := .pick (.tmp 21) (.const (.bool true)) (.tmp 25), type := 4, pos := "ref.go:82", after := #[{ on := 10, ground := .data }, { on := 14, ground := .data }], guard := none }) (v := ?_) rfl (by kernel_rfl) (by kernel_rfl) (by kernel_rfl) (fun _ _ _ h => h) (Or.inl ⟨by rfl, ?_⟩) hHeld ?_
      rotate_left
      ·
       intro w hSw
       clear hSw
       go_simp
       try with_reducible rfl
      try simp only [Act.put, List.setIfInBounds_toArray, List.set_cons_zero, List.set_cons_succ]
      refine wpAnyH_take (i := 16) (oi := { dst := some 27, op := .move (.tmp 26), type := 4, pos := "ref.go:82", after := #[{ on := 15, ground := .data }, { on := 10, ground := .chain }], guard := none }) (v := ?_) rfl (by kernel_rfl) (by kernel_rfl) (by kernel_rfl) (fun _ _ _ h => h) (Or.inl ⟨by rfl, ?_⟩) hHeld ?_
      rotate_left
      ·
       intro w hSw
       clear hSw
       go_simp
       try with_reducible rfl
      try simp only [Act.put, List.setIfInBounds_toArray, List.set_cons_zero, List.set_cons_succ]
      refine wpAnyH_take (i := 17) (oi := { dst := some 28, op := .fieldAddr 30 (.tmp 3) 2, type := 0, pos := "ref.go:82", after := #[{ on := 16, ground := .guard }], guard := some (16, false) }) (v := ?_) rfl (by kernel_rfl) (by kernel_rfl) (by kernel_rfl) (fun _ _ _ h => h) (Or.inl ⟨by rfl, ?_⟩) hHeld ?_
      rotate_left
      ·
       intro w hSw
       clear hSw
       go_simp
       try with_reducible rfl
      try simp only [Act.put, List.setIfInBounds_toArray, List.set_cons_zero, List.set_cons_succ]
      refine wpAnyH_take (i := 18) (oi := { dst := some 29, op := .load 28 (.tmp 28), type := 28, pos := "ref.go:82", after := #[{ on := 17, ground := .data }, { on := 16, ground := .guard }], guard := some (16, false) }) (v := ?_) rfl (by kernel_rfl) (by kernel_rfl) (by kernel_rfl) (fun _ _ _ h => h) (Or.inl ⟨by rfl, ?_⟩) hHeld ?_
      rotate_left
      ·
       intro w hSw
       have hfc0 := hSw.2.2.2
       clear hSw
       go_simp
       try with_reducible rfl
      try simp only [Act.put, List.setIfInBounds_toArray, List.set_cons_zero, List.set_cons_succ]
      refine wpAnyH_take (i := 19) (oi := { dst := some 30, op := .call { callee := .builtin .len, args := #[.tmp 29], argTypes := #[28] }, type := 3, pos := "ref.go:82", after := #[{ on := 18, ground := .data }, { on := 16, ground := .guard }], guard := some (16, false) }) (v := ?_) rfl (by kernel_rfl) (by kernel_rfl) (by kernel_rfl) (fun _ _ _ h => h) (Or.inl ⟨by rfl, ?_⟩) hHeld ?_
      rotate_left
      ·
       intro w hSw
       clear hSw
       go_simp
       try with_reducible rfl
      try simp only [Act.put, List.setIfInBounds_toArray, List.set_cons_zero, List.set_cons_succ]
      refine wpAnyH_take (i := 20) (oi := { dst := some 31, op := .move (.tmp 0), type := 3, pos := "ref.go:82", after := #[{ on := 16, ground := .guard }], guard := some (16, false) }) (v := ?_) rfl (by kernel_rfl) (by kernel_rfl) (by kernel_rfl) (fun _ _ _ h => h) (Or.inl ⟨by rfl, ?_⟩) hHeld ?_
      rotate_left
      ·
       intro w hSw
       clear hSw
       go_simp
       try with_reducible rfl
      try simp only [Act.put, List.setIfInBounds_toArray, List.set_cons_zero, List.set_cons_succ]
      refine wpAnyH_take (i := 21) (oi := { dst := some 32, op := .binOp .neq 3 (.tmp 30) (.tmp 31) 3, type := 4, pos := "ref.go:82", after := #[{ on := 19, ground := .data }, { on := 20, ground := .data }, { on := 16, ground := .guard }], guard := some (16, false) }) (v := ?_) rfl (by kernel_rfl) (by kernel_rfl) (by kernel_rfl) (fun _ _ _ h => h) (Or.inl ⟨by rfl, ?_⟩) hHeld ?_
      rotate_left
      ·
       intro w hSw
       clear hSw
       go_simp
       try with_reducible rfl
      try simp only [Act.put, List.setIfInBounds_toArray, List.set_cons_zero, List.set_cons_succ]
      refine wpAnyH_take (i := 22) (oi := { dst := some 33, op := .pick (.tmp 27) (.const (.bool true)) (.tmp 32), type := 4, pos := "ref.go:82", after := #[{ on := 16, ground := .data }, { on := 21, ground := .data }], guard := none }) (v := ?_) rfl (by kernel_rfl) (by kernel_rfl) (by kernel_rfl) (fun _ _ _ h => h) (Or.inl ⟨by rfl, ?_⟩) hHeld ?_
      rotate_left
      ·
       intro w hSw
       clear hSw
       go_simp
       try with_reducible rfl
      try simp only [Act.put, List.setIfInBounds_toArray, List.set_cons_zero, List.set_cons_succ]
      refine wpAnyH_done (by kernel_rfl) ?_ _
      have hBe := chain HB0.out hHeld.1
      go_wp2_with fail
      go_ret
      exact ⟨rfl, hBe⟩
    ·
     have hv : chkV (k : Int) n cl pl = 12 := by unfold chkV; rw [if_pos hh, if_neg (fun h => hc h.2.1)]
     rw [hv]
     have hk0 : ¬ (k : Int) < 0 := by omega
     have hk5 : ¬ (4 : Int) < (k : Int) := by omega
     have hn1 : ¬ n < 0 := by omega
     have hn2 : ¬ ((2 ^ k : Nat) : Int) ≤ n := by rw [Int.toNat_natCast] at hnp; omega
     have PW := Lib.hid (fun (V : World) => power_ref k hk V)
     obtain ⟨p, hp⟩ : ∃ p : Int, ((2 ^ k : Nat) : Int) = p := ⟨_, rfl⟩
     rw [hp] at hn2 PW
     have hne1 : (((cl : Nat) : Int) != 35) = true := by simp; omega
     obtain ⟨ki, hki⟩ : ∃ ki : Int, (k : Int) = ki := ⟨_, rfl⟩
     rw [hki] at hk0 hk5 PW ⊢
     clear hv hh hki hk hn0 hnp hp hc
     go_enter Tryz.func118, Tryz.ntmps118
     go_upto_region 3 with (fail)
     generalize hV : World.alloc w _ = V
     have hb0 : Below w.heap.size w V := by rw [← hV]; exact below_new _ _
     have hr : V.heap[w.heap.size]? = some (.cells #[.int .i64 n, .slice CA cl cc, .slice PA pl pc] 30 (0, 0)) := by rw [← hV]; exact heap_alloc_new _ _
     have HB0 := Lib.hid hb0
     have HR := Lib.hid hr
     have mkS : ∀ z, Below V.heap.size V z → Below V.heap.size V z ∧ z.cell? ⟨w.heap.size, 0, none⟩ = some (.int .i64 n) ∧ z.cell? ⟨w.heap.size, 1, none⟩ = some (.slice CA cl cc) ∧ z.cell? ⟨w.heap.size, 2, none⟩ = some (.slice PA pl pc) := fun z hz => ⟨hz, (facts3 (row_on HR.out hz)).2⟩
     clear hV hb0 hr
     refine wp_region_held_drew (S := fun z => Below V.heap.size V z ∧ z.cell? ⟨w.heap.size, 0, none⟩ = some (.int .i64 n) ∧ z.cell? ⟨w.heap.size, 1, none⟩ = some (.slice CA cl cc) ∧ z.cell? ⟨w.heap.size, 2, none⟩ = some (.slice PA pl pc)) (by kernel_rfl) (mkS _ (Below.refl _ _).drew) (fun hHeld => ?_)
     refine wpAnyH_take (i := 0) (oi := { dst := some 11, op := .fieldAddr 30 (.tmp 3) 0, type := 0, pos := "ref.go:82", after := #[], guard := none }) (v := ?_) rfl (by kernel_rfl) (by kernel_rfl) (by kernel_rfl) (fun _ _ _ h => h) (Or.inl ⟨by rfl, ?_⟩) hHeld ?_
     rotate_left
     ·
      intro w hSw
      clear hSw
      go_simp
      try with_reducible rfl
     try simp only [Act.put, List.setIfInBounds_toArray, List.set_cons_zero, List.set_cons_succ]
     refine wpAnyH_take (i := 1) (oi := { dst := some 12, op := .load 3 (.tmp 11), type := 3, pos := "ref.go:82", after := #[{ on := 0, ground := .data }], guard := none }) (v := ?_) rfl (by kernel_rfl) (by kernel_rfl) (by kernel_rfl) (fun _ _ _ h => h) (Or.inl ⟨by rfl, ?_⟩) hHeld ?_
     rotate_left
     ·
      intro w hSw
      have hfc0 := hSw.2.1
      clear hSw
      go_simp
      try with_reducible rfl
     try simp only [Act.put, List.setIfInBounds_toArray, List.set_cons_zero, List.set_cons_succ]
     refine wpAnyH_take (i := 2) (oi := { dst := some 13, op := .binOp .lss 3 (.tmp 12) (.const (.int .i64 0)) 3, type := 4, pos := "ref.go:82", after := #[{ on := 1, ground := .data }], guard := none }) (v := ?_) rfl (by kernel_rfl) (by kernel_rfl) (by kernel_rfl) (fun _ _ _ h => h) (Or.inl ⟨by rfl, ?_⟩) hHeld ?_
     rotate_left
     ·
      intro w hSw
      clear hSw
      go_simp
      try with_reducible rfl
     try simp only [Act.put, List.setIfInBounds_toArray, List.set_cons_zero, List.set_cons_succ]
     refine wpAnyH_take (i := 3) (oi := { dst := some 14, op := .move (.tmp 13), type := 4, pos := "ref.go:82", after := #[{ on := 2, ground := .data }], guard := none }) (v := ?_) rfl (by kernel_rfl) (by kernel_rfl) (by kernel_rfl) (fun _ _ _ h => h) (Or.inl ⟨by rfl, ?_⟩) hHeld ?_
     rotate_left
     ·
      intro w hSw
      clear hSw
      go_simp
      try with_reducible rfl
     try simp only [Act.put, List.setIfInBounds_toArray, List.set_cons_zero, List.set_cons_succ]
     refine wpAnyH_take (i := 4) (oi := { dst := some 15, op := .fieldAddr 30 (.tmp 3) 0, type := 0, pos := "ref.go:82", after := #[{ on := 3, ground := .guard }], guard := some (3, false) }) (v := ?_) rfl (by kernel_rfl) (by kernel_rfl) (by kernel_rfl) (fun _ _ _ h => h) (Or.inl ⟨by rfl, ?_⟩) hHeld ?_
     rotate_left
     ·
      intro w hSw
      clear hSw
      go_simp
      try with_reducible rfl
     try simp only [Act.put, List.setIfInBounds_toArray, List.set_cons_zero, List.set_cons_succ]
     refine wpAnyH_take (i := 5) (oi := { dst := some 16, op := .load 3 (.tmp 15), type := 3, pos := "ref.go:82", after := #[{ on := 4, ground := .data }, { on := 3, ground := .guard }], guard := some (3, false) }) (v := ?_) rfl (by kernel_rfl) (by kernel_rfl) (by kernel_rfl) (fun _ _ _ h => h) (Or.inl ⟨by rfl, ?_⟩) hHeld ?_
     rotate_left
     ·
      intro w hSw
      have hfc0 := hSw.2.1
      clear hSw
      go_simp
      try with_reducible rfl
     try simp only [Act.put, List.setIfInBounds_toArray, List.set_cons_zero, List.set_cons_succ]
     refine wpAnyH_take (i := 6) (oi := { dst := some 17, op := .move (.tmp 0), type := 3, pos := "ref.go:82", after := #[{ on := 3, ground := .guard }], guard := some (3, false) }) (v := ?_) rfl (by kernel_rfl) (by kernel_rfl) (by kernel_rfl) (fun _ _ _ h => h) (Or.inl ⟨by rfl, ?_⟩) hHeld ?_
     rotate_left
     ·
      intro w hSw
      clear hSw
      go_simp
      try with_reducible rfl
     try simp only [Act.put, List.setIfInBounds_toArray, List.set_cons_zero, List.set_cons_succ]
     refine wpAnyH_ready (rs := [7]) (by kernel_rfl) (by simp) (AllReadyH.cons (o := { dst := some 18, op := .call { callee := .value (.func 81), args := #[.tmp 17], argTypes := #[3] }, type := 3, pos := "ref.go:82", after := #[{ on := 6, ground := .data }, { on := 3, ground := .chain }, { on := 3, ground := .guard }], guard := some (3, false) }) rfl (fun K hK => ?_) AllReadyH.nil)
     go_simp
     refine (PW.out _).mono ?_
     rintro e w8 ⟨rfl, hb8⟩
     go_simp
     refine hK.out _ _ (mkS _ (chain hHeld.1 hb8)) (fun hHeld2 => ?_)
     clear hK K
     have hHeldP := hHeld.1
     clear hHeld
     have hHeld := hHeld2
     clear hHeld2 hHeldP hb8
     try simp only [Act.put, List.setIfInBounds_toArray, List.set_cons_zero, List.set_cons_succ]
     refine wpAnyH_take (i := 8) (oi := { dst := some 19, op := .binOp .geq 3 (.tmp 16) (.tmp 18) 3, type := 4, pos := "ref.go:82", after := #[{ on := 5, ground := .data }, { on := 7, ground := .data }, { on := 3, ground := .guard }], guard := some (3, false) }) (v := ?_) rfl (by kernel_rfl) (by kernel_rfl) (by kernel_rfl) (fun _ _ _ h => h) (Or.inl ⟨by rfl, ?_⟩) hHeld ?_
     rotate_left
     ·
      intro w hSw
      clear hSw
      go_simp
      try with_reducible rfl
     try simp only [Act.put, List.setIfInBounds_toArray, List.set_cons_zero, List.set_cons_succ]
     refine wpAnyH_take (i := 9) (oi := { dst := some 20, op := .pick (.tmp 14) (.const (.bool true)) (.tmp 19), type := 4, pos := "ref.go:82", after := #[{ on := 3, ground := .data }, { on := 8, ground := .data }], guard := none }) (v := ?_) rfl (by kernel_rfl) (by kernel_rfl) (by kernel_rfl) (fun _ _ _ h => h) (Or.inl ⟨by rfl, ?_⟩) hHeld ?_
     rotate_left
     ·
      intro w hSw
      clear hSw
      go_simp
      try with_reducible rfl
     try simp only [Act.put, List.setIfInBounds_toArray, List.set_cons_zero, List.set_cons_succ]
     refine wpAnyH_take (i := 10) (oi := { dst := some 21, op := .move (.tmp 20), type := 4, pos := "ref.go:82", after := #[{ on := 9, ground := .data }, { on := 7, ground := .chain }], guard := none }) (v := ?_) rfl (by kernel_rfl) (by kernel_rfl) (by kernel_rfl) (fun _ _ _ h => h) (Or.inl ⟨by rfl, ?_⟩) hHeld ?_
     rotate_left
     ·
      intro w hSw
      clear hSw
      go_simp
      try with_reducible rfl
     try simp only [Act.put, List.setIfInBounds_toArray, List.set_cons_zero, List.set_cons_succ]
     refine wpAnyH_take (i := 11) (oi := { dst := some 22, op := .fieldAddr 30 (.tmp 3) 1, type := 0, pos := "ref.go:82", after := #[{ on := 10, ground := .guard }], guard := some (10, false) }) (v := ?_) rfl (by kernel_rfl) (by kernel_rfl) (by kernel_rfl) (fun _ _ _ h => h) (Or.inl ⟨by rfl, ?_⟩) hHeld ?_
     rotate_left
     ·
      intro w hSw
      clear hSw
      go_simp
      try with_reducible rfl
     try simp only [Act.put, List.setIfInBounds_toArray, List.set_cons_zero, List.set_cons_succ]
     refine wpAnyH_take (i := 12) (oi := { dst := some 23, op := .load 28 (.tmp 22), type := 28, pos := "ref.go:82", after := #[{ on := 11, ground := .data }, { on := 10, ground := .guard }], guard := some (10, false) }) (v := ?_) rfl (by kernel_rfl) (by kernel_rfl) (by kernel_rfl) (fun _ _ _ h => h) (Or.inl ⟨by rfl, ?_⟩) hHeld ?_
     rotate_left
     ·
      intro w hSw
      have hfc0 := hSw.2.2.1
      clear hSw
      go_simp
      try with_reducible rfl
     try simp only [Act.put, List.setIfInBounds_toArray, List.set_cons_zero, List.set_cons_succ]
     refine wpAnyH_take (i := 13) (oi := { dst := some 24, op := .call { callee := .builtin .len, args := #[.tmp 23], argTypes := #[28] }, type := 3, pos := "ref.go:82", after := #[{ on := 12, ground := .data }, { on := 10, ground := .guard }], guard := some (10, false) }) (v := ?_) rfl (by kernel_rfl) (by kernel_rfl) (by kernel_rfl) (fun _ _ _ h => h) (Or.inl ⟨by rfl, ?_⟩) hHeld ?_
     rotate_left
     ·
      intro w hSw
      clear hSw
      go_simp
      try with_reducible rfl
     try simp only [Act.put, List.setIfInBounds_toArray, List.set_cons_zero, List.set_cons_succ]
     refine wpAnyH_take (i := 14) (oi := { dst := some 25, op := .binOp .neq 3 (.tmp 24) (.const (.int .i64 35)) 3, type := 4, pos := "ref.go:82", after := #[{ on := 13, ground := .data }, { on := 10, ground := .guard }], guard := some (10, false) }) (v := ?_) rfl (by kernel_rfl) (by kernel_rfl) (by kernel_rfl) (fun _ _ _ h => h) (Or.inl ⟨by rfl, ?_⟩) hHeld ?_
     rotate_left
     ·
      intro w hSw
      clear hSw
      go_simp
      try with_reducible rfl
     try simp only [Act.put, List.setIfInBounds_toArray, List.set_cons_zero, List.set_cons_succ]
     refine wpAnyH_take (i := 15) (oi := { dst := some 26, op := .pick (.tmp 21) (.const (.bool true)) (.tmp 25), type := 4, pos := "ref.go:82", after := #[{ on := 10, ground := .data }, { on := 14, ground := .data }], guard := none }) (v := ?_) rfl (by kernel_rfl) (by kernel_rfl) (by kernel_rfl) (fun _ _ _ h => h) (Or.inl ⟨by rfl, ?_⟩) hHeld ?_
     rotate_left
     ·
      intro w hSw
      clear hSw
      go_simp
      try with_reducible rfl
     try simp only [Act.put, List.setIfInBounds_toArray, List.set_cons_zero, List.set_cons_succ]
     refine wpAnyH_take (i := 16) (oi := { dst := some 27, op := .move (.tmp 26), type := 4, pos := "ref.go:82", after := #[{ on := 15, ground := .data }, { on := 10, ground := .chain }], guard := none }) (v := ?_) rfl (by kernel_rfl) (by kernel_rfl) (by kernel_rfl) (fun _ _ _ h => h) (Or.inl ⟨by rfl, ?_⟩) hHeld ?_
     rotate_left
     ·
      intro w hSw
      clear hSw
      go_simp
      try with_reducible rfl
     try simp only [Act.put, List.setIfInBounds_toArray, List.set_cons_zero, List.set_cons_succ]
     refine wpAnyH_take (i := 17) (oi := { dst := some 28, op := .fieldAddr 30 (.tmp 3) 2, type := 0, pos := "ref.go:82", after := #[{ on := 16, ground := .guard }], guard := some (16, false) }) (v := undef) rfl (by kernel_rfl) (by kernel_rfl) (by kernel_rfl) (fun _ _ _ h => h) (Or.inr ⟨by rfl, rfl⟩) hHeld ?_
     try simp only [Act.put, List.setIfInBounds_toArray, List.set_cons_zero, List.set_cons_succ]
     refine wpAnyH_take (i := 18) (oi := { dst := some 29, op := .load 28 (.tmp 28), type := 28, pos := "ref.go:82", after := #[{ on := 17, ground := .data }, { on := 16, ground := .guard }], guard := some (16, false) }) (v := undef) rfl (by kernel_rfl) (by kernel_rfl) (by kernel_rfl) (fun _ _ _ h => h) (Or.inr ⟨by rfl, rfl⟩) hHeld ?_
     try simp only [Act.put, List.setIfInBounds_toArray, List.set_cons_zero, List.set_cons_succ]
     refine wpAnyH_take (i := 19) (oi := { dst := some 30, op := .call { callee := .builtin .len, args := #[.tmp 29], argTypes := #[28] }, type := 3, pos := "ref.go:82", after := #[{ on := 18, ground := .data }, { on := 16, ground := .guard }], guard := some (16, false) }) (v := undef) rfl (by kernel_rfl) (by kernel_rfl) (by kernel_rfl) (fun _ _ _ h => h) (Or.inr ⟨by rfl, rfl⟩) hHeld ?_
     try simp only [Act.put, List.setIfInBounds_toArray, List.set_cons_zero, List.set_cons_succ]
     refine wpAnyH_take (i := 20) (oi := { dst := some 31, op := .move (.tmp 0), type := 3, pos := "ref.go:82", after := #[{ on := 16, ground := .guard }], guard := some (16, false) }) (v := undef) rfl (by kernel_rfl) (by kernel_rfl) (by kernel_rfl) (fun _ _ _ h => h) (Or.inr ⟨by rfl, rfl⟩) hHeld ?_
     try simp only [Act.put, List.setIfInBounds_toArray, List.set_cons_zero, List.set_cons_succ]
     refine wpAnyH_take (i := 21) (oi := { dst := some 32, op := .binOp .neq 3 (.tmp 30) (.tmp 31) 3, type := 4, pos := "ref.go:82", after := #[{ on := 19, ground := .data }, { on := 20, ground := .data }, { on := 16, ground := .guard }], guard := some (16, false) }) (v := undef) rfl (by kernel_rfl) (by kernel_rfl) (by kernel_rfl) (fun _ _ _ h => h) (Or.inr ⟨by rfl, rfl⟩) hHeld ?_
     try simp only [Act.put, List.setIfInBounds_toArray, List.set_cons_zero, List.set_cons_succ]
     refine wpAnyH_take (i := 22) (oi := { dst := some 33, op := .pick (.tmp 27) (.const (.bool true)) (.tmp 32), type := 4, pos := "ref.go:82", after := #[{ on := 16, ground := .data }, { on := 21, ground := .data }], guard := none }) (v := ?_) rfl (by kernel_rfl) (by kernel_rfl) (by kernel_rfl) (fun _ _ _ h => h) (Or.inl ⟨by rfl, ?_⟩) hHeld ?_
     rotate_left
     ·
      intro w hSw
      clear hSw
      go_simp
      try with_reducible rfl
     try simp only [Act.put, List.setIfInBounds_toArray, List.set_cons_zero, List.set_cons_succ]
     refine wpAnyH_done (by kernel_rfl) ?_ _
     have hBe := chain HB0.out hHeld.1
     go_wp2_with fail
     go_ret
     exact ⟨rfl, hBe⟩
   ·
    have hv : chkV (k : Int) n cl pl = 12 := by unfold chkV; rw [if_pos hh, if_neg (fun h => hnp h.1.2)]
    rw [hv]
    have hk0 : ¬ (k : Int) < 0 := by omega
    have hk5 : ¬ (4 : Int) < (k : Int) := by omega
    have hn1 : ¬ n < 0 := by omega
    have hn2 : ((2 ^ k : Nat) : Int) ≤ n := by rw [Int.toNat_natCast] at hnp; omega
    have PW := Lib.hid (fun (V : World) => power_ref k hk V)
    obtain ⟨p, hp⟩ : ∃ p : Int, ((2 ^ k : Nat) : Int) = p := ⟨_, rfl⟩
    rw [hp] at hn2 PW
    obtain ⟨ki, hki⟩ : ∃ ki : Int, (k : Int) = ki := ⟨_, rfl⟩
    rw [hki] at hk0 hk5 PW ⊢
    clear hv hh hki hk hn0 hnp hp
    go_enter Tryz.func118, Tryz.ntmps118
    go_upto_region 3 with (fail)
    generalize hV : World.alloc w _ = V
    have hb0 : Below w.heap.size w V := by rw [← hV]; exact below_new _ _
    have hr : V.heap[w.heap.size]? = some (.cells #[.int .i64 n, .slice CA cl cc, .slice PA pl pc] 30 (0, 0)) := by rw [← hV]; exact heap_alloc_new _ _
    have HB0 := Lib.hid hb0
    have HR := Lib.hid hr
    have mkS : ∀ z, Below V.heap.size V z → Below V.heap.size V z ∧ z.cell? ⟨w.heap.size, 0, none⟩ = some (.int .i64 n) ∧ z.cell? ⟨w.heap.size, 1, none⟩ = some (.slice CA cl cc) ∧ z.cell? ⟨w.heap.size, 2, none⟩ = some (.slice PA pl pc) := fun z hz => ⟨hz, (facts3 (row_on HR.out hz)).2⟩
    clear hV hb0 hr
    refine wp_region_held_drew (S := fun z => Below V.heap.size V z ∧ z.cell? ⟨w.heap.size, 0, none⟩ = some (.int .i64 n) ∧ z.cell? ⟨w.heap.size, 1, none⟩ = some (.slice CA cl cc) ∧ z.cell? ⟨w.heap.size, 2, none⟩ = some (.slice PA pl pc)) (by kernel_rfl) (mkS _ (Below.refl _ _).drew) (fun hHeld => ?_)
    refine wpAnyH_take (i := 0) (oi := { dst := some 11, op := .fieldAddr 30 (.tmp 3) 0, type := 0, pos := "ref.go:82", after := #[], guard := none }) (v := ?_) rfl (by kernel_rfl) (by kernel_rfl) (by kernel_rfl) (fun _ _ _ h => h) (Or.inl ⟨by rfl, ?_⟩) hHeld ?_
    rotate_left
    ·
     intro w hSw
     clear hSw
     go_simp
     try with_reducible rfl
    try simp only [Act.put, List.setIfInBounds_toArray, List.set_cons_zero, List.set_cons_succ]
    refine wpAnyH_take (i := 1) (oi := { dst := some 12, op := .load 3 (.tmp 11), type := 3, pos := "ref.go:82", after := #[{ on := 0, ground := .data }], guard := none }) (v := ?_) rfl (by kernel_rfl) (by kernel_rfl) (by kernel_rfl) (fun _ _ _ h => h) (Or.inl ⟨by rfl, ?_⟩) hHeld ?_
    rotate_left
    ·
     intro w hSw
     have hfc0 := hSw.2.1
     clear hSw
     go_simp
     try with_reducible rfl
    try simp only [Act.put, List.setIfInBounds_toArray, List.set_cons_zero, List.set_cons_succ]
    refine wpAnyH_take (i := 2) (oi := { dst := some 13, op := .binOp .lss 3 (.tmp 12) (.const (.int .i64 0)) 3, type := 4, pos := "ref.go:82", after := #[{ on := 1, ground := .data }], guard := none }) (v := ?_) rfl (by kernel_rfl) (by kernel_rfl) (by kernel_rfl) (fun _ _ _ h => h) (Or.inl ⟨by rfl, ?_⟩) hHeld ?_
    rotate_left
    ·
     intro w hSw
     clear hSw
     go_simp
     try with_reducible rfl
    try simp only [Act.put, List.setIfInBounds_toArray, List.set_cons_zero, List.set_cons_succ]
    refine wpAnyH_take (i := 3) (oi := { dst := some 14, op := .move (.tmp 13), type := 4, pos := "ref.go:82", after := #[{ on := 2, ground := .data }], guard := none }) (v := ?_) rfl (by kernel_rfl) (by kernel_rfl) (by kernel_rfl) (fun _ _ _ h => h) (Or.inl ⟨by rfl, ?_⟩) hHeld ?_
    rotate_left
    ·
     intro w hSw
     clear hSw
     go_simp
     try with_reducible rfl
    try simp only [Act.put, List.setIfInBounds_toArray, List.set_cons_zero, List.set_cons_succ]
    refine wpAnyH_take (i := 4) (oi := { dst := some 15, op := .fieldAddr 30 (.tmp 3) 0, type := 0, pos := "ref.go:82", after := #[{ on := 3, ground := .guard }], guard := some (3, false) }) (v := ?_) rfl (by kernel_rfl) (by kernel_rfl) (by kernel_rfl) (fun _ _ _ h => h) (Or.inl ⟨by rfl, ?_⟩) hHeld ?_
    rotate_left
    ·
     intro w hSw
     clear hSw
     go_simp
     try with_reducible rfl
    try simp only [Act.put, List.setIfInBounds_toArray, List.set_cons_zero, List.set_cons_succ]
    refine wpAnyH_take (i := 5) (oi := { dst := some 16, op := .load 3 (.tmp 15), type := 3, pos := "ref.go:82", after := #[{ on := 4, ground := .data }, { on := 3, ground := .guard }], guard := some (3, false) }) (v := ?_) rfl (by kernel_rfl) (by kernel_rfl) (by kernel_rfl) (fun _ _ _ h => h) (Or.inl ⟨by rfl, ?_⟩) hHeld ?_
    rotate_left
    ·
     intro w hSw
     have hfc0 := hSw.2.1
     clear hSw
     go_simp
     try with_reducible rfl
    try simp only [Act.put, List.setIfInBounds_toArray, List.set_cons_zero, List.set_cons_succ]
    refine wpAnyH_take (i := 6) (oi := { dst := some 17, op := .move (.tmp 0), type := 3, pos := "ref.go:82", after := #[{ on := 3, ground := .guard }], guard := some (3, false) }) (v := ?_) rfl (by kernel_rfl) (by kernel_rfl) (by kernel_rfl) (fun _ _ _ h => h) (Or.inl ⟨by rfl, ?_⟩) hHeld ?_
    rotate_left
    ·
     intro w hSw
     clear hSw
     go_simp
     try with_reducible rfl
    try simp only [Act.put, List.setIfInBounds_toArray, List.set_cons_zero, List.set_cons_succ]
    refine wpAnyH_ready (rs := [7]) (by kernel_rfl) (by simp) (AllReadyH.cons (o := { dst := some 18, op := .call { callee := .value (.func 81), args := #[.tmp 17], argTypes := #[3] }, type := 3, pos := "ref.go:82", after := #[{ on := 6, ground := .data }, { on := 3, ground := .chain }, { on := 3, ground := .guard }], guard := some (3, false) }) rfl (fun K hK => ?_) AllReadyH.nil)
    go_simp
    refine (PW.out _).mono ?_
    rintro e w8 ⟨rfl, hb8⟩
    go_simp
    refine hK.out _ _ (mkS _ (chain hHeld.1 hb8)) (fun hHeld2 => ?_)
    clear hK K
    have hHeldP := hHeld.1
    clear hHeld
    have hHeld := hHeld2
    clear hHeld2 hHeldP hb8
    try simp only [Act.put, List.setIfInBounds_toArray, List.set_cons_zero, List.set_cons_succ]
    refine wpAnyH_take (i := 8) (oi := { dst := some 19, op := .binOp .geq 3 (.tmp 16) (.tmp 18) 3, type := 4, pos := "ref.go:82", after := #[{ on := 5, ground := .data }, { on := 7, ground := .data }, { on := 3, ground := .guard }], guard := some (3, false) }) (v := ?_) rfl (by kernel_rfl) (by kernel_rfl) (by kernel_rfl) (fun _ _ _ h => h) (Or.inl ⟨by rfl, ?_⟩) hHeld ?_
    rotate_left
    ·
     intro w hSw
     clear hSw
     go_simp
     try with_reducible rfl
    try simp only [Act.put, List.setIfInBounds_toArray, List.set_cons_zero, List.set_cons_succ]
    refine wpAnyH_take (i := 9) (oi := { dst := some 20, op := .pick (.tmp 14) (.const (.bool true)) (.tmp 19), type := 4, pos := "ref.go:82", after := #[{ on := 3, ground := .data }, { on := 8, ground := .data }], guard := none }) (v := ?_) rfl (by kernel_rfl) (by kernel_rfl) (by kernel_rfl) (fun _ _ _ h => h) (Or.inl ⟨by rfl, ?_⟩) hHeld ?_
    rotate_left
    ·
     intro w hSw
     clear hSw
     go_simp
     try with_reducible rfl
    try simp only [Act.put, List.setIfInBounds_toArray, List.set_cons_zero, List.set_cons_succ]
    refine wpAnyH_take (i := 10) (oi := { dst := some 21, op := .move (.tmp 20), type := 4, pos := "ref.go:82", after := #[{ on := 9, ground := .data }, { on := 7, ground := .chain }], guard := none }) (v := ?_) rfl (by kernel_rfl) (by kernel_rfl) (by kernel_rfl) (fun _ _ _ h => h) (Or.inl ⟨by rfl, ?_⟩) hHeld ?_
    rotate_left
    ·
     intro w hSw
     clear hSw
     go_simp
     try with_reducible rfl
    try simp only [Act.put, List.setIfInBounds_toArray, List.set_cons_zero, List.set_cons_succ]
    refine wpAnyH_take (i := 11) (oi := { dst := some 22, op := .fieldAddr 30 (.tmp 3) 1, type := 0, pos := "ref.go:82", after := #[{ on := 10, ground := .guard }], guard := some (10, false) }) (v := undef) rfl (by kernel_rfl) (by kernel_rfl) (by kernel_rfl) (fun _ _ _ h => h) (Or.inr ⟨by rfl, rfl⟩) hHeld ?_
    try simp only [Act.put, List.setIfInBounds_toArray, List.set_cons_zero, List.set_cons_succ]
    refine wpAnyH_take (i := 12) (oi := { dst := some 23, op := .load 28 (.tmp 22), type := 28, pos := "ref.go:82", after := #[{ on := 11, ground := .data }, { on := 10, ground := .guard }], guard := some (10, false) }) (v := undef) rfl (by kernel_rfl) (by kernel_rfl) (by kernel_rfl) (fun _ _ _ h => h) (Or.inr ⟨by rfl, rfl⟩) hHeld ?_
    try simp only [Act.put, List.setIfInBounds_toArray, List.set_cons_zero, List.set_cons_succ]
    refine wpAnyH_take (i := 13) (oi := { dst := some 24, op := .call { callee := .builtin .len, args := #[.tmp 23], argTypes := #[28] }, type := 3, pos := "ref.go:82", after := #[{ on := 12, ground := .data }, { on := 10, ground := .guard }], guard := some (10, false) }) (v := undef) rfl (by kernel_rfl) (by kernel_rfl) (by kernel_rfl) (fun _ _ _ h => h) (Or.inr ⟨by rfl, rfl⟩) hHeld ?_
    try simp only [Act.put, List.setIfInBounds_toArray, List.set_cons_zero, List.set_cons_succ]
    refine wpAnyH_take (i := 14) (oi := { dst := some 25, op := .binOp .neq 3 (.tmp 24) (.const (.int .i64 35)) 3, type := 4, pos := "ref.go:82", after := #[{ on := 13, ground := .data }, { on := 10, ground := .guard }], guard := some (10, false) }) (v := undef) rfl (by kernel_rfl) (by kernel_rfl) (by kernel_rfl) (fun _ _ _ h => h) (Or.inr ⟨by rfl, rfl⟩) hHeld ?_
    try simp only [Act.put, List.setIfInBounds_toArray, List.set_cons_zero, List.set_cons_succ]
    refine wpAnyH_take (i := 15) (oi := { dst := some 26, op := .pick (.tmp 21) (.const (.bool true)) (.tmp 25), type := 4, pos := "ref.go:82", after := #[{ on := 10, ground := .data }, { on := 14, ground := .data }], guard := none }) (v := ?_) rfl (by kernel_rfl) (by kernel_rfl) (by kernel_rfl) (fun _ _ _ h => h) (Or.inl ⟨by rfl, ?_⟩) hHeld ?_
    rotate_left
    ·
     intro w hSw
     clear hSw
     go_simp
     try with_reducible rfl
    try simp only [Act.put, List.setIfInBounds_toArray, List.set_cons_zero, List.set_cons_succ]
    refine wpAnyH_take (i := 16) (oi := { dst := some 27, op := .move (.tmp 26), type := 4, pos := "ref.go:82", after := #[{ on := 15, ground := .data }, { on := 10, ground := .chain }], guard := none }) (v := ?_) rfl (by kernel_rfl) (by kernel_rfl) (by kernel_rfl) (fun _ _ _ h => h) (Or.inl ⟨by rfl, ?_⟩) hHeld ?_
    rotate_left
    ·
     intro w hSw
     clear hSw
     go_simp
     try with_reducible rfl
    try simp only [Act.put, List.setIfInBounds_toArray, List.set_cons_zero, List.set_cons_succ]
    refine wpAnyH_take (i := 17) (oi := { dst := some 28, op := .fieldAddr 30 (.tmp 3) 2, type := 0, pos := "ref.go:82", after := #[{ on := 16, ground := .guard }], guard := some (16, false) }) (v := undef) rfl (by kernel_rfl) (by kernel_rfl) (by kernel_rfl) (fun _ _ _ h => h) (Or.inr ⟨by rfl, rfl⟩) hHeld ?_
    try simp only [Act.put, List.setIfInBounds_toArray, List.set_cons_zero, List.set_cons_succ]
    refine wpAnyH_take (i := 18) (oi := { dst := some 29, op := .load 28 (.tmp 28), type := 28, pos := "ref.go:82", after := #[{ on := 17, ground := .data }, { on := 16, ground := .guard }], guard := some (16, false) }) (v := undef) rfl (by kernel_rfl) (by kernel_rfl) (by kernel_rfl) (fun _ _ _ h => h) (Or.inr ⟨by rfl, rfl⟩) hHeld ?_
    try simp only [Act.put, List.setIfInBounds_toArray, List.set_cons_zero, List.set_cons_succ]
    refine wpAnyH_take (i := 19) (oi := { dst := some 30, op := .call { callee := .builtin .len, args := #[.tmp 29], argTypes := #[28] }, type := 3, pos := "ref.go:82", after := #[{ on := 18, ground := .data }, { on := 16, ground := .guard }], guard := some (16, false) }) (v := undef) rfl (by kernel_rfl) (by kernel_rfl) (by kernel_rfl) (fun _ _ _ h => h) (Or.inr ⟨by rfl, rfl⟩) hHeld ?_
    try simp only [Act.put, List.setIfInBounds_toArray, List.set_cons_zero, List.set_cons_succ]
    refine wpAnyH_take (i := 20) (oi := { dst := some 31, op := .move (.tmp 0), type := 3, pos := "ref.go:82", after := #[{ on := 16, ground := .guard }], guard := some (16, false) }) (v := undef) rfl (by kernel_rfl) (by kernel_rfl) (by kernel_rfl) (fun _ _ _ h => h) (Or.inr ⟨by rfl, rfl⟩) hHeld ?_
    try simp only [Act.put, List.setIfInBounds_toArray, List.set_cons_zero, List.set_cons_succ]
    refine wpAnyH_take (i := 21) (oi := { dst := some 32, op := .binOp .neq 3 (.tmp 30) (.tmp 31) 3, type := 4, pos := "ref.go:82", after := #[{ on := 19, ground := .data }, { on := 20, ground := .data }, { on := 16, ground := .guard }], guard := some (16, false) }) (v := undef) rfl (by kernel_rfl) (by kernel_rfl) (by kernel_rfl) (fun _ _ _ h => h) (Or.inr ⟨by rfl, rfl⟩) hHeld ?_
    try simp only [Act.put, List.setIfInBounds_toArray, List.set_cons_zero, List.set_cons_succ]
    refine wpAnyH_take (i := 22) (oi := { dst := some 33, op := .pick (.tmp 27) (.const (.bool true)) (.tmp 32), type := 4, pos := "ref.go:82", after := #[{ on := 16, ground := .data }, { on := 21, ground := .data }], guard := none }) (v := ?_) rfl (by kernel_rfl) (by kernel_rfl) (by kernel_rfl) (fun _ _ _ h => h) (Or.inl ⟨by rfl, ?_⟩) hHeld ?_
    rotate_left
    ·
     intro w hSw
     clear hSw
     go_simp
     try with_reducible rfl
    try simp only [Act.put, List.setIfInBounds_toArray, List.set_cons_zero, List.set_cons_succ]
    refine wpAnyH_done (by kernel_rfl) ?_ _
    have hBe := chain HB0.out hHeld.1
    go_wp2_with fail
    go_ret
    exact ⟨rfl, hBe⟩
  ·
   have hv : chkV (k : Int) n cl pl = 12 := by unfold chkV; rw [if_pos hh, if_neg (fun h => hn0 h.1.1)]
   rw [hv]
   have hk0 : ¬ (k : Int) < 0 := by omega
   have hk5 : ¬ (4 : Int) < (k : Int) := by omega
   have hn1 : n < 0 := by omega
   obtain ⟨ki, hki⟩ : ∃ ki : Int, (k : Int) = ki := ⟨_, rfl⟩
   rw [hki] at hk0 hk5 ⊢
   clear hv hh hki hk hn0
   go_enter Tryz.func118, Tryz.ntmps118
   go_upto_region 3 with (fail)
   generalize hV : World.alloc w _ = V
   have hb0 : Below w.heap.size w V := by rw [← hV]; exact below_new _ _
   have hr : V.heap[w.heap.size]? = some (.cells #[.int .i64 n, .slice CA cl cc, .slice PA pl pc] 30 (0, 0)) := by rw [← hV]; exact heap_alloc_new _ _
   have HB0 := Lib.hid hb0
   have HR := Lib.hid hr
   have mkS : ∀ z, Below V.heap.size V z → Below V.heap.size V z ∧ z.cell? ⟨w.heap.size, 0, none⟩ = some (.int .i64 n) ∧ z.cell? ⟨w.heap.size, 1, none⟩ = some (.slice CA cl cc) ∧ z.cell? ⟨w.heap.size, 2, none⟩ = some (.slice PA pl pc) := fun z hz => ⟨hz, (facts3 (row_on HR.out hz)).2⟩
   clear hV hb0 hr
   refine wp_region_held_drew (S := fun z => Below V.heap.size V z ∧ z.cell? ⟨w.heap.size, 0, none⟩ = some (.int .i64 n) ∧ z.cell? ⟨w.heap.size, 1, none⟩ = some (.slice CA cl cc) ∧ z.cell? ⟨w.heap.size, 2, none⟩ = some (.slice PA pl pc)) (by kernel_rfl) (mkS _ (Below.refl _ _).drew) (fun hHeld => ?_)
   refine wpAnyH_take (i := 0) (oi := { dst := some 11, op := .fieldAddr 30 (.tmp 3) 0, type := 0, pos := "ref.go:82", after := #[], guard := none }) (v := ?_) rfl (by kernel_rfl) (by kernel_rfl) (by kernel_rfl) (fun _ _ _ h => h) (Or.inl ⟨by rfl, ?_⟩) hHeld ?_
   rotate_left
   ·
    intro w hSw
    clear hSw
    go_simp
    try with_reducible rfl
   try simp only [Act.put, List.setIfInBounds_toArray, List.set_cons_zero, List.set_cons_succ]
   refine wpAnyH_take (i := 1) (oi := { dst := some 12, op := .load 3 (.tmp 11), type := 3, pos := "ref.go:82", after := #[{ on := 0, ground := .data }], guard := none }) (v := ?_) rfl (by kernel_rfl) (by kernel_rfl) (by kernel_rfl) (fun _ _ _ h => h) (Or.inl ⟨by rfl, ?_⟩) hHeld ?_
   rotate_left
   ·
    intro w hSw
    have hfc0 := hSw.2.1
    clear hSw
    go_simp
    try with_reducible rfl
   try simp only [Act.put, List.setIfInBounds_toArray, List.set_cons_zero, List.set_cons_succ]
   refine wpAnyH_take (i := 2) (oi := { dst := some 13, op := .binOp .lss 3 (.tmp 12) (.const (.int .i64 0)) 3, type := 4, pos := "ref.go:82", after := #[{ on := 1, ground := .data }], guard := none }) (v := ?_) rfl (by kernel_rfl) (by kernel_rfl) (by kernel_rfl) (fun _ _ _ h => h) (Or.inl ⟨by rfl, ?_⟩) hHeld ?_
   rotate_left
   ·
    intro w hSw
    clear hSw
    go_simp
    try with_reducible rfl
   try simp only [Act.put, List.setIfInBounds_toArray, List.set_cons_zero, List.set_cons_succ]
   refine wpAnyH_take (i := 3) (oi := { dst := some 14, op := .move (.tmp 13), type := 4, pos := "ref.go:82", after := #[{ on := 2, ground := .data }], guard := none }) (v := ?_) rfl (by kernel_rfl) (by kernel_rfl) (by kernel_rfl) (fun _ _ _ h => h) (Or.inl ⟨by rfl, ?_⟩) hHeld ?_
   rotate_left
   ·
    intro w hSw
    clear hSw
    go_simp
    try with_reducible rfl
   try simp only [Act.put, List.setIfInBounds_toArray, List.set_cons_zero, List.set_cons_succ]
   refine wpAnyH_take (i := 4) (oi := { dst := some 15, op := .fieldAddr 30 (.tmp 3) 0, type := 0, pos := "ref.go:82", after := #[{ on := 3, ground := .guard }], guard := some (3, false) }) (v := undef) rfl (by kernel_rfl) (by kernel_rfl) (by kernel_rfl) (fun _ _ _ h => h) (Or.inr ⟨by rfl, rfl⟩) hHeld ?_
   try simp only [Act.put, List.setIfInBounds_toArray, List.set_cons_zero, List.set_cons_succ]
   refine wpAnyH_take (i := 5) (oi := { dst := some 16, op := .load 3 (.tmp 15), type := 3, pos := "ref.go:82", after := #[{ on := 4, ground := .data }, { on := 3, ground := .guard }], guard := some (3, false) }) (v := undef) rfl (by kernel_rfl) (by kernel_rfl) (by kernel_rfl) (fun _ _ _ h => h) (Or.inr ⟨by rfl, rfl⟩) hHeld ?_
   try simp only [Act.put, List.setIfInBounds_toArray, List.set_cons_zero, List.set_cons_succ]
   refine wpAnyH_take (i := 6) (oi := { dst := some 17, op := .move (.tmp 0), type := 3, pos := "ref.go:82", after := #[{ on := 3, ground := .guard }], guard := some (3, false) }) (v := undef) rfl (by kernel_rfl) (by kernel_rfl) (by kernel_rfl) (fun _ _ _ h => h) (Or.inr ⟨by rfl, rfl⟩) hHeld ?_
   try simp only [Act.put, List.setIfInBounds_toArray, List.set_cons_zero, List.set_cons_succ]
   refine wpAnyH_take (i := 7) (oi := { dst := some 18, op := .call { callee := .value (.func 81), args := #[.tmp 17], argTypes := #[3] }, type := 3, pos := "ref.go:82", after := #[{ on := 6, ground := .data }, { on := 3, ground := .chain }, { on := 3, ground := .guard }], guard := some (3, false) }) (v := undef) rfl (by kernel_rfl) (by kernel_rfl) (by kernel_rfl) (fun _ _ _ h => h) (Or.inr ⟨by rfl, rfl⟩) hHeld ?_
   try simp only [Act.put, List.setIfInBounds_toArray, List.set_cons_zero, List.set_cons_succ]
   refine wpAnyH_take (i := 8) (oi := { dst := some 19, op := .binOp .geq 3 (.tmp 16) (.tmp 18) 3, type := 4, pos := "ref.go:82", after := #[{ on := 5, ground := .data }, { on := 7, ground := .data }, { on := 3, ground := .guard }], guard := some (3, false) }) (v := undef) rfl (by kernel_rfl) (by kernel_rfl) (by kernel_rfl) (fun _ _ _ h => h) (Or.inr ⟨by rfl, rfl⟩) hHeld ?_
   try simp only [Act.put, List.setIfInBounds_toArray, List.set_cons_zero, List.set_cons_succ]
   refine wpAnyH_take (i := 9) (oi := { dst := some 20, op := .pick (.tmp 14) (.const (.bool true)) (.tmp 19), type := 4, pos := "ref.go:82", after := #[{ on := 3, ground := .data }, { on := 8, ground := .data }], guard := none }) (v := ?_) rfl (by kernel_rfl) (by kernel_rfl) (by kernel_rfl) (fun _ _ _ h => h) (Or.inl ⟨by rfl, ?_⟩) hHeld ?_
   rotate_left
   ·
    intro w hSw
    clear hSw
    go_simp
    try with_reducible rfl
   try simp only [Act.put, List.setIfInBounds_toArray, List.set_cons_zero, List.set_cons_succ]
   refine wpAnyH_take (i := 10) (oi := { dst := some 21, op := .move (.tmp 20), type := 4, pos := "ref.go:82", after := #[{ on := 9, ground := .data }, { on := 7, ground := .chain }], guard := none }) (v := ?_) rfl (by kernel_rfl) (by kernel_rfl) (by kernel_rfl) (fun _ _ _ h => h) (Or.inl ⟨by rfl, ?_⟩) hHeld ?_
   rotate_left
   ·
    intro w hSw
    clear hSw
    go_simp
    try with_reducible rfl
   try simp only [Act.put, List.setIfInBounds_toArray, List.set_cons_zero, List.set_cons_succ]
   refine wpAnyH_take (i := 11) (oi := { dst := some 22, op := .fieldAddr 30 (.tmp 3) 1, type := 0, pos := "ref.go:82", after := #[{ on := 10, ground := .guard }], guard := some (10, false) }) (v := undef) rfl (by kernel_rfl) (by kernel_rfl) (by kernel_rfl) (fun _ _ _ h => h) (Or.inr ⟨by rfl, rfl⟩) hHeld ?_
   try simp only [Act.put, List.setIfInBounds_toArray, List.set_cons_zero, List.set_cons_succ]
   refine wpAnyH_take (i := 12) (oi := { dst := some 23, op := .load 28 (.tmp 22), type := 28, pos := "ref.go:82", after := #[{ on := 11, ground := .data }, { on := 10, ground := .guard }], guard := some (10, false) }) (v := undef) rfl (by kernel_rfl) (by kernel_rfl) (by kernel_rfl) (fun _ _ _ h => h) (Or.inr ⟨by rfl, rfl⟩) hHeld ?_
   try simp only [Act.put, List.setIfInBounds_toArray, List.set_cons_zero, List.set_cons_succ]
   refine wpAnyH_take (i := 13) (oi := { dst := some 24, op := .call { callee := .builtin .len, args := #[.tmp 23], argTypes := #[28] }, type := 3, pos := "ref.go:82", after := #[{ on := 12, ground := .data }, { on := 10, ground := .guard }], guard := some (10, false) }) (v := undef) rfl (by kernel_rfl) (by kernel_rfl) (by kernel_rfl) (fun _ _ _ h => h) (Or.inr ⟨by rfl, rfl⟩) hHeld ?_
   try simp only [Act.put, List.setIfInBounds_toArray, List.set_cons_zero, List.set_cons_succ]
   refine wpAnyH_take (i := 14) (oi := { dst := some 25, op := .binOp .neq 3 (.tmp 24) (.const (.int .i64 35)) 3, type := 4, pos := "ref.go:82", after := #[{ on := 13, ground := .data }, { on := 10, ground := .guard }], guard := some (10, false) }) (v := undef) rfl (by kernel_rfl) (by kernel_rfl) (by kernel_rfl) (fun _ _ _ h => h) (Or.inr ⟨by rfl, rfl⟩) hHeld ?_
   try simp only [Act.put, List.setIfInBounds_toArray, List.set_cons_zero, List.set_cons_succ]
   refine wpAnyH_take (i := 15) (oi := { dst := some 26, op := .pick (.tmp 21) (.const (.bool true)) (.tmp 25), type := 4, pos := "ref.go:82", after := #[{ on := 10, ground := .data }, { on := 14, ground := .data }], guard := none }) (v := ?_) rfl (by kernel_rfl) (by kernel_rfl) (by kernel_rfl) (fun _ _ _ h => h) (Or.inl ⟨by rfl, ?_⟩) hHeld ?_
   rotate_left
   ·
    intro w hSw
    clear hSw
    go_simp
    try with_reducible rfl
   try simp only [Act.put, List.setIfInBounds_toArray, List.set_cons_zero, List.set_cons_succ]
   refine wpAnyH_take (i := 16) (oi := { dst := some 27, op := .move (.tmp 26), type := 4, pos := "ref.go:82", after := #[{ on := 15, ground := .data }, { on := 10, ground := .chain }], guard := none }) (v := ?_) rfl (by kernel_rfl) (by kernel_rfl) (by kernel_rfl) (fun _ _ _ h => h) (Or.inl ⟨by rfl, ?_⟩) hHeld ?_
   rotate_left
   ·
    intro w hSw
    clear hSw
    go_simp
    try with_reducible rfl
   try simp only [Act.put, List.setIfInBounds_toArray, List.set_cons_zero, List.set_cons_succ]
   refine wpAnyH_take (i := 17) (oi := { dst := some 28, op := .fieldAddr 30 (.tmp 3) 2, type := 0, pos := "ref.go:82", after := #[{ on := 16, ground := .guard }], guard := some (16, false) }) (v := undef) rfl (by kernel_rfl) (by kernel_rfl) (by kernel_rfl) (fun _ _ _ h => h) (Or.inr ⟨by rfl, rfl⟩) hHeld ?_
   try simp only [Act.put, List.setIfInBounds_toArray, List.set_cons_zero, List.set_cons_succ]
   refine wpAnyH_take (i := 18) (oi := { dst := some 29, op := .load 28 (.tmp 28), type := 28, pos := "ref.go:82", after := #[{ on := 17, ground := .data }, { on := 16, ground := .guard }], guard := some (16, false) }) (v := undef) rfl (by kernel_rfl) (by kernel_rfl) (by kernel_rfl) (fun _ _ _ h => h) (Or.inr ⟨by rfl, rfl⟩) hHeld ?_
   try simp only [Act.put, List.setIfInBounds_toArray, List.set_cons_zero, List.set_cons_succ]
   refine wpAnyH_take (i := 19) (oi := { dst := some 30, op := .call { callee := .builtin .len, args := #[.tmp 29], argTypes := #[28] }, type := 3, pos := "ref.go:82", after := #[{ on := 18, ground := .data }, { on := 16, ground := .guard }], guard := some (16, false) }) (v := undef) rfl (by kernel_rfl) (by kernel_rfl) (by kernel_rfl) (fun _ _ _ h => h) (Or.inr ⟨by rfl, rfl⟩) hHeld ?_
   try simp only [Act.put, List.setIfInBounds_toArray, List.set_cons_zero, List.set_cons_succ]
   refine wpAnyH_take (i := 20) (oi := { dst := some 31, op := .move (.tmp 0), type := 3, pos := "ref.go:82", after := #[{ on := 16, ground := .guard }], guard := some (16, false) }) (v := undef) rfl (by kernel_rfl) (by kernel_rfl) (by kernel_rfl) (fun _ _ _ h => h) (Or.inr ⟨by rfl, rfl⟩) hHeld ?_
   try simp only [Act.put, List.setIfInBounds_toArray, List.set_cons_zero, List.set_cons_succ]
   refine wpAnyH_take (i := 21) (oi := { dst := some 32, op := .binOp .neq 3 (.tmp 30) (.tmp 31) 3, type := 4, pos := "ref.go:82", after := #[{ on := 19, ground := .data }, { on := 20, ground := .data }, { on := 16, ground := .guard }], guard := some (16, false) }) (v := undef) rfl (by kernel_rfl) (by kernel_rfl) (by kernel_rfl) (fun _ _ _ h => h) (Or.inr ⟨by rfl, rfl⟩) hHeld ?_
   try simp only [Act.put, List.setIfInBounds_toArray, List.set_cons_zero, List.set_cons_succ]
   refine wpAnyH_take (i := 22) (oi := { dst := some 33, op := .pick (.tmp 27) (.const (.bool true)) (.tmp 32), type := 4, pos := "ref.go:82", after := #[{ on := 16, ground := .data }, { on := 21, ground := .data }], guard := none }) (v := ?_) rfl (by kernel_rfl) (by kernel_rfl) (by kernel_rfl) (fun _ _ _ h => h) (Or.inl ⟨by rfl, ?_⟩) hHeld ?_
   rotate_left
   ·
    intro w hSw
    clear hSw
    go_simp
    try with_reducible rfl
   try simp only [Act.put, List.setIfInBounds_toArray, List.set_cons_zero, List.set_cons_succ]
   refine wpAnyH_done (by kernel_rfl) ?_ _
   have hBe := chain HB0.out hHeld.1
   go_wp2_with fail
   go_ret
   exact ⟨rfl, hBe⟩
 ·
  have hv : chkV h n cl pl = 2 := by unfold chkV; rw [if_neg hh]
  rw [hv]
  have hb0 := below_new w (.cells #[.int .i64 n, .slice CA cl cc, .slice PA pl pc] 30)
  by_cases h0 : h < 0
  ·
   clear hv hh
   go_enter Tryz.func118, Tryz.ntmps118
   go_wp2_with fail
   go_ret
   exact ⟨rfl, hb0⟩
  ·
   have h4 : 4 < h := by omega
   clear hv hh
   go_enter Tryz.func118, Tryz.ntmps118
   go_wp2_with fail
   go_ret
   exact ⟨rfl, hb0⟩
end Sg
end Go.Proofs.YtcgffkkfeimifaaGreatDoor
