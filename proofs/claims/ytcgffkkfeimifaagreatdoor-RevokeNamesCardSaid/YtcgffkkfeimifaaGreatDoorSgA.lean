import Derived.Test.YtcgffkkfeimifaaGreatDoorOcKit
import Derived.Walk
import Derived.WalkIn
namespace Go.Proofs.YtcgffkkfeimifaaGreatDoor
namespace Sg
open Go.RowKit Sha
set_option linter.unusedVariables false
set_option linter.unusedSimpArgs false
def nbI (c : Int) : Bool := (decide (97 ≤ c) && decide (c ≤ 122)) || (decide (65 ≤ c) && decide (c ≤ 90)) || (decide (48 ≤ c) && decide (c ≤ 57)) || c == 45 || c == 95
def allNb (s : ByteArray) : Bool := s.data.toList.all fun c => nbI c.toNat
def nameB (s : ByteArray) : Bool := decide (1 ≤ s.size) && decide (s.size ≤ 40) && allNb s

set_option maxHeartbeats 400000 in
theorem nb_any (c : Int) (w : World) (v : Bool) (hv : nbI c = v) :
  Calls Tryz.prog 63 #[.int .u8 c] w fun e w' => e = .returned (.bool v) ∧ w = w' := by
 have HV := Lib.hid hv
 clear hv
 go_enter Tryz.func63, Tryz.ntmps63
 go_wp2
 all_goals
  go_ret
  refine ⟨?_, rfl⟩
  rw [← HV.out]
  refine congrArg (fun b => Ending.returned (Value.bool b)) ?_
  rw [Bool.eq_iff_iff]
  simp [nbI]
  omega
theorem allNb_take (s : ByteArray) (k : Nat) (h : k < s.size) : ((s.data.toList.take (k + 1)).all fun c => nbI c.toNat) = ((s.data.toList.take k).all (fun c => nbI c.toNat) && nbI s[k].toNat) := by
 have e : s.data.toList.take (k + 1) = s.data.toList.take k ++ [s[k]] := by
  rw [List.take_succ_eq_append_getElem (by simpa using h)]; rfl
 rw [e, List.all_append]
 simp
theorem allNb_bad (s : ByteArray) (k : Nat) (h : k < s.size) (hb : nbI s[k].toNat = false) : allNb s = false := by
 unfold allNb
 rw [List.all_eq_false]
 exact ⟨s[k], by simp [ByteArray.getElem_eq_getElem_data], by simp [hb]⟩
set_option maxHeartbeats 400000 in
theorem name_any (s : ByteArray) (w : World) (hs : s.size ≤ maxLen) :
  Calls Tryz.prog 33 #[.string s] w fun e w' => e = .returned (.bool (nameB s)) ∧ w = w' := by
 unfold maxLen at hs
 by_cases h1 : s.size < 1
 ·
  have hv : nameB s = false := by simp [nameB]; intro a; omega
  rw [hv]
  clear hv
  go_enter Tryz.func33, Tryz.ntmps33
  go_wp2
  all_goals go_ret
  all_goals exact ⟨rfl, rfl⟩
 ·
  by_cases h2 : 40 < s.size
  ·
   have hv : nameB s = false := by simp [nameB]; intro a; omega
   rw [hv]
   clear hv
   go_enter Tryz.func33, Tryz.ntmps33
   go_wp2
   all_goals go_ret
   all_goals exact ⟨rfl, rfl⟩
  ·
   have hv : nameB s = allNb s := by
    have a : decide (1 ≤ s.size) = true := by simp; omega
    have b : decide (s.size ≤ 40) = true := by simp; omega
    simp only [nameB, a, b, Bool.true_and]
   rw [hv]
   clear hv
   go_enter Tryz.func33, Tryz.ntmps33
   go_wp2
   go_loop [3, 14] (fun _ i => ∃ k : Nat, k ≤ s.size ∧ i = .int .i64 k ∧ (s.data.toList.take k).all (fun c => nbI c.toNat) = true) (fun _ i => s.size - (intOf i).toNat)
   case atStart => exact ⟨0, Nat.zero_le _, rfl, by simp⟩
   case round =>
    obtain ⟨k, hk, rfl, ha⟩ := hrel
    have HA := Lib.hid ha
    clear ha
    by_cases hlt : k < s.size
    ·
     cases hb : nbI s[k].toNat
     ·
      have HB := Lib.hid hb
      have HF := Lib.hid (allNb_bad s k hlt hb)
      clear hb
      go_wp2_with (go_at_call 63; refine (nb_any _ _ false HB.out).mono ?_; rintro e w2 ⟨rfl, rfl⟩)
      go_ret
      exact ⟨by rw [HF.out]; rfl, rfl⟩
     ·
      have HB := Lib.hid hb
      have HT := Lib.hid (allNb_take s k hlt)
      clear hb
      go_wp2_with (go_at_call 63; refine (nb_any _ _ true HB.out).mono ?_; rintro e w2 ⟨rfl, rfl⟩)
      go_round
      case rel => exact ⟨k + 1, by omega, by go_num, by rw [HT.out, HA.out, HB.out]; rfl⟩
      case measure => simp [intOf]; omega
    ·
     go_wp2
     go_ret
     have e : k = s.size := by omega
     subst e
     have HT : allNb s = true := by have := HA.out; rw [List.take_of_length_le (by simp)] at this; exact this
     exact ⟨by rw [HT]; rfl, rfl⟩
def tmB (t : Int) : Bool := decide (0 ≤ t ∧ t ≤ 1099511627776)
def wnB (a b : Int) : Bool := decide (0 ≤ a ∧ a ≤ 1099511627776 ∧ 0 ≤ b ∧ b ≤ 1099511627776 ∧ a ≤ b)
theorem tmB_true {t : Int} : tmB t = true ↔ (0 ≤ t ∧ t ≤ 1099511627776) := by simp [tmB]
theorem wnB_true {a b : Int} : wnB a b = true ↔ (0 ≤ a ∧ a ≤ 1099511627776 ∧ 0 ≤ b ∧ b ≤ 1099511627776 ∧ a ≤ b) := by simp [wnB]
theorem tm_any (t : Int) (w : World) :
  Calls Tryz.prog 64 #[.int .i64 t] w fun e w' => e = .returned (.bool (tmB t)) ∧ w = w' := by
 by_cases h : 0 ≤ t ∧ t ≤ 1099511627776
 ·
  have e : tmB t = true := tmB_true.2 h
  rw [e]; clear e
  obtain ⟨h1, h2⟩ := h
  go_enter Tryz.func64, Tryz.ntmps64
  go_wp2
  go_ret
  exact ⟨rfl, rfl⟩
 ·
  have e : tmB t = false := by simpa [tmB] using h
  rw [e]; clear e
  by_cases h1 : 0 ≤ t
  ·
   have h2 : ¬ t ≤ 1099511627776 := fun h2 => h ⟨h1, h2⟩
   clear h
   go_enter Tryz.func64, Tryz.ntmps64
   go_wp2
   go_ret
   exact ⟨rfl, rfl⟩
  ·
   clear h
   go_enter Tryz.func64, Tryz.ntmps64
   go_wp2
   go_ret
   exact ⟨rfl, rfl⟩
def chkW (a b : Int) : Int := if wnB a b = true then 0 else 8
theorem chk_any (a b : Int) (w : World) :
  Calls Tryz.prog 34 #[.agg #[.int .i64 a, .int .i64 b]] w fun e w' => e = .returned (.int .i64 (chkW a b)) ∧ Below w.heap.size w w' := by
 cases ha : tmB a
 ·
  have e : chkW a b = 8 := by
   have : ¬ (0 ≤ a ∧ a ≤ 1099511627776) := by rw [← tmB_true, ha]; simp
   unfold chkW; rw [if_neg (by rw [wnB_true]; omega)]
  rw [e]; clear e
  go_enter Tryz.func34, Tryz.ntmps34
  go_wp2_with (go_at_call 64; refine (tm_any _ _).mono ?_; rintro e w1 ⟨rfl, rfl⟩)
  go_ret
  exact ⟨rfl, below_new _ _⟩
 ·
  cases hb : tmB b
  ·
   have e : chkW a b = 8 := by
    have : ¬ (0 ≤ b ∧ b ≤ 1099511627776) := by rw [← tmB_true, hb]; simp
    unfold chkW; rw [if_neg (by rw [wnB_true]; omega)]
   rw [e]; clear e
   go_enter Tryz.func34, Tryz.ntmps34
   go_wp2_with (go_at_call 64; refine (tm_any _ _).mono ?_; rintro e w1 ⟨rfl, rfl⟩)
   go_ret
   exact ⟨rfl, below_new _ _⟩
  ·
   have h1 := tmB_true.1 ha
   have h2 := tmB_true.1 hb
   by_cases hc : a ≤ b
   ·
    have e : chkW a b = 0 := by unfold chkW; rw [if_pos (by rw [wnB_true]; omega)]
    rw [e]; clear e h1 h2
    go_enter Tryz.func34, Tryz.ntmps34
    go_wp2_with (go_at_call 64; refine (tm_any _ _).mono ?_; rintro e w1 ⟨rfl, rfl⟩)
    go_ret
    exact ⟨rfl, below_new _ _⟩
   ·
    have e : chkW a b = 8 := by unfold chkW; rw [if_neg (by rw [wnB_true]; omega)]
    rw [e]; clear e h1 h2
    go_enter Tryz.func34, Tryz.ntmps34
    go_wp2_with (go_at_call 64; refine (tm_any _ _).mono ?_; rintro e w1 ⟨rfl, rfl⟩)
    go_ret
    exact ⟨rfl, below_new _ _⟩
set_option maxRecDepth 100000 in
set_option maxHeartbeats 1000000 in
theorem isHeight_any (h : Int) (w : World) :
  Calls Tryz.prog 37 #[.int .i64 h] w fun e w' => e = .returned (.bool (decide (0 ≤ h ∧ h ≤ 4))) ∧ Below w.heap.size w w' := by
 have hz : Below w.heap.size w w := Below.refl _ _
 by_cases h1 : 0 ≤ h
 ·
  by_cases h2 : h ≤ 4
  ·
   rw [decide_eq_true ⟨h1, h2⟩]
   go_enter Tryz.func37, Tryz.ntmps37
   go_wp2_with fail
   go_ret
   exact ⟨rfl, hz⟩
  ·
   rw [decide_eq_false (fun hh => h2 hh.2)]
   go_enter Tryz.func37, Tryz.ntmps37
   go_wp2_with fail
   go_ret
   exact ⟨rfl, hz⟩
 ·
  rw [decide_eq_false (fun hh => h1 hh.1)]
  go_enter Tryz.func37, Tryz.ntmps37
  go_wp2_with fail
  go_ret
  exact ⟨rfl, hz⟩
theorem shl_any (h : Nat) (hh : h ≤ 4) : ∀ w : World, (Op.shift .shl .i64 1 .i64 (h : Int)).run Tryz.prog w = .ok (.int .i64 ((2 ^ h : Nat) : Int)) w := by
 intro w
 obtain rfl | rfl | rfl | rfl | rfl : h = 0 ∨ h = 1 ∨ h = 2 ∨ h = 3 ∨ h = 4 := by omega
 all_goals rfl
set_option maxRecDepth 100000 in
set_option maxHeartbeats 1000000 in
theorem isIndex_any (n : Int) (h : Nat) (hh : h ≤ 4) (w : World) :
  Calls Tryz.prog 69 #[.int .i64 n, .int .i64 (h : Int)] w fun e w' => e = .returned (.bool (decide (0 ≤ n ∧ n < ((2 ^ h : Nat) : Int)))) ∧ Below w.heap.size w w' := by
 have hz : Below w.heap.size w w := Below.refl _ _
 have hs := shl_any h hh
 obtain ⟨p, hp⟩ : ∃ p : Int, ((2 ^ h : Nat) : Int) = p := ⟨_, rfl⟩
 rw [hp] at hs ⊢
 obtain ⟨k, hk⟩ : ∃ k : Int, (h : Int) = k := ⟨_, rfl⟩
 rw [hk] at hs ⊢
 clear hk hp hh
 by_cases h1 : 0 ≤ n
 ·
  by_cases h2 : n < p
  ·
   rw [decide_eq_true ⟨h1, h2⟩]
   go_enter Tryz.func69, Tryz.ntmps69
   go_wp2_with fail
   go_ret
   exact ⟨rfl, hz⟩
  ·
   rw [decide_eq_false (fun hh => h2 hh.2)]
   go_enter Tryz.func69, Tryz.ntmps69
   go_wp2_with fail
   go_ret
   exact ⟨rfl, hz⟩
 ·
  rw [decide_eq_false (fun hh => h1 hh.1)]
  go_enter Tryz.func69, Tryz.ntmps69
  go_wp2_with fail
  go_ret
  exact ⟨rfl, hz⟩
def chkV (h n : Int) (cl pl : Nat) : Int :=
 if 0 ≤ h ∧ h ≤ 4 then (if (0 ≤ n ∧ n < ((2 ^ h.toNat : Nat) : Int)) ∧ cl = 35 ∧ (pl : Int) = h then 0 else 12) else 2
theorem isHeight_yes (h : Nat) (hh : h ≤ 4) (w : World) : Calls Tryz.prog 37 #[.int .i64 (h : Int)] w fun e w' => e = .returned (.bool true) ∧ Below w.heap.size w w' := by
 have h1 := isHeight_any (h : Int) w
 rw [decide_eq_true (by omega)] at h1
 exact h1
theorem isHeight_no (h : Int) (hh : ¬ (0 ≤ h ∧ h ≤ 4)) (w : World) : Calls Tryz.prog 37 #[.int .i64 h] w fun e w' => e = .returned (.bool false) ∧ Below w.heap.size w w' := by
 have h1 := isHeight_any h w
 rw [decide_eq_false hh] at h1
 exact h1
theorem isIndex_yes (n h : Nat) (hh : h ≤ 4) (hn : n < 2 ^ h) (w : World) : Calls Tryz.prog 69 #[.int .i64 (n : Int), .int .i64 (h : Int)] w fun e w' => e = .returned (.bool true) ∧ Below w.heap.size w w' := by
 have h1 := isIndex_any (n : Int) h hh w
 rw [decide_eq_true ⟨by omega, by exact_mod_cast hn⟩] at h1
 exact h1
theorem isIndex_no (n : Int) (h : Nat) (hh : h ≤ 4) (hn : ¬ (0 ≤ n ∧ n < ((2 ^ h : Nat) : Int))) (w : World) : Calls Tryz.prog 69 #[.int .i64 n, .int .i64 (h : Int)] w fun e w' => e = .returned (.bool false) ∧ Below w.heap.size w w' := by
 have h1 := isIndex_any n h hh w
 rw [decide_eq_false hn] at h1
 exact h1
set_option maxRecDepth 100000 in
set_option maxHeartbeats 1000000 in
theorem check_any (h n : Int) (CA PA : Option Addr) (cl cc pl pc : Nat) (w : World) :
  Calls Tryz.prog 65 #[.int .i64 h, .agg #[.int .i64 n, .slice CA cl cc, .slice PA pl pc]] w fun e w' => e = .returned (.int .i64 (chkV h n cl pl)) ∧ Below w.heap.size w w' := by
 have hb0 := below_new w (.cells #[.int .i64 n, .slice CA cl cc, .slice PA pl pc] 30)
 have HB0 := Lib.hid hb0
 clear hb0
 by_cases hh : 0 ≤ h ∧ h ≤ 4
 ·
  obtain ⟨k, rfl⟩ : ∃ k : Nat, h = (k : Int) := ⟨h.toNat, by omega⟩
  have hk : k ≤ 4 := by omega
  have IH := Lib.hid (fun (V : World) => isHeight_yes k hk V)
  by_cases hn : 0 ≤ n ∧ n < ((2 ^ k : Nat) : Int)
  ·
   have II : RowKit.Hid (∀ V : World, Calls Tryz.prog 69 #[.int .i64 n, .int .i64 (k : Int)] V fun e w' => e = .returned (.bool true) ∧ Below V.heap.size V w') := Lib.hid (fun V => by
    obtain ⟨m, rfl⟩ : ∃ m : Nat, n = (m : Int) := ⟨n.toNat, by omega⟩
    exact isIndex_yes m k hk (by omega) V)
   by_cases hc : cl = 35
   ·
    by_cases hp : (pl : Int) = (k : Int)
    ·
     have hv : chkV (k : Int) n cl pl = 0 := by unfold chkV; rw [if_pos hh, if_pos ⟨hn, hc, hp⟩]
     rw [hv]
     have hne1 : (((cl : Nat) : Int) != 35) = false := by simp; omega
     have hne : (((pl : Nat) : Int) != (k : Int)) = false := by simp [hp]
     obtain ⟨ki, hki⟩ : ∃ ki : Int, (k : Int) = ki := ⟨_, rfl⟩
     rw [hki] at IH II hne ⊢
     clear hv hp hh hn hc hki hk
     go_enter Tryz.func65, Tryz.ntmps65
     go_wp2_with fail
     refine (IH.out _).mono ?_
     rintro e w1 ⟨rfl, hb1⟩
     have HB1 := Lib.hid (chain HB0.out hb1)
     have HR1 := Lib.hid ((hb1.block w.heap.size (by simp)).trans (heap_alloc_new _ _))
     clear hb1 HB0
     have hc0 := cell_of_row _ _ 0 _ _ _ HR1.out
     have hc1 := cell_of_row _ _ 1 _ _ _ HR1.out
     have hc2 := cell_of_row _ _ 2 _ _ _ HR1.out
     simp only [List.getElem?_toArray, List.getElem?_cons_zero, List.getElem?_cons_succ] at hc0 hc1 hc2
     have hlt1 : w.heap.size < w1.heap.size := (Array.getElem?_eq_some_iff.1 HR1.out).1
     go_wp2_with fail
     refine (II.out _).mono ?_
     rintro e w2 ⟨rfl, hb2⟩
     have HB2 := Lib.hid (chain HB1.out hb2)
     have hd0 : w2.cell? ⟨w.heap.size, 0, none⟩ = some (.int .i64 n) := by rw [hb2.cell (p := ⟨w.heap.size, 0, none⟩) hlt1]; exact hc0
     have hd1 : w2.cell? ⟨w.heap.size, 1, none⟩ = some (.slice CA cl cc) := by rw [hb2.cell (p := ⟨w.heap.size, 1, none⟩) hlt1]; exact hc1
     have hd2 : w2.cell? ⟨w.heap.size, 2, none⟩ = some (.slice PA pl pc) := by rw [hb2.cell (p := ⟨w.heap.size, 2, none⟩) hlt1]; exact hc2
     clear hc0 hc1 hc2 hb2 HB1 HR1
     go_wp2_with fail
     go_ret
     exact ⟨rfl, HB2.out⟩
    ·
     have hv : chkV (k : Int) n cl pl = 12 := by unfold chkV; rw [if_pos hh, if_neg (fun h => hp h.2.2)]
     rw [hv]
     have hne1 : (((cl : Nat) : Int) != 35) = false := by simp; omega
     have hne : (((pl : Nat) : Int) != (k : Int)) = true := by simp; omega
     obtain ⟨ki, hki⟩ : ∃ ki : Int, (k : Int) = ki := ⟨_, rfl⟩
     rw [hki] at IH II hne ⊢
     clear hv hp hh hn hc hki hk
     go_enter Tryz.func65, Tryz.ntmps65
     go_wp2_with fail
     refine (IH.out _).mono ?_
     rintro e w1 ⟨rfl, hb1⟩
     have HB1 := Lib.hid (chain HB0.out hb1)
     have HR1 := Lib.hid ((hb1.block w.heap.size (by simp)).trans (heap_alloc_new _ _))
     clear hb1 HB0
     have hc0 := cell_of_row _ _ 0 _ _ _ HR1.out
     have hc1 := cell_of_row _ _ 1 _ _ _ HR1.out
     have hc2 := cell_of_row _ _ 2 _ _ _ HR1.out
     simp only [List.getElem?_toArray, List.getElem?_cons_zero, List.getElem?_cons_succ] at hc0 hc1 hc2
     have hlt1 : w.heap.size < w1.heap.size := (Array.getElem?_eq_some_iff.1 HR1.out).1
     go_wp2_with fail
     refine (II.out _).mono ?_
     rintro e w2 ⟨rfl, hb2⟩
     have HB2 := Lib.hid (chain HB1.out hb2)
     have hd0 : w2.cell? ⟨w.heap.size, 0, none⟩ = some (.int .i64 n) := by rw [hb2.cell (p := ⟨w.heap.size, 0, none⟩) hlt1]; exact hc0
     have hd1 : w2.cell? ⟨w.heap.size, 1, none⟩ = some (.slice CA cl cc) := by rw [hb2.cell (p := ⟨w.heap.size, 1, none⟩) hlt1]; exact hc1
     have hd2 : w2.cell? ⟨w.heap.size, 2, none⟩ = some (.slice PA pl pc) := by rw [hb2.cell (p := ⟨w.heap.size, 2, none⟩) hlt1]; exact hc2
     clear hc0 hc1 hc2 hb2 HB1 HR1
     go_wp2_with fail
     go_ret
     exact ⟨rfl, HB2.out⟩
   ·
    have hv : chkV (k : Int) n cl pl = 12 := by unfold chkV; rw [if_pos hh, if_neg (fun h => hc h.2.1)]
    rw [hv]
    have hne1 : (((cl : Nat) : Int) != 35) = true := by simp; omega
    obtain ⟨ki, hki⟩ : ∃ ki : Int, (k : Int) = ki := ⟨_, rfl⟩
    rw [hki] at IH II ⊢
    clear hv hh hn hc hki hk
    go_enter Tryz.func65, Tryz.ntmps65
    go_wp2_with fail
    refine (IH.out _).mono ?_
    rintro e w1 ⟨rfl, hb1⟩
    have HB1 := Lib.hid (chain HB0.out hb1)
    have HR1 := Lib.hid ((hb1.block w.heap.size (by simp)).trans (heap_alloc_new _ _))
    clear hb1 HB0
    have hc0 := cell_of_row _ _ 0 _ _ _ HR1.out
    have hc1 := cell_of_row _ _ 1 _ _ _ HR1.out
    have hc2 := cell_of_row _ _ 2 _ _ _ HR1.out
    simp only [List.getElem?_toArray, List.getElem?_cons_zero, List.getElem?_cons_succ] at hc0 hc1 hc2
    have hlt1 : w.heap.size < w1.heap.size := (Array.getElem?_eq_some_iff.1 HR1.out).1
    go_wp2_with fail
    refine (II.out _).mono ?_
    rintro e w2 ⟨rfl, hb2⟩
    have HB2 := Lib.hid (chain HB1.out hb2)
    have hd0 : w2.cell? ⟨w.heap.size, 0, none⟩ = some (.int .i64 n) := by rw [hb2.cell (p := ⟨w.heap.size, 0, none⟩) hlt1]; exact hc0
    have hd1 : w2.cell? ⟨w.heap.size, 1, none⟩ = some (.slice CA cl cc) := by rw [hb2.cell (p := ⟨w.heap.size, 1, none⟩) hlt1]; exact hc1
    have hd2 : w2.cell? ⟨w.heap.size, 2, none⟩ = some (.slice PA pl pc) := by rw [hb2.cell (p := ⟨w.heap.size, 2, none⟩) hlt1]; exact hc2
    clear hc0 hc1 hc2 hb2 HB1 HR1
    go_wp2_with fail
    go_ret
    exact ⟨rfl, HB2.out⟩
  ·
   have hv : chkV (k : Int) n cl pl = 12 := by unfold chkV; rw [if_pos hh, if_neg (fun h => hn h.1)]
   rw [hv]
   have II := Lib.hid (fun (V : World) => isIndex_no n k hk hn V)
   obtain ⟨ki, hki⟩ : ∃ ki : Int, (k : Int) = ki := ⟨_, rfl⟩
   rw [hki] at IH II ⊢
   clear hv hh hn hki hk
   go_enter Tryz.func65, Tryz.ntmps65
   go_wp2_with fail
   refine (IH.out _).mono ?_
   rintro e w1 ⟨rfl, hb1⟩
   have HB1 := Lib.hid (chain HB0.out hb1)
   have HR1 := Lib.hid ((hb1.block w.heap.size (by simp)).trans (heap_alloc_new _ _))
   clear hb1 HB0
   have hc0 := cell_of_row _ _ 0 _ _ _ HR1.out
   have hc1 := cell_of_row _ _ 1 _ _ _ HR1.out
   have hc2 := cell_of_row _ _ 2 _ _ _ HR1.out
   simp only [List.getElem?_toArray, List.getElem?_cons_zero, List.getElem?_cons_succ] at hc0 hc1 hc2
   have hlt1 : w.heap.size < w1.heap.size := (Array.getElem?_eq_some_iff.1 HR1.out).1
   go_wp2_with fail
   refine (II.out _).mono ?_
   rintro e w2 ⟨rfl, hb2⟩
   have HB2 := Lib.hid (chain HB1.out hb2)
   have hd0 : w2.cell? ⟨w.heap.size, 0, none⟩ = some (.int .i64 n) := by rw [hb2.cell (p := ⟨w.heap.size, 0, none⟩) hlt1]; exact hc0
   have hd1 : w2.cell? ⟨w.heap.size, 1, none⟩ = some (.slice CA cl cc) := by rw [hb2.cell (p := ⟨w.heap.size, 1, none⟩) hlt1]; exact hc1
   have hd2 : w2.cell? ⟨w.heap.size, 2, none⟩ = some (.slice PA pl pc) := by rw [hb2.cell (p := ⟨w.heap.size, 2, none⟩) hlt1]; exact hc2
   clear hc0 hc1 hc2 hb2 HB1 HR1
   go_wp2_with fail
   go_ret
   exact ⟨rfl, HB2.out⟩
 ·
  have hv : chkV h n cl pl = 2 := by unfold chkV; rw [if_neg hh]
  rw [hv]
  have IH := Lib.hid (fun (V : World) => isHeight_no h hh V)
  clear hv hh
  go_enter Tryz.func65, Tryz.ntmps65
  go_wp2_with fail
  refine (IH.out _).mono ?_
  rintro e w1 ⟨rfl, hb1⟩
  have HB1 := Lib.hid (chain HB0.out hb1)
  have HR1 := Lib.hid ((hb1.block w.heap.size (by simp)).trans (heap_alloc_new _ _))
  clear hb1 HB0
  go_wp2_with fail
  go_ret
  exact ⟨rfl, HB1.out⟩
end Sg
end Go.Proofs.YtcgffkkfeimifaaGreatDoor
