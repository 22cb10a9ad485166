/-
  THE WALKS over the texts of the reference of layer 1: strings of addresses, of prefixes and of numbers of systems.
-/
import Derived.Test.YtlikgfmcialepaaGreatDoorTxRefC
import Derived.Test.YtlikgfmcialepaaGreatDoorCells
namespace Go.Proofs.YtlikgfmcialepaaGreatDoor
open Go.RowKit Adr
set_option linter.unusedVariables false
set_option linter.unusedSimpArgs false
theorem rtext_bad (f : Int) (H L : Nat) (hc : ca f H L = false) (w : World) :
    Calls Tryz.prog 6 #[.int .u8 f, .agg #[.int .u64 H, .int .u64 L]] w fun e w' => e = .returned (.tuple #[.string ⟨#[]⟩, .int .i64 2]) ∧ Below w.heap.size w w' := by
  have HCA : RowKit.Hid (∀ w, Calls Tryz.prog 25 #[.int .u8 f, .agg #[.int .u64 H, .int .u64 L]] w fun e w' => e = .returned (.bool false) ∧ Below w.heap.size w w') := Lib.hid (fun w => by
    have h := rca_any f H L w (by omega)
    rw [hc] at h
    exact h)
  clear hc
  go_enter Tryz.func6, Tryz.ntmps6
  go_wp2_with fail
  refine (HCA.out _).mono ?_
  rintro e w1 ⟨rfl, hb1⟩
  have HB1 := Lib.hid (((Below.refl w.heap.size w).alloc (Nat.le_refl _) _).trans (hb1.mono (by simp)))
  clear hb1
  go_wp2_with fail
  go_ret2
  exact ⟨rfl, HB1.out⟩
/-- the reference's string of an address -/
theorem rtext_yes (f : Int) (H L : Nat) (hc : ca f H L = true) (hH : H < 18446744073709551616) (hL : L < 18446744073709551616) (w : World) :
    Calls Tryz.prog 6 #[.int .u8 f, .agg #[.int .u64 H, .int .u64 L]] w fun e w' => e = .returned (.tuple #[.string (str (addrS f H L)), .int .i64 0]) ∧ Below w.heap.size w w' := by
  unfold addrS
  by_cases h4 : f = 4
  · subst h4
    rw [if_pos rfl]
    unfold ca at hc
    simp at hc
    have h0 : H = 0 := by omega
    subst h0
    exact rtext4 L (by omega) w
  · rw [if_neg h4]
    have h6 : f = 6 := by
      unfold ca at hc
      simpa [h4] using hc
    subst h6
    exact rtext6_core H L hH hL w
set_option maxHeartbeats 1000000 in
theorem rastext (n : Nat) (hn : n < 4294967296) (w : World) :
    Calls Tryz.prog 16 #[.int .u32 n] w fun e w' => e = .returned (.string (str (asS n))) ∧ w = w' := by
  have hD : ∀ w, Calls Tryz.prog 27 #[.int .u64 (n : Int), .int .u64 10] w fun e w' => e = .returned (.string (str (Lib.decDigits n))) ∧ w = w' := fun w => by
    have h := digits_any 10 (by omega) (by omega) n (by omega) w
    rw [dg_dec n (by omega)] at h
    exact h
  have hs : (str (Lib.decDigits n)).size ≤ 20 := by
    rw [str_size, Lib.decDigits_length]
    exact Lib.nDigits_le20 _ (by omega)
  have hx : str (asS n) = ⟨#[65, 83]⟩ ++ str (Lib.decDigits n) := by
    unfold asS
    rw [str_app]
    rfl
  rw [hx]
  obtain ⟨X, hX⟩ : ∃ X, str (Lib.decDigits n) = X := ⟨_, rfl⟩
  rw [hX] at hD hs ⊢
  have HD := Lib.hid hD
  clear hD hx hX
  go_enter Tryz.func16, Tryz.ntmps16
  go_wp2_with fail
  refine (HD.out w).mono ?_
  rintro e w1 ⟨rfl, rfl⟩
  go_wp2_with fail
  go_ret
  exact ⟨rfl, rfl⟩
set_option maxHeartbeats 1000000 in
theorem rptext_no (f h l n c : Int) (w : World) (uh : U64 h) (ul : U64 l) (hc : chk f h l n = c) (hc0 : (c != 0) = true) :
    Calls Tryz.prog 10 #[.agg #[.int .u8 f, .int .u64 h, .int .u64 l, .int .i64 n]] w fun e w' => e = .returned (.tuple #[.string ⟨#[]⟩, .int .i64 c]) ∧ Below w.heap.size w w' := by
  have HC : RowKit.Hid (∀ w, Calls Tryz.prog 36 #[.agg #[.int .u8 f, .int .u64 h, .int .u64 l, .int .i64 n]] w fun e w' => e = .returned (.int .i64 c) ∧ Below w.heap.size w w') := Lib.hid (fun w => by rw [← hc]; exact rchk_any f h l n w uh ul)
  clear uh ul hc
  go_enter Tryz.func10, Tryz.ntmps10
  go_wp2_with fail
  generalize hv : World.alloc _ _ = v
  have TP : RowKit.Hid (Pf4 w.heap.size v f h l n) := Lib.hid (by rw [← hv]; exact Pf4.new w _ _ _ _ _)
  have HB := Lib.hid (show Below w.heap.size w v by rw [← hv]; exact below_new _ _)
  clear hv
  refine (HC.out v).mono ?_
  rintro e w1 ⟨rfl, hb1⟩
  have TP1 := Lib.hid (TP.out.on hb1)
  have HB1 := Lib.hid (HB.out.trans (hb1.mono HB.out.size))
  clear hb1 TP HB
  obtain ⟨p0, p1, p2, p3, _, _, _, _⟩ := TP1.out
  go_wp2_with fail
  refine (HC.out w1).mono ?_
  rintro e w2 ⟨rfl, hb2⟩
  have HB2 := Lib.hid (HB1.out.trans (hb2.mono HB1.out.size))
  clear hb2 HB1 TP1 p0 p1 p2 p3
  go_wp2_with fail
  go_ret2
  exact ⟨rfl, HB2.out⟩
set_option maxHeartbeats 2000000 in
theorem rptext_yes (f : Int) (H L n : Nat) (w : World) (hH : H < 18446744073709551616) (hL : L < 18446744073709551616) (hc : chk f H L n = 0) (hca : ca f H L = true) (hn : n ≤ 128) :
    Calls Tryz.prog 10 #[.agg #[.int .u8 f, .int .u64 H, .int .u64 L, .int .i64 n]] w fun e w' => e = .returned (.tuple #[.string (str (pfxS f H L n)), .int .i64 0]) ∧ Below w.heap.size w w' := by
  have HC : RowKit.Hid (∀ w, Calls Tryz.prog 36 #[.agg #[.int .u8 f, .int .u64 H, .int .u64 L, .int .i64 n]] w fun e w' => e = .returned (.int .i64 0) ∧ Below w.heap.size w w') := Lib.hid (fun w => by rw [← hc]; exact rchk_any f H L n w ⟨by omega, by omega⟩ ⟨by omega, by omega⟩)
  have HT := Lib.hid (fun w => rtext_yes f H L hca hH hL w)
  have hD : ∀ w, Calls Tryz.prog 27 #[.int .u64 (n : Int), .int .u64 10] w fun e w' => e = .returned (.string (str (Lib.decDigits n))) ∧ w = w' := fun w => by
    have h := digits_any 10 (by omega) (by omega) n (by omega) w
    rw [dg_dec n (by omega)] at h
    exact h
  have s1 := str_size (addrS f H L)
  have s2 := addrS_len f H L
  have s3 := str_size (Lib.decDigits n)
  have s4 : (Lib.decDigits n).length ≤ 20 := by rw [Lib.decDigits_length]; exact Lib.nDigits_le20 _ (by omega)
  obtain ⟨X, hX⟩ : ∃ X, str (addrS f H L) = X := ⟨_, rfl⟩
  obtain ⟨Y, hY⟩ : ∃ Y, str (Lib.decDigits n) = Y := ⟨_, rfl⟩
  have hZ : str (pfxS f H L n) = X ++ ⟨#[47]⟩ ++ Y := by
    unfold pfxS
    rw [str_app, str_app, hX, hY]
    rfl
  rw [hZ]
  rw [hX] at HT s1
  rw [hY] at hD s3
  have t1 : X.size ≤ 83 := by omega
  have t2 : Y.size ≤ 20 := by omega
  have HI := Lib.hid hD
  clear hD hH hL hc hca s1 s2 s3 s4 hX hY hZ
  go_enter Tryz.func10, Tryz.ntmps10
  go_wp2_with fail
  generalize hv : World.alloc _ _ = v
  have TP : RowKit.Hid (Pf4 w.heap.size v f H L n) := Lib.hid (by rw [← hv]; exact Pf4.new w _ _ _ _ _)
  have HB := Lib.hid (show Below w.heap.size w v by rw [← hv]; exact below_new _ _)
  clear hv
  refine (HC.out v).mono ?_
  rintro e w1 ⟨rfl, hb1⟩
  have TP1 := Lib.hid (TP.out.on hb1)
  have HB1 := Lib.hid (HB.out.trans (hb1.mono HB.out.size))
  clear hb1 TP HB
  obtain ⟨p0, p1, p2, p3, _, _, _, _⟩ := TP1.out
  go_wp2_with fail
  refine (HT.out w1).mono ?_
  rintro e w2 ⟨rfl, hb2⟩
  have HB2 := Lib.hid (HB1.out.trans (hb2.mono HB1.out.size))
  have TP2 := Lib.hid (TP1.out.on hb2)
  clear hb2 HB1 TP1 p0 p1 p2 p3
  obtain ⟨p0, p1, p2, p3, _, _, _, _⟩ := TP2.out
  go_wp2_with fail
  refine (HI.out w2).mono ?_
  rintro e w3 ⟨rfl, rfl⟩
  go_wp2_with fail
  go_ret2
  exact ⟨rfl, HB2.out⟩
end Go.Proofs.YtlikgfmcialepaaGreatDoor
