/-
  THE WALK over SpanExact; it is true at every input.
-/
import Derived.Test.YtikhklnjjicfgaaDoorExactMath
namespace Go.Proofs.YtikhklnjjicfgaaDoor
open Go.RowKit Adr Spn
set_option linter.unusedVariables false
set_option linter.unusedSimpArgs false
variable {fl : Bool}
theorem schk_fam {f : Int} {A M : Nat} (hM : M < 2 ^ 128) (h : schk f A M = 0) : ∃ W : Nat, Fam f W ∧ A ≤ M ∧ M < 2 ^ W := by
  unfold schk at h
  split at h
  · split at h
    · rename_i h1 h2
      simp only [Bool.and_eq_true, decide_eq_true_eq] at h2
      obtain ⟨⟨h3, h4⟩, h5⟩ := h2
      unfold isA at h4
      by_cases h4' : f = 4
      · rw [if_pos h4'] at h4
        exact ⟨32, Or.inl ⟨h4', rfl⟩, h5, by simpa using h4⟩
      · rw [if_neg h4'] at h4
        exact ⟨128, Or.inr ⟨by simpa using h4, rfl⟩, h5, hM⟩
    · omega
  · omega
set_option maxRecDepth 100000 in
set_option maxHeartbeats 4000000 in
theorem exact_no (f : Int) (A M : Nat) (yh yl : Int) (c : Int) (hc : schk f A M = c) (hc0 : (c != 0) = true) (w : World) (env : Env fl w) :
    Calls Tryd.prog 6 #[.int .u8 f, .agg #[.int .u64 (aH A), .int .u64 (aL A), .int .u64 (aH M), .int .u64 (aL M)], .agg #[.int .u64 yh, .int .u64 yl]] w fun e w' => e = .returned (.bool true) ∧ Below w.heap.size w w' := by
  have hG := env.big
  have HE := Lib.hid env
  have HP := Lib.hid (fun w => pfx_no f A M c hc hc0 w)
  have HC := Lib.hid (fun w => schk_any f A M w)
  rw [hc] at HC
  clear env hc
  go_enter Tryd.func6, Tryd.ntmps6
  go_wp2_with fail
  generalize hv : World.alloc (World.alloc _ _) _ = v
  have TS : RowKit.Hid (Sp4 w.heap.size v (aH A) (aL A) (aH M) (aL M)) := Lib.hid (by rw [← hv]; exact (Sp4.new w _ _ _ _ _).on (below_new _ _))
  have HB := Lib.hid (show Below w.heap.size w v by rw [← hv]; exact ((Below.refl _ _).alloc (Nat.le_refl _) _).alloc (by simp) _)
  clear hv
  refine (alive2_any v (HE.out.below HB.out hG)).mono ?_
  rintro e w1 ⟨rfl, hb1⟩
  have HB1 := Lib.hid (HB.out.trans (hb1.mono HB.out.size))
  have TS1 := Lib.hid (TS.out.on hb1)
  clear hb1 HB TS HE
  obtain ⟨s0, s1, s2, s3, _⟩ := TS1.out
  go_wp2_with fail
  refine (HP.out w1).mono ?_
  rintro e w2 ⟨rfl, hb2⟩
  have HB2 := Lib.hid (HB1.out.trans (hb2.mono HB1.out.size))
  have TS2 := Lib.hid (TS1.out.on hb2)
  clear hb2 HB1 TS1 s0 s1 s2 s3
  obtain ⟨s0, s1, s2, s3, _⟩ := TS2.out
  go_wp2_with fail
  refine (HC.out w2).mono ?_
  rintro e w3 ⟨rfl, hb3⟩
  have HB3 := Lib.hid (HB2.out.trans (hb3.mono HB2.out.size))
  have TS3 := Lib.hid (TS2.out.on hb3)
  clear hb3 HB2 TS2 s0 s1 s2 s3
  obtain ⟨s0, s1, s2, s3, _⟩ := TS3.out
  go_wp2_with fail
  refine (HC.out w3).mono ?_
  rintro e w4 ⟨rfl, hb4⟩
  have HB4 := Lib.hid (HB3.out.trans (hb4.mono HB3.out.size))
  clear hb4 HB3 TS3 s0 s1 s2 s3
  go_wp2_with fail
  go_ret
  exact ⟨by simp, HB4.out⟩
set_option maxRecDepth 100000 in
set_option maxHeartbeats 4000000 in
theorem exact_yes {f : Int} {W : Nat} (hf : Fam f W) (A M Y : Nat) (hAM : A ≤ M) (hM : M < 2 ^ W) (hY : Y < 2 ^ 128) (hs : schk f A M = 0) (w : World) (env : Env fl w) :
    Calls Tryd.prog 6 #[.int .u8 f, .agg #[.int .u64 (aH A), .int .u64 (aL A), .int .u64 (aH M), .int .u64 (aL M)], .agg #[.int .u64 (aH Y), .int .u64 (aL Y)]] w fun e w' => e = .returned (.bool true) ∧ Below w.heap.size w w' := by
  obtain ⟨xs, hxs⟩ := steps_ex W (M + 1 - A) A
  obtain ⟨w1, w2, w3, w4⟩ := hf.wid
  have hlen : xs.length ≤ 254 := by have := len_all W w3 A (M + 1 - A) xs (by omega) hxs; omega
  have hpos : 0 < xs.length := by
    obtain ⟨t, rfl, _⟩ := hxs.inv (by omega)
    simp
  have hbl : Blocks W xs := fun p hp => by
    obtain ⟨h1, h2, h3, h4⟩ := steps_mem hxs p hp
    have := Nat.two_pow_pos p.2
    exact ⟨by omega, h4, h2⟩
  have hG := env.big
  have HE := Lib.hid env
  have HP := Lib.hid (fun w => pfx_yes hf A M hAM hM xs hxs w)
  have HC := Lib.hid (fun w => schk_any f A M w)
  rw [hs] at HC
  have HY := Lib.hid (fun w => isA_any f Y w)
  have HV := Lib.hid (fun Z (hZ : Z < 2 ^ W) g cap w hg hc => covered_any hf xs hbl hlen Z hZ g cap w hg hc)
  have HK1 := Lib.hid (fun w => cmpN_any A Y w)
  have HK2 := Lib.hid (fun w => cmpN_any Y M w)
  have HhA := Lib.hid (steps_hit hxs A)
  have HhM := Lib.hid (steps_hit hxs M)
  have HhY := Lib.hid (steps_hit hxs Y)
  have HM := Lib.hid hM
  have HAM := Lib.hid hAM
  have HYW := Lib.hid (show isA f Y = true → Y < 2 ^ W from fun h => by
    rcases hf with ⟨rfl, rfl⟩ | ⟨rfl, rfl⟩
    · unfold isA at h
      simpa using h
    · exact hY)
  have hl1 : ¬ (254 : Int) < (xs.length : Int) := by omega
  have hl2 : (xs.length : Int) ≤ 254 := by omega
  clear env hs hf hxs hbl hM hAM hY w1 w2 w3 w4
  go_enter Tryd.func6, Tryd.ntmps6
  go_wp2_with fail
  generalize hv : World.alloc (World.alloc _ _) _ = v
  have TS : RowKit.Hid (Sp4 w.heap.size v (aH A) (aL A) (aH M) (aL M)) := Lib.hid (by rw [← hv]; exact (Sp4.new w _ _ _ _ _).on (below_new _ _))
  have TA : RowKit.Hid (Ad2 (w.heap.size + 1) v (aH Y) (aL Y)) := Lib.hid (by
    rw [← hv]
    have := Ad2.new (w.alloc (.cells #[.int .u64 (aH A), .int .u64 (aL A), .int .u64 (aH M), .int .u64 (aL M)] 56)) (aH Y) (aL Y) 27
    simpa using this)
  have HB := Lib.hid (show Below w.heap.size w v by rw [← hv]; exact ((Below.refl _ _).alloc (Nat.le_refl _) _).alloc (by simp) _)
  clear hv
  refine (alive2_any v (HE.out.below HB.out hG)).mono ?_
  rintro e w1 ⟨rfl, hb1⟩
  have HB1 := Lib.hid (HB.out.trans (hb1.mono HB.out.size))
  have TS1 := Lib.hid (TS.out.on hb1)
  have TA1 := Lib.hid (TA.out.on hb1)
  clear hb1 HB TS TA HE
  obtain ⟨s0, s1, s2, s3, _⟩ := TS1.out
  go_wp2_with fail
  refine (HP.out w1).mono ?_
  rintro e w2 ⟨vv, rfl, hown, hb2⟩
  obtain ⟨g, cap, rfl, hg1, hg2, hg3, hg4⟩ := own_cells hown hpos
  have HB2 := Lib.hid (HB1.out.trans (hb2.mono HB1.out.size))
  have TS2 := Lib.hid (TS1.out.on hb2)
  have TA2 := Lib.hid (TA1.out.on hb2)
  have HX2 := Lib.hid hg4
  clear hb2 HB1 TS1 TA1 s0 s1 s2 s3 hown hg4 HP
  obtain ⟨s0, s1, s2, s3, _⟩ := TS2.out
  go_wp2_with fail
  refine (HC.out w2).mono ?_
  rintro e w3 ⟨rfl, hb3⟩
  have HB3 := Lib.hid (HB2.out.trans (hb3.mono HB2.out.size))
  have TS3 := Lib.hid (TS2.out.on hb3)
  have TA3 := Lib.hid (TA2.out.on hb3)
  have HX3 := Lib.hid (fun j x hx => (hb3.cell (p := ⟨g, j, none⟩) hg2).trans (HX2.out j x hx))
  have hg3' : g < w3.heap.size := Nat.lt_of_lt_of_le hg2 hb3.size
  clear hb3 HB2 TS2 TA2 s0 s1 s2 s3 HX2 hg2 HC
  obtain ⟨a0, a1, _, _⟩ := TA3.out
  go_wp2_with fail
  refine (HY.out w3).mono ?_
  rintro e w4 ⟨rfl, hb4⟩
  have HB4 := Lib.hid (HB3.out.trans (hb4.mono HB3.out.size))
  have TS4 := Lib.hid (TS3.out.on hb4)
  have TA4 := Lib.hid (TA3.out.on hb4)
  have HX4 := Lib.hid (fun j x hx => (hb4.cell (p := ⟨g, j, none⟩) hg3').trans (HX3.out j x hx))
  have hg4' : g < w4.heap.size := Nat.lt_of_lt_of_le hg3' hb4.size
  clear hb4 HB3 TS3 TA3 a0 a1 HX3 hg3' HY
  cases hy : isA f Y
  · go_wp2_with fail
    go_ret
    exact ⟨by simp, HB4.out⟩
  · have hYW := HYW.out hy
    obtain ⟨n1, hn1⟩ : ∃ n, xs.countP (hit Y) = n := ⟨_, rfl⟩
    have eA : xs.countP (hit A) = 1 := by rw [HhA.out, if_pos]; have := HAM.out; omega
    have eM : xs.countP (hit M) = 1 := by rw [HhM.out, if_pos]; have := HAM.out; omega
    have hAW : A < 2 ^ W := Nat.lt_of_le_of_lt HAM.out HM.out
    have VY := Lib.hid (HV.out Y hYW)
    have VA := Lib.hid (HV.out A hAW)
    have VM := Lib.hid (HV.out M HM.out)
    rw [hn1] at VY
    rw [eA] at VA
    rw [eM] at VM
    have hcase : ((cmpN A Y ≤ 0 ∧ cmpN Y M ≤ 0) ∧ n1 = 1) ∨ ((cmpN A Y ≤ 0 ∧ ¬ cmpN Y M ≤ 0) ∧ n1 = 0) ∨ ((¬ cmpN A Y ≤ 0) ∧ n1 = 0) := by
      have h1 := HhY.out
      rw [hn1] at h1
      have e1 : cmpN A Y ≤ 0 ↔ A ≤ Y := by
        unfold cmpN
        split
        · omega
        · split <;> omega
      have e2 : cmpN Y M ≤ 0 ↔ Y ≤ M := by
        unfold cmpN
        split
        · omega
        · split <;> omega
      rw [e1, e2]
      have h3 := HAM.out
      by_cases hin : A ≤ Y ∧ Y < A + (M + 1 - A)
      · rw [if_pos hin] at h1
        left; omega
      · rw [if_neg hin] at h1
        omega
    obtain ⟨k1, hk1⟩ : ∃ k, cmpN A Y = k := ⟨_, rfl⟩
    obtain ⟨k2, hk2⟩ : ∃ k, cmpN Y M = k := ⟨_, rfl⟩
    rw [hk1] at HK1 hcase
    rw [hk2] at HK2 hcase
    have KC := Lib.hid hcase
    clear hcase hk1 hk2 eA eM hn1 HhA HhM HhY HAM HM HV hAW hYW HYW
    obtain ⟨s0, s1, s2, s3, _⟩ := TS4.out
    obtain ⟨a0, a1, _, _⟩ := TA4.out
    rcases KC.out with ⟨⟨c1, c2⟩, rfl⟩ | ⟨⟨c1, c2⟩, rfl⟩ | ⟨c1, rfl⟩
    · clear KC
      go_wp2_with fail
      refine (HK1.out _).mono ?_
      rintro e w5 ⟨rfl, hb5⟩
      have HB5 := Lib.hid (HB4.out.trans (hb5.mono HB4.out.size))
      have TS5 := Lib.hid (TS4.out.on hb5)
      have TA5 := Lib.hid (TA4.out.on hb5)
      have HX5 := Lib.hid (fun j x hx => (hb5.cell (p := ⟨g, j, none⟩) hg4').trans (HX4.out j x hx))
      have hg5' : g < w5.heap.size := Nat.lt_of_lt_of_le hg4' hb5.size
      clear hb5 HB4 TS4 TA4 a0 a1 s0 s1 s2 s3 HX4 hg4'
      obtain ⟨s0, s1, s2, s3, _⟩ := TS5.out
      obtain ⟨a0, a1, _, _⟩ := TA5.out
      go_wp2_with fail
      refine (HK2.out _).mono ?_
      rintro e w6 ⟨rfl, hb6⟩
      have HB6 := Lib.hid (HB5.out.trans (hb6.mono HB5.out.size))
      have TS6 := Lib.hid (TS5.out.on hb6)
      have TA6 := Lib.hid (TA5.out.on hb6)
      have HX6 := Lib.hid (fun j x hx => (hb6.cell (p := ⟨g, j, none⟩) hg5').trans (HX5.out j x hx))
      have hg6' : g < w6.heap.size := Nat.lt_of_lt_of_le hg5' hb6.size
      clear hb6 HB5 TS5 TA5 a0 a1 s0 s1 s2 s3 HX5 hg5'
      obtain ⟨s0, s1, s2, s3, _⟩ := TS6.out
      obtain ⟨a0, a1, _, _⟩ := TA6.out
      go_wp2_with fail
      refine (VY.out g cap _ hg6' HX6.out).mono ?_
      rintro e w7 ⟨rfl, hb7⟩
      have HB7 := Lib.hid (HB6.out.trans (hb7.mono HB6.out.size))
      have TS7 := Lib.hid (TS6.out.on hb7)
      have HX7 := Lib.hid (fun j x hx => (hb7.cell (p := ⟨g, j, none⟩) hg6').trans (HX6.out j x hx))
      have hg7' : g < w7.heap.size := Nat.lt_of_lt_of_le hg6' hb7.size
      clear hb7 HB6 TS6 TA6 a0 a1 s0 s1 s2 s3 HX6 hg6'
      obtain ⟨s0, s1, s2, s3, _⟩ := TS7.out
      go_wp2_with fail
      refine (VA.out g cap _ hg7' HX7.out).mono ?_
      rintro e w8 ⟨rfl, hb8⟩
      have HB8 := Lib.hid (HB7.out.trans (hb8.mono HB7.out.size))
      have TS8 := Lib.hid (TS7.out.on hb8)
      have HX8 := Lib.hid (fun j x hx => (hb8.cell (p := ⟨g, j, none⟩) hg7').trans (HX7.out j x hx))
      have hg8' : g < w8.heap.size := Nat.lt_of_lt_of_le hg7' hb8.size
      clear hb8 HB7 TS7 s0 s1 s2 s3 HX7 hg7'
      obtain ⟨s0, s1, s2, s3, _⟩ := TS8.out
      go_wp2_with fail
      refine (VM.out g cap _ hg8' HX8.out).mono ?_
      rintro e w9 ⟨rfl, hb9⟩
      have HB9 := Lib.hid (HB8.out.trans (hb9.mono HB8.out.size))
      clear hb9 HB8 TS8 s0 s1 s2 s3
      go_wp2_with fail
      go_ret
      exact ⟨by simp, HB9.out⟩
    · clear KC
      go_wp2_with fail
      refine (HK1.out _).mono ?_
      rintro e w5 ⟨rfl, hb5⟩
      have HB5 := Lib.hid (HB4.out.trans (hb5.mono HB4.out.size))
      have TS5 := Lib.hid (TS4.out.on hb5)
      have TA5 := Lib.hid (TA4.out.on hb5)
      have HX5 := Lib.hid (fun j x hx => (hb5.cell (p := ⟨g, j, none⟩) hg4').trans (HX4.out j x hx))
      have hg5' : g < w5.heap.size := Nat.lt_of_lt_of_le hg4' hb5.size
      clear hb5 HB4 TS4 TA4 a0 a1 s0 s1 s2 s3 HX4 hg4'
      obtain ⟨s0, s1, s2, s3, _⟩ := TS5.out
      obtain ⟨a0, a1, _, _⟩ := TA5.out
      go_wp2_with fail
      refine (HK2.out _).mono ?_
      rintro e w6 ⟨rfl, hb6⟩
      have HB6 := Lib.hid (HB5.out.trans (hb6.mono HB5.out.size))
      have TS6 := Lib.hid (TS5.out.on hb6)
      have TA6 := Lib.hid (TA5.out.on hb6)
      have HX6 := Lib.hid (fun j x hx => (hb6.cell (p := ⟨g, j, none⟩) hg5').trans (HX5.out j x hx))
      have hg6' : g < w6.heap.size := Nat.lt_of_lt_of_le hg5' hb6.size
      clear hb6 HB5 TS5 TA5 a0 a1 s0 s1 s2 s3 HX5 hg5'
      obtain ⟨s0, s1, s2, s3, _⟩ := TS6.out
      obtain ⟨a0, a1, _, _⟩ := TA6.out
      go_wp2_with fail
      refine (VY.out g cap _ hg6' HX6.out).mono ?_
      rintro e w7 ⟨rfl, hb7⟩
      have HB7 := Lib.hid (HB6.out.trans (hb7.mono HB6.out.size))
      have TS7 := Lib.hid (TS6.out.on hb7)
      have HX7 := Lib.hid (fun j x hx => (hb7.cell (p := ⟨g, j, none⟩) hg6').trans (HX6.out j x hx))
      have hg7' : g < w7.heap.size := Nat.lt_of_lt_of_le hg6' hb7.size
      clear hb7 HB6 TS6 TA6 a0 a1 s0 s1 s2 s3 HX6 hg6'
      obtain ⟨s0, s1, s2, s3, _⟩ := TS7.out
      go_wp2_with fail
      refine (VA.out g cap _ hg7' HX7.out).mono ?_
      rintro e w8 ⟨rfl, hb8⟩
      have HB8 := Lib.hid (HB7.out.trans (hb8.mono HB7.out.size))
      have TS8 := Lib.hid (TS7.out.on hb8)
      have HX8 := Lib.hid (fun j x hx => (hb8.cell (p := ⟨g, j, none⟩) hg7').trans (HX7.out j x hx))
      have hg8' : g < w8.heap.size := Nat.lt_of_lt_of_le hg7' hb8.size
      clear hb8 HB7 TS7 s0 s1 s2 s3 HX7 hg7'
      obtain ⟨s0, s1, s2, s3, _⟩ := TS8.out
      go_wp2_with fail
      refine (VM.out g cap _ hg8' HX8.out).mono ?_
      rintro e w9 ⟨rfl, hb9⟩
      have HB9 := Lib.hid (HB8.out.trans (hb9.mono HB8.out.size))
      clear hb9 HB8 TS8 s0 s1 s2 s3
      go_wp2_with fail
      go_ret
      exact ⟨by simp, HB9.out⟩
    · clear KC
      go_wp2_with fail
      refine (HK1.out _).mono ?_
      rintro e w6 ⟨rfl, hb6⟩
      have HB6 := Lib.hid (HB4.out.trans (hb6.mono HB4.out.size))
      have TS6 := Lib.hid (TS4.out.on hb6)
      have TA6 := Lib.hid (TA4.out.on hb6)
      have HX6 := Lib.hid (fun j x hx => (hb6.cell (p := ⟨g, j, none⟩) hg4').trans (HX4.out j x hx))
      have hg6' : g < w6.heap.size := Nat.lt_of_lt_of_le hg4' hb6.size
      clear hb6 HB4 TS4 TA4 a0 a1 s0 s1 s2 s3 HX4 hg4'
      obtain ⟨s0, s1, s2, s3, _⟩ := TS6.out
      obtain ⟨a0, a1, _, _⟩ := TA6.out
      go_wp2_with fail
      refine (VY.out g cap _ hg6' HX6.out).mono ?_
      rintro e w7 ⟨rfl, hb7⟩
      have HB7 := Lib.hid (HB6.out.trans (hb7.mono HB6.out.size))
      have TS7 := Lib.hid (TS6.out.on hb7)
      have HX7 := Lib.hid (fun j x hx => (hb7.cell (p := ⟨g, j, none⟩) hg6').trans (HX6.out j x hx))
      have hg7' : g < w7.heap.size := Nat.lt_of_lt_of_le hg6' hb7.size
      clear hb7 HB6 TS6 TA6 a0 a1 s0 s1 s2 s3 HX6 hg6'
      obtain ⟨s0, s1, s2, s3, _⟩ := TS7.out
      go_wp2_with fail
      refine (VA.out g cap _ hg7' HX7.out).mono ?_
      rintro e w8 ⟨rfl, hb8⟩
      have HB8 := Lib.hid (HB7.out.trans (hb8.mono HB7.out.size))
      have TS8 := Lib.hid (TS7.out.on hb8)
      have HX8 := Lib.hid (fun j x hx => (hb8.cell (p := ⟨g, j, none⟩) hg7').trans (HX7.out j x hx))
      have hg8' : g < w8.heap.size := Nat.lt_of_lt_of_le hg7' hb8.size
      clear hb8 HB7 TS7 s0 s1 s2 s3 HX7 hg7'
      obtain ⟨s0, s1, s2, s3, _⟩ := TS8.out
      go_wp2_with fail
      refine (VM.out g cap _ hg8' HX8.out).mono ?_
      rintro e w9 ⟨rfl, hb9⟩
      have HB9 := Lib.hid (HB8.out.trans (hb9.mono HB8.out.size))
      clear hb9 HB8 TS8 s0 s1 s2 s3
      go_wp2_with fail
      go_ret
      exact ⟨by simp, HB9.out⟩
theorem exact_true (f a b c d y1 y2 : Int) (w : World) (env : Env fl w) (ua : U64 a) (ub : U64 b) (uc : U64 c) (ud : U64 d) (u1 : U64 y1) (u2 : U64 y2) :
    Calls Tryd.prog 6 #[.int .u8 f, .agg #[.int .u64 a, .int .u64 b, .int .u64 c, .int .u64 d], .agg #[.int .u64 y1, .int .u64 y2]] w fun e w' => e = .returned (.bool true) ∧ Below w.heap.size w w' := by
  obtain ⟨A, hA, rfl, rfl⟩ := a_of ua ub
  obtain ⟨M, hM, rfl, rfl⟩ := a_of uc ud
  obtain ⟨Y, hY, rfl, rfl⟩ := a_of u1 u2
  by_cases hs : schk f A M = 0
  · obtain ⟨W, hf, hAM, hMW⟩ := schk_fam hM hs
    exact exact_yes hf A M Y hAM hMW hY hs w env
  · exact exact_no f A M _ _ _ rfl (by rw [bne_iff_ne]; exact hs) w env
end Go.Proofs.YtikhklnjjicfgaaDoor
