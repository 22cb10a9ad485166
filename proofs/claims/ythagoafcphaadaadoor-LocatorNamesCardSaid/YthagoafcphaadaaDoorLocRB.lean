/-
  THE WALKS over the reference of layer 9: letter, Name, usual, host.
-/
import Derived.Test.YthagoafcphaadaaDoorLocRA
import Derived.Test.YthagoafcphaadaaDoorLocRM
namespace Go.Proofs.YthagoafcphaadaaDoor
open Go.RowKit Lo
set_option linter.unusedVariables false
set_option linter.unusedSimpArgs false
set_option maxRecDepth 100000 in
set_option maxHeartbeats 4000000 in
theorem letter_any (n : Nat) (w : World) :
    Calls Tryd.prog 35 #[.int .u8 n] w fun e w' => e = .returned (.bool (letB n)) ∧ w' = w := by
  have hq : letB n = ((decide (97 ≤ n) && decide (n ≤ 122)) || (decide (48 ≤ n) && decide (n ≤ 57))) := rfl
  generalize letB n = R at hq ⊢
  go_enter Tryd.func35, Tryd.ntmps35
  by_cases h1 : 97 ≤ n
  · have i1 : (n : Int) ≥ 97 := by omega
    by_cases h2 : n ≤ 122
    · have i2 : (n : Int) ≤ 122 := by omega
      rw [decide_eq_true h1, decide_eq_true h2] at hq
      have HQ : RowKit.Hid (R = true) := hq
      clear hq h1 h2
      go_wp2_with fail
      go_ret
      exact ⟨by rw [HQ.out]; rfl, rfl⟩
    · have i2 : ¬ (n : Int) ≤ 122 := by omega
      have i3 : (n : Int) ≥ 48 := by omega
      have i4 : ¬ (n : Int) ≤ 57 := by omega
      rw [decide_eq_false h2, decide_eq_false (show ¬ n ≤ 57 by omega), Bool.and_false, Bool.and_false] at hq
      have HQ : RowKit.Hid (R = false) := hq
      clear hq h1 h2
      go_wp2_with fail
      go_ret
      exact ⟨by rw [HQ.out]; rfl, rfl⟩
  · have i1 : ¬ (n : Int) ≥ 97 := by omega
    rw [decide_eq_false h1, Bool.false_and, Bool.false_or] at hq
    by_cases h3 : 48 ≤ n
    · have i3 : (n : Int) ≥ 48 := by omega
      by_cases h4 : n ≤ 57
      · have i4 : (n : Int) ≤ 57 := by omega
        rw [decide_eq_true h3, decide_eq_true h4] at hq
        have HQ : RowKit.Hid (R = true) := hq
        clear hq h1 h3 h4
        go_wp2_with fail
        go_ret
        exact ⟨by rw [HQ.out]; rfl, rfl⟩
      · have i4 : ¬ (n : Int) ≤ 57 := by omega
        rw [decide_eq_false h4, Bool.and_false] at hq
        have HQ : RowKit.Hid (R = false) := hq
        clear hq h1 h3 h4
        go_wp2_with fail
        go_ret
        exact ⟨by rw [HQ.out]; rfl, rfl⟩
    · have i3 : ¬ (n : Int) ≥ 48 := by omega
      rw [decide_eq_false h3, Bool.false_and] at hq
      have HQ : RowKit.Hid (R = false) := hq
      clear hq h1 h3
      go_wp2_with fail
      go_ret
      exact ⟨by rw [HQ.out]; rfl, rfl⟩
set_option maxRecDepth 100000 in
set_option maxHeartbeats 4000000 in
theorem usual_any (n : Nat) (hn : n = 1 ∨ n = 2) (w : World) :
    Calls Tryd.prog 50 #[.int .u8 n] w fun e w' => e = .returned (.int .i64 (usual n)) ∧ w' = w := by
  go_enter Tryd.func50, Tryd.ntmps50
  rcases hn with rfl | rfl
  · go_wp2_with fail
    go_ret
    exact ⟨rfl, rfl⟩
  · go_wp2_with fail
    go_ret
    exact ⟨rfl, rfl⟩
set_option maxRecDepth 100000 in
set_option maxHeartbeats 8000000 in
theorem rname_any (s : ByteArray) (w : World) (hs : s.size < 4294967281) :
    Calls Tryd.prog 20 #[.string s] w fun e w' => e = .returned (.bool (nameB s.data.toList)) ∧ w' = w := by
  have hN : nameB s.data.toList = (decide (1 ≤ s.size) && decide (s.size ≤ 40) && !(s.toList == [46]) && !(s.toList == [46, 46]) && s.data.toList.all inP) := by
    unfold nameB
    rw [data_len, eqS, eqS]
  have hlen : s.data.toList.length = s.size := by simp
  obtain ⟨l, hl⟩ : ∃ l, s.data.toList = l := ⟨_, rfl⟩
  have HAT : RowKit.Hid (∀ k, (h : k < s.size) → ∃ h2 : k < l.length, l[k] = s[k]) := Lib.hid (by
    intro k h
    subst hl
    exact ⟨by rw [hlen]; exact h, rfl⟩)
  rw [hl] at hlen hN ⊢
  have HLEN := Lib.hid hlen
  generalize nameB l = R at hN ⊢
  clear hl hlen
  go_enter Tryd.func20, Tryd.ntmps20
  by_cases h1 : 1 ≤ s.size
  · have i1 : ¬ (s.size : Int) < 1 := by omega
    rw [decide_eq_true h1, Bool.true_and] at hN
    by_cases h2 : s.size ≤ 40
    · have i2 : ¬ (s.size : Int) > 40 := by omega
      rw [decide_eq_true h2, Bool.true_and] at hN
      cases h3 : (s.toList == [46])
      · rw [h3, Bool.not_false, Bool.true_and] at hN
        cases h4 : (s.toList == [46, 46])
        · rw [h4, Bool.not_false, Bool.true_and] at hN
          have HN := Lib.hid hN
          clear hN h1
          go_wp2_with fail
          go_loopw [3] (fun i wr => ∃ k : Nat, k ≤ s.size ∧ i = .int .i64 k ∧ (l.take k).all inP = true ∧ wr = w) (fun i _ => s.size - (intOf i).toNat)
          case atStart => exact ⟨0, by omega, rfl, by simp, rfl⟩
          case round =>
            obtain ⟨k, hk, rfl, hnf, rfl⟩ := hrel
            have HNF := Lib.hid hnf
            clear hnf
            by_cases hlt : k < s.size
            · have hki : (k : Int) < (s.size : Int) := by omega
              obtain ⟨hkl, hkc⟩ := HAT.out k hlt
              have hin := inP_let l[k]
              have HGO := Lib.hid (fun (h : inP l[k] = true) => take_all inP l k hkl HNF.out h)
              have HNO := Lib.hid (fun (h : inP l[k] = false) => not_all inP l k hkl h)
              generalize inP l[k] = IP at hin HGO HNO
              rw [hkc] at hin
              obtain ⟨n, hn⟩ : ∃ n, (s[k]'hlt).toNat = n := ⟨_, rfl⟩
              have HLT := Lib.hid (letter_any n)
              rw [hn] at hin
              have HS : RowKit.Hid (((s[k]'hlt).toNat : Int) = (n : Int)) := Lib.hid (by rw [hn])
              clear hkc hn
              cases hlet : letB n
              · rw [hlet, Bool.false_or] at hin
                rw [hlet] at HLT
                by_cases h65 : n < 65
                · have i65 : (n : Int) < 65 := by omega
                  by_cases hq45 : n = 45
                  · have e45 : ((n : Int) != 45) = false := by rw [bne_eq_false_iff_eq]; omega
                    have hin : IP = true := by rw [hin, decide_eq_true hq45]; simp
                    clear hlet
                    go_wp2_with fail
                    rw [HS.out]
                    refine (HLT.out wr).mono ?_
                    rintro e w2 ⟨rfl, rfl⟩
                    go_wp2_with fail
                    go_roundw
                    case rel => exact ⟨k + 1, by omega, by go_num, HGO.out hin, by first | rfl | trivial⟩
                    case measure => simp [intOf]; omega
                  · have e45 : ((n : Int) != 45) = true := by rw [bne_iff_ne]; omega
                    have e95 : ((n : Int) != 95) = true := by rw [bne_iff_ne]; omega
                    by_cases hq46 : n = 46
                    · have e46 : ((n : Int) != 46) = false := by rw [bne_eq_false_iff_eq]; omega
                      have hin : IP = true := by rw [hin, decide_eq_true hq46]; simp
                      clear hlet
                      go_wp2_with fail
                      rw [HS.out]
                      refine (HLT.out wr).mono ?_
                      rintro e w2 ⟨rfl, rfl⟩
                      go_wp2_with fail
                      go_roundw
                      case rel => exact ⟨k + 1, by omega, by go_num, HGO.out hin, by first | rfl | trivial⟩
                      case measure => simp [intOf]; omega
                    · have e46 : ((n : Int) != 46) = true := by rw [bne_iff_ne]; omega
                      have hin : IP = false := by rw [hin, decide_eq_false (show ¬ 65 ≤ n by omega), decide_eq_false hq45, decide_eq_false (show ¬ n = 95 by omega), decide_eq_false hq46]; rfl
                      clear hlet
                      go_wp2_with fail
                      rw [HS.out]
                      refine (HLT.out wr).mono ?_
                      rintro e w2 ⟨rfl, rfl⟩
                      go_wp2_with fail
                      go_ret
                      exact ⟨by rw [HN.out, HNO.out hin]; rfl, rfl⟩
                · have i65 : ¬ (n : Int) < 65 := by omega
                  by_cases h90 : n ≤ 90
                  · have i90 : ¬ (n : Int) > 90 := by omega
                    have hin : IP = true := by rw [hin, decide_eq_true (show 65 ≤ n by omega), decide_eq_true h90]; simp
                    clear hlet
                    go_wp2_with fail
                    rw [HS.out]
                    refine (HLT.out wr).mono ?_
                    rintro e w2 ⟨rfl, rfl⟩
                    go_wp2_with fail
                    go_roundw
                    case rel => exact ⟨k + 1, by omega, by go_num, HGO.out hin, by first | rfl | trivial⟩
                    case measure => simp [intOf]; omega
                  · have i90 : (n : Int) > 90 := by omega
                    have e45 : ((n : Int) != 45) = true := by rw [bne_iff_ne]; omega
                    have e46 : ((n : Int) != 46) = true := by rw [bne_iff_ne]; omega
                    by_cases hq95 : n = 95
                    · have e95 : ((n : Int) != 95) = false := by rw [bne_eq_false_iff_eq]; omega
                      have hin : IP = true := by rw [hin, decide_eq_true hq95]; simp
                      clear hlet
                      go_wp2_with fail
                      rw [HS.out]
                      refine (HLT.out wr).mono ?_
                      rintro e w2 ⟨rfl, rfl⟩
                      go_wp2_with fail
                      go_roundw
                      case rel => exact ⟨k + 1, by omega, by go_num, HGO.out hin, by first | rfl | trivial⟩
                      case measure => simp [intOf]; omega
                    · have e95 : ((n : Int) != 95) = true := by rw [bne_iff_ne]; omega
                      have hin : IP = false := by rw [hin, decide_eq_false h90, decide_eq_false (show ¬ n = 45 by omega), decide_eq_false hq95, decide_eq_false (show ¬ n = 46 by omega)]; simp
                      clear hlet
                      go_wp2_with fail
                      rw [HS.out]
                      refine (HLT.out wr).mono ?_
                      rintro e w2 ⟨rfl, rfl⟩
                      go_wp2_with fail
                      go_ret
                      exact ⟨by rw [HN.out, HNO.out hin]; rfl, rfl⟩
              · rw [hlet] at HLT hin
                have hin : IP = true := by rw [hin]; simp
                clear hlet
                go_wp2_with fail
                rw [HS.out]
                refine (HLT.out wr).mono ?_
                rintro e w2 ⟨rfl, rfl⟩
                go_wp2_with fail
                go_roundw
                case rel => exact ⟨k + 1, by omega, by go_num, HGO.out hin, by first | rfl | trivial⟩
                case measure => simp [intOf]; omega
            · have hki : (s.size : Int) ≤ (k : Int) := by omega
              have HR : RowKit.Hid (l.all inP = true) := Lib.hid (by
                have := HNF.out
                rw [List.take_of_length_le (by rw [HLEN.out]; omega)] at this
                exact this)
              go_wp2_with fail
              go_ret
              exact ⟨by rw [HN.out, HR.out]; rfl, rfl⟩
        · rw [h4] at hN
          have HN : RowKit.Hid (R = false) := hN
          clear hN h1 h2
          go_wp2_with fail
          go_ret
          exact ⟨by rw [HN.out]; rfl, rfl⟩
      · rw [h3] at hN
        have HN : RowKit.Hid (R = false) := hN
        clear hN h1 h2
        go_wp2_with fail
        go_ret
        exact ⟨by rw [HN.out]; rfl, rfl⟩
    · have i2 : (s.size : Int) > 40 := by omega
      rw [decide_eq_false h2] at hN
      have HN : RowKit.Hid (R = false) := hN
      clear hN h1 h2
      go_wp2_with fail
      go_ret
      exact ⟨by rw [HN.out]; rfl, rfl⟩
  · have i1 : (s.size : Int) < 1 := by omega
    rw [decide_eq_false h1] at hN
    have HN : RowKit.Hid (R = false) := hN
    clear hN h1
    go_wp2_with fail
    go_ret
    exact ⟨by rw [HN.out]; rfl, rfl⟩
end Go.Proofs.YthagoafcphaadaaDoor
