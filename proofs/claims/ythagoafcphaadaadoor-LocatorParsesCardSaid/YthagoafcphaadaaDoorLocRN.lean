/-
  THE WALKS over the reference of layer 9: until, Kind.
-/
import Derived.Test.YthagoafcphaadaaDoorLocRB
import Derived.Test.YthagoafcphaadaaDoorLocRPM
import Derived.Test.YthagoafcphaadaaDoorLocWI
namespace Go.Proofs.YthagoafcphaadaaDoor
open Go.RowKit Lo
set_option linter.unusedVariables false
set_option linter.unusedSimpArgs false
set_option maxRecDepth 100000 in
set_option maxHeartbeats 4000000 in
theorem until_any (s : ByteArray) (n : Nat) (a b : UInt8) (A B : Nat) (hA : a.toNat = A) (hB : b.toNat = B) (hn : n ≤ s.size) (hs : s.size ≤ 1000) (w : World) :
    Calls Tryd.prog 32 #[.string s, .int .i64 n, .int .u8 A, .int .u8 B] w fun e w' => e = .returned (.int .i64 (un a b s.data.toList n : Nat)) ∧ w' = w := by
  obtain ⟨l, hl⟩ : ∃ l, s.data.toList = l := ⟨_, rfl⟩
  have hlen : l.length = s.size := by rw [← hl]; simp
  have HAT : RowKit.Hid (∀ k, (h : k < s.size) → l[k]? = some s[k]) := Lib.hid (by
    intro k h
    subst hl
    have h2 : k < s.data.toList.length := by rw [hlen]; exact h
    rw [List.getElem?_eq_getElem h2]
    rfl)
  rw [hl]
  have HU : RowKit.Hid (∀ k, n ≤ k → k ≤ s.size → (∀ j x, n ≤ j → j < k → l[j]? = some x → x ≠ a ∧ x ≠ b) → (∀ x, l[k]? = some x → x = a ∨ x = b) → un a b l n = k) := Lib.hid (fun k h1 h2 h3 h4 => un_eq a b l n k h1 (by rw [hlen]; exact h2) h3 h4)
  have HNL : RowKit.Hid (∀ k x, s.size ≤ k → l[k]? = some x → False) := Lib.hid (fun k x h1 h2 => by
    have := (List.getElem?_eq_some_iff.1 h2).1
    omega)
  generalize un a b l n = R at HU ⊢
  clear hl hlen
  go_enter Tryd.func32, Tryd.ntmps32
  go_wp2_with fail
  go_loopw [1] (fun i wr => ∃ k : Nat, n ≤ k ∧ k ≤ s.size ∧ i = .int .i64 k ∧ (∀ j x, n ≤ j → j < k → l[j]? = some x → x ≠ a ∧ x ≠ b) ∧ wr = w) (fun i _ => s.size - (intOf i).toNat)
  case atStart => exact ⟨n, Nat.le_refl _, hn, rfl, fun j x h1 h2 => absurd h2 (by omega), rfl⟩
  case round =>
    obtain ⟨k, hnk, hk, rfl, hno, rfl⟩ := hrel
    have HNO := Lib.hid hno
    clear hno
    by_cases hlt : k < s.size
    · have hki : (k : Int) < (s.size : Int) := by omega
      have HX := Lib.hid (HAT.out k hlt)
      by_cases hxa : s[k]'hlt = a
      · have ia : (((s[k]'hlt).toNat : Int) != (A : Int)) = false := by rw [bne_eq_false_iff_eq, hxa, hA]
        have HR := Lib.hid (HU.out k hnk hk HNO.out (fun x hx => .inl (by rw [HX.out] at hx; exact (Option.some.inj hx).symm.trans hxa)))
        clear hxa hA hB
        go_wp2_with fail
        go_ret
        exact ⟨by rw [HR.out]; rfl, by first | rfl | trivial⟩
      · have ia : (((s[k]'hlt).toNat : Int) != (A : Int)) = true := by
          rw [bne_iff_ne]
          intro e
          apply hxa
          apply UInt8.toNat_inj.1
          rw [hA]
          omega
        by_cases hxb : s[k]'hlt = b
        · have ib : (((s[k]'hlt).toNat : Int) != (B : Int)) = false := by rw [bne_eq_false_iff_eq, hxb, hB]
          have HR := Lib.hid (HU.out k hnk hk HNO.out (fun x hx => .inr (by rw [HX.out] at hx; exact (Option.some.inj hx).symm.trans hxb)))
          clear hxa hxb hA hB
          go_wp2_with fail
          go_ret
          exact ⟨by rw [HR.out]; rfl, by first | rfl | trivial⟩
        · have ib : (((s[k]'hlt).toNat : Int) != (B : Int)) = true := by
            rw [bne_iff_ne]
            intro e
            apply hxb
            apply UInt8.toNat_inj.1
            rw [hB]
            omega
          have HN := Lib.hid (show ∀ j x, n ≤ j → j < k + 1 → l[j]? = some x → x ≠ a ∧ x ≠ b from fun j x h1 h2 h3 => by
            by_cases e : j = k
            · subst e
              rw [HX.out] at h3
              rw [← Option.some.inj h3]
              exact ⟨hxa, hxb⟩
            · exact HNO.out j x h1 (by omega) h3)
          clear hxa hxb hA hB
          go_wp2_with fail
          go_roundw
          case rel => exact ⟨k + 1, by omega, by omega, by go_num, HN.out, by first | rfl | trivial⟩
          case measure => simp [intOf]; omega
    · have hki : (s.size : Int) ≤ (k : Int) := by omega
      have HR := Lib.hid (HU.out k hnk hk HNO.out (fun x hx => absurd hx (fun h => HNL.out k x (by omega) h)))
      clear hA hB
      go_wp2_with fail
      go_ret
      exact ⟨by rw [HR.out]; rfl, by first | rfl | trivial⟩
theorem kind_no {s : List UInt8} (h : ¬ (nameB s = true ∧ 4 < s.length)) : kindL s = 0 := by unfold kindL; rw [if_neg h]
set_option maxRecDepth 100000 in
set_option maxHeartbeats 4000000 in
theorem rkind_any (s : List UInt8) (hs : s.length < 1000) (w : World) :
    Calls Tryd.prog 21 #[.string (str s)] w fun e w' => e = .returned (.int .u8 (kindL s : Nat)) ∧ w' = w := by
  have HN := Lib.hid (rname_any (str s) w (by rw [str_size]; omega))
  rw [str_dat] at HN
  have HZ : RowKit.Hid (¬ (nameB s = true ∧ 4 < s.length) → kindL s = 0) := Lib.hid kind_no
  have hkk : nameB s = true → 4 < s.length → kindL s = if s.drop (s.length - 4) = [46, 99, 101, 114] then 1 else if s.drop (s.length - 4) = [46, 99, 114, 108] then 2 else if s.drop (s.length - 4) = [46, 109, 102, 116] then 3 else if s.drop (s.length - 4) = [46, 114, 111, 97] then 4 else if s.drop (s.length - 4) = [46, 97, 115, 97] then 5 else 0 := fun h1 h2 => by
    unfold kindL
    rw [if_pos ⟨h1, h2⟩]
  generalize kindL s = KD at HZ hkk ⊢
  generalize nameB s = NB at HN HZ hkk
  go_enter Tryd.func21, Tryd.ntmps21
  cases NB
  · have HK := Lib.hid (HZ.out (fun h => by cases h.1))
    clear hkk
    go_wp2_with fail
    refine HN.out.mono ?_
    rintro e w2 ⟨rfl, rfl⟩
    go_wp2_with fail
    go_ret
    exact ⟨by rw [HK.out]; rfl, rfl⟩
  · by_cases h4 : 4 < s.length
    · have i1 : ¬ ((str s).size : Int) < 5 := by rw [str_size]; omega
      have hk2 := hkk rfl h4
      have he : (str s).extract (s.length - 4) (str s).size = str (s.drop (s.length - 4)) := ext_drop s _
      have i2 : ((str s).size : Int) - 4 = ((s.length - 4 : Nat) : Int) := by rw [str_size]; omega
      have heq : ∀ z : List UInt8, ((str (s.drop (s.length - 4))).toList == z) = decide (s.drop (s.length - 4) = z) := fun z => by rw [eqS, str_dat]
      have HEX := Lib.hid he
      clear hkk he
      generalize s.drop (s.length - 4) = X at hk2 heq HEX
      by_cases h1 : X = [46, 99, 101, 114]
      · rw [if_pos h1] at hk2
        have HK := Lib.hid hk2
        have j1 := (heq [46, 99, 101, 114]).trans (decide_eq_true h1)
        clear hk2 heq h1
        go_wp2_with fail
        refine HN.out.mono ?_
        rintro e w2 ⟨rfl, rfl⟩
        go_upto_region 4 with (fail)
        rw [HEX.out]
        go_wp2_with fail
        go_ret
        exact ⟨by rw [HK.out]; rfl, rfl⟩
      · rw [if_neg h1] at hk2
        have j1 := (heq [46, 99, 101, 114]).trans (decide_eq_false h1)
        by_cases h2 : X = [46, 99, 114, 108]
        · rw [if_pos h2] at hk2
          have HK := Lib.hid hk2
          have j2 := (heq [46, 99, 114, 108]).trans (decide_eq_true h2)
          clear hk2 heq h1 h2
          go_wp2_with fail
          refine HN.out.mono ?_
          rintro e w2 ⟨rfl, rfl⟩
          go_upto_region 4 with (fail)
          rw [HEX.out]
          go_wp2_with fail
          go_ret
          exact ⟨by rw [HK.out]; rfl, rfl⟩
        · rw [if_neg h2] at hk2
          have j2 := (heq [46, 99, 114, 108]).trans (decide_eq_false h2)
          by_cases h3 : X = [46, 109, 102, 116]
          · rw [if_pos h3] at hk2
            have HK := Lib.hid hk2
            have j3 := (heq [46, 109, 102, 116]).trans (decide_eq_true h3)
            clear hk2 heq h1 h2 h3
            go_wp2_with fail
            refine HN.out.mono ?_
            rintro e w2 ⟨rfl, rfl⟩
            go_upto_region 4 with (fail)
            rw [HEX.out]
            go_wp2_with fail
            go_ret
            exact ⟨by rw [HK.out]; rfl, rfl⟩
          · rw [if_neg h3] at hk2
            have j3 := (heq [46, 109, 102, 116]).trans (decide_eq_false h3)
            by_cases h5 : X = [46, 114, 111, 97]
            · rw [if_pos h5] at hk2
              have HK := Lib.hid hk2
              have j4 := (heq [46, 114, 111, 97]).trans (decide_eq_true h5)
              clear hk2 heq h1 h2 h3 h5
              go_wp2_with fail
              refine HN.out.mono ?_
              rintro e w2 ⟨rfl, rfl⟩
              go_upto_region 4 with (fail)
              rw [HEX.out]
              go_wp2_with fail
              go_ret
              exact ⟨by rw [HK.out]; rfl, rfl⟩
            · rw [if_neg h5] at hk2
              have j4 := (heq [46, 114, 111, 97]).trans (decide_eq_false h5)
              by_cases h6 : X = [46, 97, 115, 97]
              · rw [if_pos h6] at hk2
                have HK := Lib.hid hk2
                have j5 := (heq [46, 97, 115, 97]).trans (decide_eq_true h6)
                clear hk2 heq h1 h2 h3 h5 h6
                go_wp2_with fail
                refine HN.out.mono ?_
                rintro e w2 ⟨rfl, rfl⟩
                go_upto_region 4 with (fail)
                rw [HEX.out]
                go_wp2_with fail
                go_ret
                exact ⟨by rw [HK.out]; rfl, rfl⟩
              · rw [if_neg h6] at hk2
                have HK := Lib.hid hk2
                have j5 := (heq [46, 97, 115, 97]).trans (decide_eq_false h6)
                clear hk2 heq h1 h2 h3 h5 h6
                go_wp2_with fail
                refine HN.out.mono ?_
                rintro e w2 ⟨rfl, rfl⟩
                go_upto_region 4 with (fail)
                rw [HEX.out]
                go_wp2_with fail
                go_ret
                exact ⟨by rw [HK.out]; rfl, rfl⟩
    · have i1 : ((str s).size : Int) < 5 := by rw [str_size]; omega
      have HK := Lib.hid (HZ.out (fun h => h4 h.2))
      clear hkk
      go_wp2_with fail
      refine HN.out.mono ?_
      rintro e w2 ⟨rfl, rfl⟩
      go_wp2_with fail
      go_ret
      exact ⟨by rw [HK.out]; rfl, rfl⟩
end Go.Proofs.YthagoafcphaadaaDoor
