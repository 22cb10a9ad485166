/-
  THE WALKS over the reference of layer 9: host.
-/
import Derived.Test.YthagoafcphaadaaDoorLocRB
namespace Go.Proofs.YthagoafcphaadaaDoor
open Go.RowKit Lo
set_option linter.unusedVariables false
set_option linter.unusedSimpArgs false
theorem run_index_s (s : ByteArray) (z : Int) (j : Nat) (hz : z = (j : Int)) (h : j < s.size) (w : World) : (Instr.index 9 (.string s) (.int .i64 z)).run Tryd.prog w = .ok (.int .u8 ((s[j]'h).toNat : Int)) w := by
  subst hz
  have h0 : (0 : Int) ≤ (j : Int) := by omega
  have h1 : s[j]? = some (s[j]'h) := getElem?_pos s j h
  simp [Instr.index, asIntOf, run_underlying Tryd.underlying9, h1]
theorem u8eq (c : UInt8) (v : Nat) (hv : v < 256) : decide (c = UInt8.ofNat v) = decide (c.toNat = v) := by
  rw [Bool.eq_iff_iff, decide_eq_true_eq, decide_eq_true_eq]
  constructor
  · rintro rfl; exact u8n v hv
  · intro h; apply UInt8.toNat_inj.1; rw [h, u8n v hv]
/-- what the reference asks of the byte at k -/
def okK (l : List UInt8) (k : Nat) : Bool := okAt (if k = 0 then true else decide (l[k - 1]? = some 46)) (l.getD k 0) (l.drop (k + 1))
theorem hr_take (l : List UInt8) : hr true l = true ↔ ∀ k, k < l.length → okK l k = true := by
  rw [hr_at]
  constructor
  · intro h k hk
    have := h k l[k] (List.getElem?_eq_getElem hk)
    unfold okK
    rw [List.getD_eq_getElem?_getD, List.getElem?_eq_getElem hk]
    exact this
  · intro h i c hc
    have hi := (List.getElem?_eq_some_iff.1 hc).1
    have := h i hi
    unfold okK at this
    rw [List.getD_eq_getElem?_getD, hc] at this
    exact this
theorem okK_eq (l : List UInt8) (k : Nat) (hk : k < l.length) (F La : Bool) (hF : (if k = 0 then true else decide (l[k - 1]? = some 46)) = F) (hL : nxt (l.drop (k + 1)) = La) :
    okK l k = ((letB l[k].toNat || decide (l[k].toNat = 45) || decide (l[k].toNat = 46)) && !(decide (l[k].toNat = 46) && (F || La)) && !(decide (l[k].toNat = 45) && (F || La))) := by
  unfold okK okAt
  rw [hF, hL, List.getD_eq_getElem?_getD, List.getElem?_eq_getElem hk]
  simp only [Option.getD_some]
  have e45 := u8eq l[k] 45 (by decide)
  have e46 := u8eq l[k] 46 (by decide)
  rw [show (UInt8.ofNat 45) = 45 from rfl] at e45
  rw [show (UInt8.ofNat 46) = 46 from rfl] at e46
  rw [e45, e46]
set_option maxRecDepth 100000 in
set_option maxHeartbeats 16000000 in
theorem rhost_any (s : ByteArray) (w : World) (hs : s.size < 4294967281) :
    Calls Tryd.prog 49 #[.string s] w fun e w' => e = .returned (.bool (hostB s.data.toList)) ∧ w' = w := by
  have hN := host_hr s.data.toList
  have hlen : s.data.toList.length = s.size := by simp
  obtain ⟨l, hl⟩ : ∃ l, s.data.toList = l := ⟨_, rfl⟩
  have HAT : RowKit.Hid (∀ k, (h : k < s.size) → ∃ h2 : k < l.length, l[k] = s[k]) := Lib.hid (by
    intro k h
    subst hl
    exact ⟨by rw [hlen]; exact h, rfl⟩)
  rw [hl] at hlen hN ⊢
  rw [hlen] at hN
  have HLEN := Lib.hid hlen
  generalize hostB l = R at hN ⊢
  clear hl hlen
  go_enter Tryd.func49, Tryd.ntmps49
  by_cases h1 : 1 ≤ s.size
  · have i1 : ¬ (s.size : Int) < 1 := by omega
    rw [decide_eq_true h1, Bool.true_and] at hN
    by_cases h2 : s.size ≤ 60
    · have i2 : ¬ (s.size : Int) > 60 := by omega
      rw [decide_eq_true h2, Bool.true_and] at hN
      have HN := Lib.hid hN
      clear hN h1
      go_wp2_with fail
      go_loopw [3] (fun i wr => ∃ k : Nat, k ≤ s.size ∧ i = .int .i64 k ∧ (∀ j, j < k → okK l j = true) ∧ wr = w) (fun i _ => s.size - (intOf i).toNat)
      case atStart => exact ⟨0, by omega, rfl, fun j hj => by omega, rfl⟩
      case round =>
        obtain ⟨k, hk, rfl, hnf, rfl⟩ := hrel
        have HNF := Lib.hid hnf
        clear hnf
        by_cases hlt : k < s.size
        · have hki : (k : Int) < (s.size : Int) := by omega
          obtain ⟨hkl, hkc⟩ := HAT.out k hlt
          have HKC := Lib.hid hkc
          obtain ⟨n, hn⟩ : ∃ n, (s[k]'hlt).toNat = n := ⟨_, rfl⟩
          have HLT := Lib.hid (letter_any n)
          have HL45 : RowKit.Hid (∀ w, Calls Tryd.prog 35 #[.int .u8 45] w fun e w' => e = .returned (.bool false) ∧ w' = w) := Lib.hid (letter_any 45)
          have HL46 : RowKit.Hid (∀ w, Calls Tryd.prog 35 #[.int .u8 46] w fun e w' => e = .returned (.bool false) ∧ w' = w) := Lib.hid (letter_any 46)
          have hidx := run_index_s s (k : Int) k rfl hlt
          rw [hn] at hidx
          have hout : l.drop (k + 1) = if h : k + 1 < l.length then l[k + 1] :: l.drop (k + 2) else [] := by
            split
            · rw [List.drop_eq_getElem_cons (by assumption)]
            · exact List.drop_of_length_le (by omega)
          have HGO := Lib.hid (fun (h : okK l k = true) => show ∀ j, j < k + 1 → okK l j = true from fun j hj => by
            by_cases e : j = k
            · subst e; exact h
            · exact HNF.out j (by omega))
          have HNO := Lib.hid (fun (h : okK l k = false) => show hr true l = false by
            cases hq : hr true l with
            | false => rfl
            | true => rw [(hr_take l).1 hq k hkl] at h; cases h)
          have HOK := Lib.hid (okK_eq l k hkl)
          have hkn : l[k].toNat = n := by rw [hkc, hn]
          rw [hkn] at HOK
          generalize okK l k = OK at HGO HNO HOK
          have HNN : RowKit.Hid ((s[k]'hlt).toNat = n) := Lib.hid hn
          clear hkc hn hkn
          by_cases hk0 : k = 0
          · clear hidx
            subst hk0
            have hidx := run_index_s s 0 0 rfl hlt
            rw [HNN.out] at hidx
            clear hki
            have hki : (0 : Int) < (s.size : Int) := by omega
            have HF : RowKit.Hid ((if (0 : Nat) = 0 then true else decide (l[0 - 1]? = some 46)) = true) := Lib.hid (if_pos rfl)
            by_cases hkl2 : 0 + 1 < s.size
            · have il : ((0 : Int) == (s.size : Int) - 1) = false := by rw [beq_eq_false_iff_ne]; omega
              obtain ⟨hq1, hq2⟩ := HAT.out (0 + 1) hkl2
              obtain ⟨q, hqq⟩ : ∃ q, (s[0 + 1]'hkl2).toNat = q := ⟨_, rfl⟩
              have hidq := run_index_s s (1) (0 + 1) (by omega) hkl2
              rw [hqq] at hidq
              have HL : RowKit.Hid (nxt (l.drop (0 + 1)) = decide (q = 46)) := Lib.hid (by
                rw [hout, dif_pos hq1]
                show decide (l[0 + 1] = 46) = _
                rw [hq2, ← hqq]
                exact u8eq _ 46 (by decide))
              clear hq2 hqq hout
              have hok := HOK.out (true) (decide (q = 46)) HF.out HL.out
              clear HOK
              cases hlet : letB n
              · rw [hlet] at HLT
                by_cases hn45 : n = 45
                · have ea : ((n : Int) != 45) = false := by rw [bne_eq_false_iff_eq]; omega
                  have eb : ((n : Int) == 45) = true := by rw [beq_iff_eq]; omega
                  have ec : ((n : Int) != 46) = true := by rw [bne_iff_ne]; omega
                  have ed : ((n : Int) == 46) = false := by rw [beq_eq_false_iff_ne]; omega
                  rw [hlet, decide_eq_true hn45, decide_eq_false (show ¬ n = 46 by omega)] at hok
                  clear hlet
                  have hin : OK = false := by rw [hok]; simp
                  clear hok
                  go_wp2_with fail
                  first | with_reducible refine (HLT.out wr).mono ?_ | with_reducible refine (HL45.out wr).mono ?_ | with_reducible refine (HL46.out wr).mono ?_
                  rintro e w2 ⟨rfl, rfl⟩
                  go_wp2_with fail
                  go_ret
                  exact ⟨by rw [HN.out, HNO.out hin]; rfl, rfl⟩
                · have e45 : ((n : Int) != 45) = true := by rw [bne_iff_ne]; omega
                  have f45 : ((n : Int) == 45) = false := by rw [beq_eq_false_iff_ne]; omega
                  by_cases hn46 : n = 46
                  · clear e45 f45
                    have ea : ((n : Int) != 46) = false := by rw [bne_eq_false_iff_eq]; omega
                    have eb : ((n : Int) == 46) = true := by rw [beq_iff_eq]; omega
                    have ec : ((n : Int) != 45) = true := by rw [bne_iff_ne]; omega
                    have ed : ((n : Int) == 45) = false := by rw [beq_eq_false_iff_ne]; omega
                    rw [hlet, decide_eq_true hn46, decide_eq_false (show ¬ n = 45 by omega)] at hok
                    clear hlet
                    have hin : OK = false := by rw [hok]; simp
                    clear hok
                    go_wp2_with fail
                    first | with_reducible refine (HLT.out wr).mono ?_ | with_reducible refine (HL45.out wr).mono ?_ | with_reducible refine (HL46.out wr).mono ?_
                    rintro e w2 ⟨rfl, rfl⟩
                    go_wp2_with fail
                    go_ret
                    exact ⟨by rw [HN.out, HNO.out hin]; rfl, rfl⟩
                  · have e46 : ((n : Int) != 46) = true := by rw [bne_iff_ne]; omega
                    have hin : OK = false := by rw [hok, hlet, decide_eq_false hn45, decide_eq_false hn46]; rfl
                    clear hok hlet
                    go_wp2_with fail
                    first | with_reducible refine (HLT.out wr).mono ?_ | with_reducible refine (HL45.out wr).mono ?_ | with_reducible refine (HL46.out wr).mono ?_
                    rintro e w2 ⟨rfl, rfl⟩
                    go_wp2_with fail
                    go_ret
                    exact ⟨by rw [HN.out, HNO.out hin]; rfl, rfl⟩
              · have hn45 : n ≠ 45 := fun e => by subst e; exact absurd hlet (by decide)
                have hn46 : n ≠ 46 := fun e => by subst e; exact absurd hlet (by decide)
                rw [hlet] at HLT
                have f45 : ((n : Int) == 45) = false := by rw [beq_eq_false_iff_ne]; omega
                have f46 : ((n : Int) == 46) = false := by rw [beq_eq_false_iff_ne]; omega
                have hin : OK = true := by rw [hok, hlet, decide_eq_false hn45, decide_eq_false hn46]; rfl
                clear hok hlet
                go_wp2_with fail
                first | with_reducible refine (HLT.out wr).mono ?_ | with_reducible refine (HL45.out wr).mono ?_ | with_reducible refine (HL46.out wr).mono ?_
                rintro e w2 ⟨rfl, rfl⟩
                go_wp2_with fail
                go_roundw
                case rel => exact ⟨0 + 1, by omega, by go_num, HGO.out hin, by first | rfl | trivial⟩
                case measure => simp [intOf]; omega
            · have il : ((0 : Int) == (s.size : Int) - 1) = true := by rw [beq_iff_eq]; omega
              have HL : RowKit.Hid (nxt (l.drop (0 + 1)) = true) := Lib.hid (by
                rw [hout, dif_neg (by rw [HLEN.out]; omega)]
                rfl)
              clear hout
              have hok := HOK.out (true) (true) HF.out HL.out
              clear HOK
              cases hlet : letB n
              · rw [hlet] at HLT
                by_cases hn45 : n = 45
                · have ea : ((n : Int) != 45) = false := by rw [bne_eq_false_iff_eq]; omega
                  have eb : ((n : Int) == 45) = true := by rw [beq_iff_eq]; omega
                  have ec : ((n : Int) != 46) = true := by rw [bne_iff_ne]; omega
                  have ed : ((n : Int) == 46) = false := by rw [beq_eq_false_iff_ne]; omega
                  rw [hlet, decide_eq_true hn45, decide_eq_false (show ¬ n = 46 by omega)] at hok
                  clear hlet
                  have hin : OK = false := by rw [hok]; simp
                  clear hok
                  go_wp2_with fail
                  first | with_reducible refine (HLT.out wr).mono ?_ | with_reducible refine (HL45.out wr).mono ?_ | with_reducible refine (HL46.out wr).mono ?_
                  rintro e w2 ⟨rfl, rfl⟩
                  go_wp2_with fail
                  go_ret
                  exact ⟨by rw [HN.out, HNO.out hin]; rfl, rfl⟩
                · have e45 : ((n : Int) != 45) = true := by rw [bne_iff_ne]; omega
                  have f45 : ((n : Int) == 45) = false := by rw [beq_eq_false_iff_ne]; omega
                  by_cases hn46 : n = 46
                  · clear e45 f45
                    have ea : ((n : Int) != 46) = false := by rw [bne_eq_false_iff_eq]; omega
                    have eb : ((n : Int) == 46) = true := by rw [beq_iff_eq]; omega
                    have ec : ((n : Int) != 45) = true := by rw [bne_iff_ne]; omega
                    have ed : ((n : Int) == 45) = false := by rw [beq_eq_false_iff_ne]; omega
                    rw [hlet, decide_eq_true hn46, decide_eq_false (show ¬ n = 45 by omega)] at hok
                    clear hlet
                    have hin : OK = false := by rw [hok]; simp
                    clear hok
                    go_wp2_with fail
                    first | with_reducible refine (HLT.out wr).mono ?_ | with_reducible refine (HL45.out wr).mono ?_ | with_reducible refine (HL46.out wr).mono ?_
                    rintro e w2 ⟨rfl, rfl⟩
                    go_wp2_with fail
                    go_ret
                    exact ⟨by rw [HN.out, HNO.out hin]; rfl, rfl⟩
                  · have e46 : ((n : Int) != 46) = true := by rw [bne_iff_ne]; omega
                    have hin : OK = false := by rw [hok, hlet, decide_eq_false hn45, decide_eq_false hn46]; rfl
                    clear hok hlet
                    go_wp2_with fail
                    first | with_reducible refine (HLT.out wr).mono ?_ | with_reducible refine (HL45.out wr).mono ?_ | with_reducible refine (HL46.out wr).mono ?_
                    rintro e w2 ⟨rfl, rfl⟩
                    go_wp2_with fail
                    go_ret
                    exact ⟨by rw [HN.out, HNO.out hin]; rfl, rfl⟩
              · have hn45 : n ≠ 45 := fun e => by subst e; exact absurd hlet (by decide)
                have hn46 : n ≠ 46 := fun e => by subst e; exact absurd hlet (by decide)
                rw [hlet] at HLT
                have f45 : ((n : Int) == 45) = false := by rw [beq_eq_false_iff_ne]; omega
                have f46 : ((n : Int) == 46) = false := by rw [beq_eq_false_iff_ne]; omega
                have hin : OK = true := by rw [hok, hlet, decide_eq_false hn45, decide_eq_false hn46]; rfl
                clear hok hlet
                go_wp2_with fail
                first | with_reducible refine (HLT.out wr).mono ?_ | with_reducible refine (HL45.out wr).mono ?_ | with_reducible refine (HL46.out wr).mono ?_
                rintro e w2 ⟨rfl, rfl⟩
                go_wp2_with fail
                go_roundw
                case rel => exact ⟨0 + 1, by omega, by go_num, HGO.out hin, by first | rfl | trivial⟩
                case measure => simp [intOf]; omega
          · have ik : ((k : Int) == 0) = false := by rw [beq_eq_false_iff_ne]; omega
            have hkp : k - 1 < s.size := by omega
            obtain ⟨hp1, hp2⟩ := HAT.out (k - 1) hkp
            obtain ⟨p, hpp⟩ : ∃ p, (s[k - 1]'hkp).toNat = p := ⟨_, rfl⟩
            have hidp := run_index_s s ((k : Int) - 1) (k - 1) (by omega) hkp
            rw [hpp] at hidp
            have HF : RowKit.Hid ((if k = 0 then true else decide (l[k - 1]? = some 46)) = decide (p = 46)) := Lib.hid (by
              rw [if_neg hk0, List.getElem?_eq_getElem hp1, ← hpp]
              rw [show decide (some l[k - 1] = some (46 : UInt8)) = decide (l[k - 1] = 46) by simp, hp2]
              exact u8eq _ 46 (by decide))
            clear hp2 hpp
            by_cases hkl2 : k + 1 < s.size
            · have il : ((k : Int) == (s.size : Int) - 1) = false := by rw [beq_eq_false_iff_ne]; omega
              obtain ⟨hq1, hq2⟩ := HAT.out (k + 1) hkl2
              obtain ⟨q, hqq⟩ : ∃ q, (s[k + 1]'hkl2).toNat = q := ⟨_, rfl⟩
              have hidq := run_index_s s ((k : Int) + 1) (k + 1) (by omega) hkl2
              rw [hqq] at hidq
              have HL : RowKit.Hid (nxt (l.drop (k + 1)) = decide (q = 46)) := Lib.hid (by
                rw [hout, dif_pos hq1]
                show decide (l[k + 1] = 46) = _
                rw [hq2, ← hqq]
                exact u8eq _ 46 (by decide))
              clear hq2 hqq hout
              have hok := HOK.out (decide (p = 46)) (decide (q = 46)) HF.out HL.out
              clear HOK
              cases hlet : letB n
              · rw [hlet] at HLT
                by_cases hn45 : n = 45
                · have ea : ((n : Int) != 45) = false := by rw [bne_eq_false_iff_eq]; omega
                  have eb : ((n : Int) == 45) = true := by rw [beq_iff_eq]; omega
                  have ec : ((n : Int) != 46) = true := by rw [bne_iff_ne]; omega
                  have ed : ((n : Int) == 46) = false := by rw [beq_eq_false_iff_ne]; omega
                  rw [hlet, decide_eq_true hn45, decide_eq_false (show ¬ n = 46 by omega)] at hok
                  clear hlet
                  by_cases hp : p = 46
                  · have ip : ((p : Int) == 46) = true := by rw [beq_iff_eq]; omega
                    have hin : OK = false := by rw [hok, decide_eq_true hp]; simp
                    clear hok
                    go_wp2_with fail
                    first | with_reducible refine (HLT.out wr).mono ?_ | with_reducible refine (HL45.out wr).mono ?_ | with_reducible refine (HL46.out wr).mono ?_
                    rintro e w2 ⟨rfl, rfl⟩
                    go_wp2_with fail
                    go_ret
                    exact ⟨by rw [HN.out, HNO.out hin]; rfl, rfl⟩
                  · have ip : ((p : Int) == 46) = false := by rw [beq_eq_false_iff_ne]; omega
                    by_cases hq : q = 46
                    · have iq : ((q : Int) == 46) = true := by rw [beq_iff_eq]; omega
                      have hin : OK = false := by rw [hok, decide_eq_true hq]; simp
                      clear hok
                      go_wp2_with fail
                      first | with_reducible refine (HLT.out wr).mono ?_ | with_reducible refine (HL45.out wr).mono ?_ | with_reducible refine (HL46.out wr).mono ?_
                      rintro e w2 ⟨rfl, rfl⟩
                      go_wp2_with fail
                      go_ret
                      exact ⟨by rw [HN.out, HNO.out hin]; rfl, rfl⟩
                    · have iq : ((q : Int) == 46) = false := by rw [beq_eq_false_iff_ne]; omega
                      have hin : OK = true := by rw [hok, decide_eq_false hp, decide_eq_false hq]; rfl
                      clear hok
                      go_wp2_with fail
                      first | with_reducible refine (HLT.out wr).mono ?_ | with_reducible refine (HL45.out wr).mono ?_ | with_reducible refine (HL46.out wr).mono ?_
                      rintro e w2 ⟨rfl, rfl⟩
                      go_wp2_with fail
                      go_roundw
                      case rel => exact ⟨k + 1, by omega, by go_num, HGO.out hin, by first | rfl | trivial⟩
                      case measure => simp [intOf]; omega
                · have e45 : ((n : Int) != 45) = true := by rw [bne_iff_ne]; omega
                  have f45 : ((n : Int) == 45) = false := by rw [beq_eq_false_iff_ne]; omega
                  by_cases hn46 : n = 46
                  · clear e45 f45
                    have ea : ((n : Int) != 46) = false := by rw [bne_eq_false_iff_eq]; omega
                    have eb : ((n : Int) == 46) = true := by rw [beq_iff_eq]; omega
                    have ec : ((n : Int) != 45) = true := by rw [bne_iff_ne]; omega
                    have ed : ((n : Int) == 45) = false := by rw [beq_eq_false_iff_ne]; omega
                    rw [hlet, decide_eq_true hn46, decide_eq_false (show ¬ n = 45 by omega)] at hok
                    clear hlet
                    by_cases hp : p = 46
                    · have ip : ((p : Int) == 46) = true := by rw [beq_iff_eq]; omega
                      have hin : OK = false := by rw [hok, decide_eq_true hp]; simp
                      clear hok
                      go_wp2_with fail
                      first | with_reducible refine (HLT.out wr).mono ?_ | with_reducible refine (HL45.out wr).mono ?_ | with_reducible refine (HL46.out wr).mono ?_
                      rintro e w2 ⟨rfl, rfl⟩
                      go_wp2_with fail
                      go_ret
                      exact ⟨by rw [HN.out, HNO.out hin]; rfl, rfl⟩
                    · have ip : ((p : Int) == 46) = false := by rw [beq_eq_false_iff_ne]; omega
                      by_cases hq : q = 46
                      · have iq : ((q : Int) == 46) = true := by rw [beq_iff_eq]; omega
                        have hin : OK = false := by rw [hok, decide_eq_true hq]; simp
                        clear hok
                        go_wp2_with fail
                        first | with_reducible refine (HLT.out wr).mono ?_ | with_reducible refine (HL45.out wr).mono ?_ | with_reducible refine (HL46.out wr).mono ?_
                        rintro e w2 ⟨rfl, rfl⟩
                        go_wp2_with fail
                        go_ret
                        exact ⟨by rw [HN.out, HNO.out hin]; rfl, rfl⟩
                      · have iq : ((q : Int) == 46) = false := by rw [beq_eq_false_iff_ne]; omega
                        have hin : OK = true := by rw [hok, decide_eq_false hp, decide_eq_false hq]; rfl
                        clear hok
                        go_wp2_with fail
                        first | with_reducible refine (HLT.out wr).mono ?_ | with_reducible refine (HL45.out wr).mono ?_ | with_reducible refine (HL46.out wr).mono ?_
                        rintro e w2 ⟨rfl, rfl⟩
                        go_wp2_with fail
                        go_roundw
                        case rel => exact ⟨k + 1, by omega, by go_num, HGO.out hin, by first | rfl | trivial⟩
                        case measure => simp [intOf]; omega
                  · have e46 : ((n : Int) != 46) = true := by rw [bne_iff_ne]; omega
                    have hin : OK = false := by rw [hok, hlet, decide_eq_false hn45, decide_eq_false hn46]; rfl
                    clear hok hlet
                    go_wp2_with fail
                    first | with_reducible refine (HLT.out wr).mono ?_ | with_reducible refine (HL45.out wr).mono ?_ | with_reducible refine (HL46.out wr).mono ?_
                    rintro e w2 ⟨rfl, rfl⟩
                    go_wp2_with fail
                    go_ret
                    exact ⟨by rw [HN.out, HNO.out hin]; rfl, rfl⟩
              · have hn45 : n ≠ 45 := fun e => by subst e; exact absurd hlet (by decide)
                have hn46 : n ≠ 46 := fun e => by subst e; exact absurd hlet (by decide)
                rw [hlet] at HLT
                have f45 : ((n : Int) == 45) = false := by rw [beq_eq_false_iff_ne]; omega
                have f46 : ((n : Int) == 46) = false := by rw [beq_eq_false_iff_ne]; omega
                have hin : OK = true := by rw [hok, hlet, decide_eq_false hn45, decide_eq_false hn46]; rfl
                clear hok hlet
                go_wp2_with fail
                first | with_reducible refine (HLT.out wr).mono ?_ | with_reducible refine (HL45.out wr).mono ?_ | with_reducible refine (HL46.out wr).mono ?_
                rintro e w2 ⟨rfl, rfl⟩
                go_wp2_with fail
                go_roundw
                case rel => exact ⟨k + 1, by omega, by go_num, HGO.out hin, by first | rfl | trivial⟩
                case measure => simp [intOf]; omega
            · have il : ((k : Int) == (s.size : Int) - 1) = true := by rw [beq_iff_eq]; omega
              have HL : RowKit.Hid (nxt (l.drop (k + 1)) = true) := Lib.hid (by
                rw [hout, dif_neg (by rw [HLEN.out]; omega)]
                rfl)
              clear hout
              have hok := HOK.out (decide (p = 46)) (true) HF.out HL.out
              clear HOK
              cases hlet : letB n
              · rw [hlet] at HLT
                by_cases hn45 : n = 45
                · have ea : ((n : Int) != 45) = false := by rw [bne_eq_false_iff_eq]; omega
                  have eb : ((n : Int) == 45) = true := by rw [beq_iff_eq]; omega
                  have ec : ((n : Int) != 46) = true := by rw [bne_iff_ne]; omega
                  have ed : ((n : Int) == 46) = false := by rw [beq_eq_false_iff_ne]; omega
                  rw [hlet, decide_eq_true hn45, decide_eq_false (show ¬ n = 46 by omega)] at hok
                  clear hlet
                  by_cases hp : p = 46
                  · have ip : ((p : Int) == 46) = true := by rw [beq_iff_eq]; omega
                    have hin : OK = false := by rw [hok, decide_eq_true hp]; simp
                    clear hok
                    go_wp2_with fail
                    first | with_reducible refine (HLT.out wr).mono ?_ | with_reducible refine (HL45.out wr).mono ?_ | with_reducible refine (HL46.out wr).mono ?_
                    rintro e w2 ⟨rfl, rfl⟩
                    go_wp2_with fail
                    go_ret
                    exact ⟨by rw [HN.out, HNO.out hin]; rfl, rfl⟩
                  · have ip : ((p : Int) == 46) = false := by rw [beq_eq_false_iff_ne]; omega
                    have hin : OK = false := by rw [hok]; simp
                    clear hok
                    go_wp2_with fail
                    first | with_reducible refine (HLT.out wr).mono ?_ | with_reducible refine (HL45.out wr).mono ?_ | with_reducible refine (HL46.out wr).mono ?_
                    rintro e w2 ⟨rfl, rfl⟩
                    go_wp2_with fail
                    go_ret
                    exact ⟨by rw [HN.out, HNO.out hin]; rfl, rfl⟩
                · have e45 : ((n : Int) != 45) = true := by rw [bne_iff_ne]; omega
                  have f45 : ((n : Int) == 45) = false := by rw [beq_eq_false_iff_ne]; omega
                  by_cases hn46 : n = 46
                  · clear e45 f45
                    have ea : ((n : Int) != 46) = false := by rw [bne_eq_false_iff_eq]; omega
                    have eb : ((n : Int) == 46) = true := by rw [beq_iff_eq]; omega
                    have ec : ((n : Int) != 45) = true := by rw [bne_iff_ne]; omega
                    have ed : ((n : Int) == 45) = false := by rw [beq_eq_false_iff_ne]; omega
                    rw [hlet, decide_eq_true hn46, decide_eq_false (show ¬ n = 45 by omega)] at hok
                    clear hlet
                    by_cases hp : p = 46
                    · have ip : ((p : Int) == 46) = true := by rw [beq_iff_eq]; omega
                      have hin : OK = false := by rw [hok, decide_eq_true hp]; simp
                      clear hok
                      go_wp2_with fail
                      first | with_reducible refine (HLT.out wr).mono ?_ | with_reducible refine (HL45.out wr).mono ?_ | with_reducible refine (HL46.out wr).mono ?_
                      rintro e w2 ⟨rfl, rfl⟩
                      go_wp2_with fail
                      go_ret
                      exact ⟨by rw [HN.out, HNO.out hin]; rfl, rfl⟩
                    · have ip : ((p : Int) == 46) = false := by rw [beq_eq_false_iff_ne]; omega
                      have hin : OK = false := by rw [hok]; simp
                      clear hok
                      go_wp2_with fail
                      first | with_reducible refine (HLT.out wr).mono ?_ | with_reducible refine (HL45.out wr).mono ?_ | with_reducible refine (HL46.out wr).mono ?_
                      rintro e w2 ⟨rfl, rfl⟩
                      go_wp2_with fail
                      go_ret
                      exact ⟨by rw [HN.out, HNO.out hin]; rfl, rfl⟩
                  · have e46 : ((n : Int) != 46) = true := by rw [bne_iff_ne]; omega
                    have hin : OK = false := by rw [hok, hlet, decide_eq_false hn45, decide_eq_false hn46]; rfl
                    clear hok hlet
                    go_wp2_with fail
                    first | with_reducible refine (HLT.out wr).mono ?_ | with_reducible refine (HL45.out wr).mono ?_ | with_reducible refine (HL46.out wr).mono ?_
                    rintro e w2 ⟨rfl, rfl⟩
                    go_wp2_with fail
                    go_ret
                    exact ⟨by rw [HN.out, HNO.out hin]; rfl, rfl⟩
              · have hn45 : n ≠ 45 := fun e => by subst e; exact absurd hlet (by decide)
                have hn46 : n ≠ 46 := fun e => by subst e; exact absurd hlet (by decide)
                rw [hlet] at HLT
                have f45 : ((n : Int) == 45) = false := by rw [beq_eq_false_iff_ne]; omega
                have f46 : ((n : Int) == 46) = false := by rw [beq_eq_false_iff_ne]; omega
                have hin : OK = true := by rw [hok, hlet, decide_eq_false hn45, decide_eq_false hn46]; rfl
                clear hok hlet
                go_wp2_with fail
                first | with_reducible refine (HLT.out wr).mono ?_ | with_reducible refine (HL45.out wr).mono ?_ | with_reducible refine (HL46.out wr).mono ?_
                rintro e w2 ⟨rfl, rfl⟩
                go_wp2_with fail
                go_roundw
                case rel => exact ⟨k + 1, by omega, by go_num, HGO.out hin, by first | rfl | trivial⟩
                case measure => simp [intOf]; omega
        · have hki : (s.size : Int) ≤ (k : Int) := by omega
          have HR : RowKit.Hid (hr true l = true) := Lib.hid ((hr_take l).2 (fun j hj => HNF.out j (by rw [HLEN.out] at hj; omega)))
          go_wp2_with fail
          go_ret
          exact ⟨by rw [HN.out, HR.out]; rfl, rfl⟩
    · have i2 : (s.size : Int) > 60 := by omega
      rw [decide_eq_false h2] at hN
      have HN : RowKit.Hid (R = false) := hN
      clear hN h1 h2
      go_wp2_with fail
      go_ret
      exact ⟨by rw [HN.out]; rfl, rfl⟩
  · have i1 : (s.size : Int) < 1 := by omega
    rw [decide_eq_false h1] at hN
    have HN : RowKit.Hid (R = false) := hN
    clear hN h1
    go_wp2_with fail
    go_ret
    exact ⟨by rw [HN.out]; rfl, rfl⟩
end Go.Proofs.YthagoafcphaadaaDoor
