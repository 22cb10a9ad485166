/-
  THE WALKS over package locator: allOf, Name, isLabel, isScheme, isPort, schemeOf.
-/
import Derived.Test.YthagoafcphaadaaDoorLocWA
namespace Go.Proofs.YthagoafcphaadaaDoor
open Go.RowKit Lo
set_option linter.unusedVariables false
set_option linter.unusedSimpArgs false
variable {fl : Bool}
def usB (u : Nat) (c : UInt8) : Bool := decide (bits BinOp.and IntKind.u8 ((cls c.toNat : Nat) : Int) (u : Int) ≠ 0)
theorem cls_cases (n : Nat) : cls n = 0 ∨ cls n = 2 ∨ cls n = 3 := by
  unfold cls
  repeat (split <;> try omega)
theorem usB_one : usB 1 = inL := by
  funext c
  unfold usB inL
  rcases cls_cases c.toNat with h | h | h <;> rw [h] <;> decide
theorem usB_two : usB 2 = inP := by
  funext c
  unfold usB inP
  rcases cls_cases c.toNat with h | h | h <;> rw [h] <;> decide
theorem take_all (p : UInt8 → Bool) (l : List UInt8) (k : Nat) (hk : k < l.length) (h : (l.take k).all p = true) (h2 : p l[k] = true) : (l.take (k + 1)).all p = true := by
  rw [List.take_add_one, List.getElem?_eq_getElem hk, List.all_append, h]
  simp [h2]
theorem not_all (p : UInt8 → Bool) (l : List UInt8) (k : Nat) (hk : k < l.length) (h2 : p l[k] = false) : l.all p = false := by
  cases h : l.all p with
  | false => rfl
  | true =>
    have := List.all_eq_true.1 h l[k] (List.getElem_mem hk)
    rw [h2] at this
    cases this
set_option maxRecDepth 100000 in
set_option maxHeartbeats 4000000 in
theorem all_any (s : ByteArray) (u : Nat) (w : World) (env : LEnv fl w) (hs : s.size < 4294967281) :
    Calls Tryd.prog 29 #[.string s, .int .u8 u] w fun e w' => e = .returned (.bool (s.data.toList.all (usB u))) ∧ Below w.heap.size w w' := by
  have hG := env.big
  have HE := Lib.hid env
  have hlen : s.data.toList.length = s.size := by simp
  obtain ⟨l, hl⟩ : ∃ l, s.data.toList = l := ⟨_, rfl⟩
  have HAT : RowKit.Hid (∀ k, (h : k < s.size) → ∃ h2 : k < l.length, l[k] = s[k]) := Lib.hid (by
    intro k h
    subst hl
    exact ⟨by rw [hlen]; exact h, rfl⟩)
  rw [hl] at hlen ⊢
  have HLEN := Lib.hid hlen
  clear hl hlen env
  go_enter Tryd.func29, Tryd.ntmps29
  go_wp2_with fail
  go_loopw [8] (fun i wr => ∃ k : Nat, k ≤ s.size ∧ i = .int .i64 k ∧ (l.take k).all (usB u) = true ∧ Below w.heap.size w wr) (fun i _ => s.size - (intOf i).toNat)
  case atStart => exact ⟨0, by omega, rfl, by simp, Below.refl _ _⟩
  case round =>
    obtain ⟨k, hk, rfl, hnf, hbl⟩ := hrel
    have HNF := Lib.hid hnf
    have HBL := Lib.hid hbl
    clear hnf hbl
    by_cases hlt : k < s.size
    · have hki : (k : Int) < (s.size : Int) := by omega
      obtain ⟨hkl, hkc⟩ := HAT.out k hlt
      have HKC := Lib.hid hkc
      clear hkc
      cases hq : usB u l[k]
      · have hz : bits BinOp.and IntKind.u8 ((cls (s[k]'hlt).toNat : Nat) : Int) (u : Int) = 0 := by
          rw [HKC.out] at hq
          unfold usB at hq
          simpa using hq
        have HR := Lib.hid (not_all (usB u) l k hkl hq)
        clear hq
        go_wp2_with fail
        refine (class_any _ (UInt8.toNat_lt _) wr (HE.out.below HBL.out hG)).mono ?_
        rintro e w2 ⟨rfl, hb2⟩
        go_wp2_with fail
        go_ret
        exact ⟨by rw [HR.out]; rfl, HBL.out.trans (hb2.mono HBL.out.size)⟩
      · have hz : (bits BinOp.and IntKind.u8 ((cls (s[k]'hlt).toNat : Nat) : Int) (u : Int) == 0) = false := by
          rw [HKC.out] at hq
          unfold usB at hq
          simpa using hq
        have HR := Lib.hid (take_all (usB u) l k hkl HNF.out hq)
        clear hq
        go_wp2_with fail
        refine (class_any _ (UInt8.toNat_lt _) wr (HE.out.below HBL.out hG)).mono ?_
        rintro e w2 ⟨rfl, hb2⟩
        go_wp2_with fail
        go_roundw
        case rel => exact ⟨k + 1, by omega, by go_num, HR.out, HBL.out.trans (hb2.mono HBL.out.size)⟩
        case measure => simp [intOf]; omega
    · have hki : (s.size : Int) ≤ (k : Int) := by omega
      have HR : RowKit.Hid (l.all (usB u) = true) := Lib.hid (by
        have := HNF.out
        rw [List.take_of_length_le (by rw [HLEN.out]; omega)] at this
        exact this)
      go_wp2_with fail
      go_ret
      exact ⟨by rw [HR.out]; rfl, HBL.out⟩
theorem eqS (s : ByteArray) (l : List UInt8) : (s.toList == l) = decide (s.data.toList = l) := by
  rw [ByteArray.toList_eq, Bool.eq_iff_iff, beq_iff_eq, decide_eq_true_eq]
theorem nameB_eq (s : ByteArray) : nameB s.data.toList = (decide (1 ≤ s.size) && decide (s.size ≤ 40) && !(s.toList == [46]) && !(s.toList == [46, 46]) && s.data.toList.all (usB 2)) := by
  unfold nameB
  rw [data_len, eqS, eqS, usB_two]
set_option maxRecDepth 100000 in
set_option maxHeartbeats 4000000 in
theorem name_any (s : ByteArray) (w : World) (env : LEnv fl w) (hs : s.size < 4294967281) :
    Calls Tryd.prog 12 #[.string s] w fun e w' => e = .returned (.bool (nameB s.data.toList)) ∧ Below w.heap.size w w' := by
  have hG := env.big
  have HC := Lib.hid (fun (w : World) (env : LEnv fl w) => all_any s 2 w env hs)
  have HE := Lib.hid env
  have hN := nameB_eq s
  generalize s.data.toList.all (usB 2) = A at HC hN
  clear env
  go_enter Tryd.func12, Tryd.ntmps12
  by_cases h1 : 1 ≤ s.size
  · have i1 : (1 : Int) ≤ (s.size : Int) := by omega
    rw [decide_eq_true h1, Bool.true_and] at hN
    by_cases h2 : s.size ≤ 40
    · have i2 : (s.size : Int) ≤ 40 := by omega
      rw [decide_eq_true h2, Bool.true_and] at hN
      cases h3 : (s.toList == [46])
      · rw [h3, Bool.not_false, Bool.true_and] at hN
        cases h4 : (s.toList == [46, 46])
        · rw [h4, Bool.not_false, Bool.true_and] at hN
          have HN := Lib.hid hN
          clear hN h1 h2
          go_wp2_with fail
          refine (HC.out w HE.out).mono ?_
          rintro e w1 ⟨rfl, hb⟩
          have HB := Lib.hid hb
          clear hb
          go_wp2_with fail
          go_ret
          exact ⟨by rw [HN.out]; rfl, HB.out⟩
        · rw [h4] at hN
          have HN : RowKit.Hid (nameB s.data.toList = false) := hN
          clear hN h1 h2
          go_wp2_with fail
          go_ret
          exact ⟨by rw [HN.out]; rfl, Below.refl _ _⟩
      · rw [h3] at hN
        have HN : RowKit.Hid (nameB s.data.toList = false) := hN
        clear hN h1 h2
        go_wp2_with fail
        go_ret
        exact ⟨by rw [HN.out]; rfl, Below.refl _ _⟩
    · have i2 : ¬ (s.size : Int) ≤ 40 := by omega
      rw [decide_eq_false h2] at hN
      have HN : RowKit.Hid (nameB s.data.toList = false) := hN
      clear hN h1 h2
      go_wp2_with fail
      go_ret
      exact ⟨by rw [HN.out]; rfl, Below.refl _ _⟩
  · have i1 : ¬ (1 : Int) ≤ (s.size : Int) := by omega
    rw [decide_eq_false h1] at hN
    have HN : RowKit.Hid (nameB s.data.toList = false) := hN
    clear hN h1
    go_wp2_with fail
    go_ret
    exact ⟨by rw [HN.out]; rfl, Below.refl _ _⟩
theorem emptyS (s : ByteArray) : s.toList.isEmpty = decide (s.data.toList = []) := by
  rw [ByteArray.toList_eq, Bool.eq_iff_iff, List.isEmpty_iff, decide_eq_true_eq]
theorem labelB_eq (s : ByteArray) : labelB s.data.toList = (!s.toList.isEmpty && s.data.toList.all (usB 1) && !Go.Lib.hasPrefix s.data.toList [45] && !Go.Lib.hasSuffix s.data.toList [45]) := by
  unfold labelB
  rw [emptyS, usB_one]
set_option maxRecDepth 100000 in
set_option maxHeartbeats 4000000 in
theorem label_any (s : ByteArray) (w : World) (env : LEnv fl w) (hs : s.size < 4294967281) :
    Calls Tryd.prog 41 #[.string s] w fun e w' => e = .returned (.bool (labelB s.data.toList)) ∧ Below w.heap.size w w' := by
  have hG := env.big
  have HC := Lib.hid (fun (w : World) (env : LEnv fl w) => all_any s 1 w env hs)
  have HP := Lib.hid (fun (w : World) => Tryd.strings_HasPrefix s ⟨#[45]⟩ w)
  have HS := Lib.hid (fun (w : World) => Tryd.strings_HasSuffix s ⟨#[45]⟩ w (by omega))
  have HE := Lib.hid env
  have hN := labelB_eq s
  clear env
  go_enter Tryd.func41, Tryd.ntmps41
  cases h1 : s.toList.isEmpty
  · have n1 : (s.toList == []) = false := by
      rw [eqS, ← emptyS, h1]
    rw [h1, Bool.not_false, Bool.true_and] at hN
    generalize hA : s.data.toList.all (usB 1) = A at hN HC
    generalize hB : Go.Lib.hasPrefix s.data.toList [45] = B at hN
    generalize hC : Go.Lib.hasSuffix s.data.toList [45] = C at hN
    rw [show Go.Lib.hasPrefix s.data.toList (⟨#[45]⟩ : ByteArray).data.toList = B from hB] at HP
    rw [show Go.Lib.hasSuffix s.data.toList (⟨#[45]⟩ : ByteArray).data.toList = C from hC] at HS
    clear hA hB hC
    have HN := Lib.hid hN
    clear hN
    cases A
    · go_wp2_with fail
      refine (HC.out w HE.out).mono ?_
      rintro e w1 ⟨rfl, hb⟩
      have HB := Lib.hid hb
      clear hb
      go_wp2_with fail
      go_ret
      exact ⟨by rw [HN.out]; rfl, HB.out⟩
    · cases B
      · go_wp2_with fail
        refine (HC.out w HE.out).mono ?_
        rintro e w1 ⟨rfl, hb⟩
        have HB := Lib.hid hb
        clear hb
        go_wp2_with fail
        refine (HP.out _).mono ?_
        rintro e w2 ⟨rfl, rfl⟩
        go_wp2_with fail
        refine (HS.out _).mono ?_
        rintro e w2 ⟨rfl, rfl⟩
        go_wp2_with fail
        go_ret
        exact ⟨by rw [HN.out]; rfl, HB.out⟩
      · go_wp2_with fail
        refine (HC.out w HE.out).mono ?_
        rintro e w1 ⟨rfl, hb⟩
        have HB := Lib.hid hb
        clear hb
        go_wp2_with fail
        refine (HP.out _).mono ?_
        rintro e w2 ⟨rfl, rfl⟩
        go_wp2_with fail
        go_ret
        exact ⟨by rw [HN.out]; rfl, HB.out⟩
  · rw [h1] at hN
    have n1 : (s.toList == []) = true := by
      rw [eqS, ← emptyS, h1]
    have HN : RowKit.Hid (labelB s.data.toList = false) := hN
    clear hN
    go_wp2_with fail
    go_ret
    exact ⟨by rw [HN.out]; rfl, Below.refl _ _⟩
/-- the word and the usual port of a scheme in the table -/
theorem schemes_at {w : World} (env : LEnv fl w) : w.cell? ⟨0, 0, none⟩ = some (.string ⟨#[]⟩) ∧ w.cell? ⟨0, 1, none⟩ = some (.int .i64 0) ∧ w.cell? ⟨0, 2, none⟩ = some (.string ⟨#[114, 115, 121, 110, 99]⟩) ∧ w.cell? ⟨0, 3, none⟩ = some (.int .i64 873) ∧ w.cell? ⟨0, 4, none⟩ = some (.string ⟨#[104, 116, 116, 112, 115]⟩) ∧ w.cell? ⟨0, 5, none⟩ = some (.int .i64 443) := by
  obtain ⟨t, fr, h⟩ := env.sc
  exact ⟨cell_of_block h rfl, cell_of_block h rfl, cell_of_block h rfl, cell_of_block h rfl, cell_of_block h rfl, cell_of_block h rfl⟩
set_option maxRecDepth 100000 in
set_option maxHeartbeats 4000000 in
theorem scheme_any (n : Nat) (hn : n < 256) (w : World) (env : LEnv fl w) :
    Calls Tryd.prog 25 #[.int .u8 n] w fun e w' => e = .returned (.bool (decide (n = 1) || decide (n = 2))) ∧ Below w.heap.size w w' := by
  have hG := env.big
  obtain ⟨c0, c1, c2, c3, c4, c5⟩ := schemes_at env
  clear env
  go_enter Tryd.func25, Tryd.ntmps25
  by_cases h : n < 3
  · have e : n = 0 ∨ n = 1 ∨ n = 2 := by omega
    rcases e with rfl | rfl | rfl
    all_goals
      go_wp2_with fail
      go_ret
      exact ⟨rfl, Below.refl _ _⟩
  · have i1 : ¬ (n : Int) < 3 := by omega
    have HR : RowKit.Hid ((decide (n = 1) || decide (n = 2)) = false) := Lib.hid (by rw [decide_eq_false (by omega), decide_eq_false (by omega)]; rfl)
    go_wp2_with fail
    go_ret
    exact ⟨by rw [HR.out]; rfl, Below.refl _ _⟩
set_option maxRecDepth 100000 in
set_option maxHeartbeats 4000000 in
theorem port_any (n : Nat) (hn : n = 1 ∨ n = 2) (p : Int) (w : World) (env : LEnv fl w) :
    Calls Tryd.prog 27 #[.int .u8 n, .int .i64 p] w fun e w' => e = .returned (.bool (portB n p)) ∧ Below w.heap.size w w' := by
  have hG := env.big
  obtain ⟨c0, c1, c2, c3, c4, c5⟩ := schemes_at env
  clear env
  go_enter Tryd.func27, Tryd.ntmps27
  have hN : portB n p = (decide (0 ≤ p) && decide (p ≤ 65535) && !decide (p = usual n)) := rfl
  by_cases h0 : 0 ≤ p
  · rw [decide_eq_true h0, Bool.true_and] at hN
    by_cases h1 : p ≤ 65535
    · rw [decide_eq_true h1, Bool.true_and] at hN
      rcases hn with rfl | rfl
      · by_cases h2 : p = 873
        · rw [show usual 1 = 873 from rfl, decide_eq_true h2] at hN
          have HN : RowKit.Hid (portB 1 p = false) := hN
          clear hN
          subst h2
          go_wp2_with fail
          go_ret
          exact ⟨by rw [HN.out]; rfl, Below.refl _ _⟩
        · rw [show usual 1 = 873 from rfl, decide_eq_false h2] at hN
          have HN : RowKit.Hid (portB 1 p = true) := hN
          have h3 : (p != 873) = true := by rw [bne_iff_ne]; exact h2
          clear hN
          go_wp2_with fail
          go_ret
          exact ⟨by rw [HN.out]; rfl, Below.refl _ _⟩
      · by_cases h2 : p = 443
        · rw [show usual 2 = 443 from rfl, decide_eq_true h2] at hN
          have HN : RowKit.Hid (portB 2 p = false) := hN
          clear hN
          subst h2
          go_wp2_with fail
          go_ret
          exact ⟨by rw [HN.out]; rfl, Below.refl _ _⟩
        · rw [show usual 2 = 443 from rfl, decide_eq_false h2] at hN
          have HN : RowKit.Hid (portB 2 p = true) := hN
          have h3 : (p != 443) = true := by rw [bne_iff_ne]; exact h2
          clear hN
          go_wp2_with fail
          go_ret
          exact ⟨by rw [HN.out]; rfl, Below.refl _ _⟩
    · rw [decide_eq_false h1] at hN
      have HN : RowKit.Hid (portB n p = false) := hN
      clear hN
      go_wp2_with fail
      go_ret
      exact ⟨by rw [HN.out]; rfl, Below.refl _ _⟩
  · rw [decide_eq_false h0] at hN
    have HN : RowKit.Hid (portB n p = false) := hN
    clear hN
    go_wp2_with fail
    go_ret
    exact ⟨by rw [HN.out]; rfl, Below.refl _ _⟩
set_option maxRecDepth 100000 in
set_option maxHeartbeats 4000000 in
theorem schemeof_any (s : ByteArray) (w : World) (env : LEnv fl w) :
    Calls Tryd.prog 46 #[.string s] w fun e w' => e = .returned (.int .u8 (schOf s.data.toList : Nat)) ∧ Below w.heap.size w w' := by
  have hG := env.big
  obtain ⟨c0, c1, c2, c3, c4, c5⟩ := schemes_at env
  clear env
  have hN : schOf s.data.toList = if (s.toList == []) = true then 0 else if (s.toList == [114, 115, 121, 110, 99]) = true then 1 else if (s.toList == [104, 116, 116, 112, 115]) = true then 2 else 0 := by
    unfold schOf
    rw [eqS, eqS, eqS]
    simp only [decide_eq_true_eq]
    rfl
  have sw : ∀ l : List UInt8, (l == s.toList) = (s.toList == l) := fun l => by
    rw [Bool.eq_iff_iff, beq_iff_eq, beq_iff_eq]
    exact eq_comm
  have HN := Lib.hid hN
  clear hN
  go_enter Tryd.func46, Tryd.ntmps46
  cases h0 : (s.toList == [])
  · have g0 := (sw []).trans h0
    cases h1 : (s.toList == [114, 115, 121, 110, 99])
    · have g1 := (sw _).trans h1
      cases h2 : (s.toList == [104, 116, 116, 112, 115])
      · have g2 := (sw _).trans h2
        have HR : RowKit.Hid (schOf s.data.toList = 0) := by rw [HN.out, h0, h1, h2]; rfl
        clear sw
        go_wp2_with fail
        refine wp_loop_rounds 4  ?_
        rw [rounds_succ]; go_wp2_with fail
        rw [rounds_succ]; go_wp2_with fail
        rw [rounds_succ]; go_wp2_with fail
        rw [rounds_succ]; go_wp2_with fail
        go_ret
        exact ⟨by rw [HR.out]; rfl, Below.refl _ _⟩
      · have g2 := (sw _).trans h2
        have HR : RowKit.Hid (schOf s.data.toList = 2) := by rw [HN.out, h0, h1, h2]; rfl
        clear sw
        go_wp2_with fail
        refine wp_loop_rounds 3  ?_
        rw [rounds_succ]; go_wp2_with fail
        rw [rounds_succ]; go_wp2_with fail
        rw [rounds_succ]; go_wp2_with fail
        go_ret
        exact ⟨by rw [HR.out]; rfl, Below.refl _ _⟩
    · have g1 := (sw _).trans h1
      have HR : RowKit.Hid (schOf s.data.toList = 1) := by rw [HN.out, h0, h1]; rfl
      clear sw
      go_wp2_with fail
      refine wp_loop_rounds 2  ?_
      rw [rounds_succ]; go_wp2_with fail
      rw [rounds_succ]; go_wp2_with fail
      go_ret
      exact ⟨by rw [HR.out]; rfl, Below.refl _ _⟩
  · have g0 := (sw []).trans h0
    have HR : RowKit.Hid (schOf s.data.toList = 0) := by rw [HN.out, h0]; rfl
    clear sw
    go_wp2_with fail
    refine wp_loop_rounds 1  ?_
    rw [rounds_succ]; go_wp2_with fail
    go_ret
    exact ⟨by rw [HR.out]; rfl, Below.refl _ _⟩
end Go.Proofs.YthagoafcphaadaaDoor
