/-
  THE WALKS over the texts of the reference of layer 1: reading numbers.
-/
import Derived.Test.YtlikgfmcialepaaGreatDoorTxRefD
namespace Go.Proofs.YtlikgfmcialepaaGreatDoor
open Go.RowKit Adr
set_option linter.unusedVariables false
set_option linter.unusedSimpArgs false
/-- the value of a digit -/
def dv (c : Nat) : Nat := if 48 ≤ c ∧ c ≤ 57 then c - 48 else if 97 ≤ c ∧ c ≤ 102 then c - 97 + 10 else 99
set_option maxHeartbeats 1000000 in
theorem value_1 (x b : Int) (h1 : 48 ≤ x) (h2 : x ≤ 57) (t : Bool) (ht : decide (x - 48 < b) = t) (w : World) :
    Calls Tryz.prog 65 #[.int .u8 x, .int .u64 b] w fun e w' => e = .returned (.tuple #[.int .u64 (x - 48), .bool t]) ∧ w = w' := by
  have HT := Lib.hid ht
  clear ht
  have h3 : ¬ 97 ≤ x := by omega
  go_enter Tryz.func65, Tryz.ntmps65
  go_wp2_with fail
  go_ret2
  exact ⟨by rw [← HT.out]; rfl, rfl⟩
set_option maxHeartbeats 1000000 in
theorem value_2 (x b : Int) (h1 : 97 ≤ x) (h2 : x ≤ 102) (t : Bool) (ht : decide (x - 97 + 10 < b) = t) (w : World) :
    Calls Tryz.prog 65 #[.int .u8 x, .int .u64 b] w fun e w' => e = .returned (.tuple #[.int .u64 (x - 97 + 10), .bool t]) ∧ w = w' := by
  have HT := Lib.hid ht
  clear ht
  have h3 : ¬ x ≤ 57 := by omega
  have h4 : (48 : Int) ≤ x := by omega
  go_enter Tryz.func65, Tryz.ntmps65
  go_wp2_with fail
  go_ret2
  exact ⟨by rw [← HT.out]; rfl, rfl⟩
set_option maxHeartbeats 1000000 in
theorem value_3 (x b : Int) (c1 c2 c3 c4 : Bool) (e1 : decide (48 ≤ x) = c1) (e2 : decide (x ≤ 57) = c2) (e3 : decide (97 ≤ x) = c3) (e4 : decide (x ≤ 102) = c4) (h1 : (c1 && c2) = false) (h2 : (c3 && c4) = false) (t : Bool) (ht : decide (99 < b) = t) (w : World) :
    Calls Tryz.prog 65 #[.int .u8 x, .int .u64 b] w fun e w' => e = .returned (.tuple #[.int .u64 99, .bool t]) ∧ w = w' := by
  have HT := Lib.hid ht
  clear ht
  cases c1 <;> cases c2 <;> cases c3 <;> cases c4
  all_goals first
    | (exfalso; revert h1; decide)
    | (exfalso; revert h2; decide)
    | (clear h1 h2
       go_enter Tryz.func65, Tryz.ntmps65
       go_wp2_with fail
       go_ret2
       exact ⟨by rw [← HT.out]; rfl, rfl⟩)
theorem value_any (c b : Nat) (w : World) :
    Calls Tryz.prog 65 #[.int .u8 c, .int .u64 b] w fun e w' => e = .returned (.tuple #[.int .u64 ((dv c : Nat) : Int), .bool (decide (dv c < b))]) ∧ w = w' := by
  unfold dv
  by_cases h1 : 48 ≤ c ∧ c ≤ 57
  · rw [if_pos h1]
    have h := value_1 c b (by omega) (by omega) (decide (c - 48 < b)) (by rw [decide_eq_decide]; omega) w
    rw [show ((c : Int) - 48) = ((c - 48 : Nat) : Int) by omega] at h
    exact h
  · rw [if_neg h1]
    by_cases h2 : 97 ≤ c ∧ c ≤ 102
    · rw [if_pos h2]
      have h := value_2 c b (by omega) (by omega) (decide (c - 97 + 10 < b)) (by rw [decide_eq_decide]; omega) w
      rw [show ((c : Int) - 97 + 10) = ((c - 97 + 10 : Nat) : Int) by omega] at h
      exact h
    · rw [if_neg h2]
      exact value_3 c b _ _ _ _ rfl rfl rfl rfl (by rw [Bool.eq_false_iff]; intro h; simp at h; omega) (by rw [Bool.eq_false_iff]; intro h; simp at h; omega) (decide (99 < b)) (by rw [decide_eq_decide]; omega) w
def numV (b : Nat) : Nat → List UInt8 → Option Nat
  | acc, [] => some acc
  | acc, c :: cs => if dv c.toNat < b then numV b (acc * b + dv c.toNat) cs else none
/-- what the reference reads of a number -/
def numR (b : Nat) (l : List UInt8) : Option Nat := if l = [] ∨ 10 < l.length ∨ (1 < l.length ∧ l.head? = some 48) then none else numV b 0 l
theorem dv_hexc : ∀ d, d < 16 → dv (hexc d).toNat = d := by decide
theorem hexc_dv (c : UInt8) (h : dv c.toNat < 16) : hexc (dv c.toNat) = c := by
  have h1 : ∀ n : Fin 256, dv n.val < 16 → hexc (dv n.val) = UInt8.ofNat n.val := by decide +kernel
  have h2 := h1 ⟨c.toNat, c.toNat_lt⟩ h
  rw [h2]
  simp
theorem hexc_zero : ∀ d, d < 16 → (hexc d = 48 ↔ d = 0) := by decide
theorem numV_lt (b : Nat) (hb : 2 ≤ b) : ∀ (l : List UInt8) (acc v k : Nat), numV b acc l = some v → acc < b ^ k → v < b ^ (k + l.length)
  | [], acc, v, k, h, ha => by
    simp [numV] at h
    subst h
    simpa using ha
  | c :: cs, acc, v, k, h, ha => by
    unfold numV at h
    split at h
    · rename_i hd
      have h1 : acc * b + dv c.toNat < b ^ (k + 1) := by
        rw [Nat.pow_succ]
        have : (acc + 1) * b ≤ b ^ k * b := Nat.mul_le_mul_right b ha
        rw [Nat.add_mul] at this
        omega
      have := numV_lt b hb cs _ v (k + 1) h h1
      rw [show k + 1 + cs.length = k + (c :: cs).length by simp; omega] at this
      exact this
    · cases h
theorem str_drop (s : ByteArray) (k : Nat) (h : k < s.size) : s.data.toList.drop k = s[k] :: s.data.toList.drop (k + 1) := by
  rw [List.drop_eq_getElem_cons (by simpa using h)]
  rfl
theorem pow_16 (k : Nat) (h : k ≤ 10) (b : Nat) (hb : b ≤ 16) : b ^ k ≤ 1099511627776 := by
  have h1 : b ^ k ≤ 16 ^ k := Nat.pow_le_pow_left hb k
  have h2 : 16 ^ k ≤ 16 ^ 10 := Nat.pow_le_pow_right (by omega) h
  have h3 : (16 : Nat) ^ 10 = 1099511627776 := by decide
  omega
set_option maxRecDepth 100000 in
set_option maxHeartbeats 4000000 in
theorem number_loop (s : ByteArray) (b lim : Nat) (hb : 2 ≤ b) (hb2 : b ≤ 16) (hl : lim < 18446744073709551616) (h1 : 0 < s.size) (h10 : s.size ≤ 10) (v : Nat) (t : Bool)
    (hz : s.size = 1 ∨ (1 < s.size ∧ ((s[0]'h1).toNat == 48) = false))
    (hr : (numV b 0 s.data.toList = none ∧ v = 0 ∧ t = false) ∨ (numV b 0 s.data.toList = some v ∧ t = decide (v ≤ lim))) (w : World) :
    Calls Tryz.prog 40 #[.string s, .int .u64 b, .int .u64 lim] w fun e w' => e = .returned (.tuple #[.int .u64 v, .bool t]) ∧ w = w' := by
  have HR := Lib.hid hr
  have HVal := Lib.hid (fun c w => value_any c b w)
  have hs0 : (0 : Int) < (s.size : Int) := by omega
  have hs10 : (s.size : Int) ≤ 10 := by omega
  have hsn : ((s.size : Int) == 0) = false := beq_eq_false_iff_ne.2 (by omega)
  have HDR := Lib.hid (str_drop s)
  clear hr
  rcases hz with hz | ⟨hz, h48⟩
  · have hz1 : ¬ (1 : Int) < (s.size : Int) := by omega
    clear hz
    go_enter Tryz.func40, Tryz.ntmps40
    go_wp2_with fail
    clear hz1
    go_loop [8, 9] (fun n i => ∃ k : Nat, k ≤ s.size ∧ i = .int .i64 (k : Int) ∧ ∃ q : Nat, n = .int .u64 (q : Int) ∧ q < b ^ k ∧ numV b 0 s.data.toList = numV b q (s.data.toList.drop k)) (fun _ i => s.size - (intOf i).toNat)
    case atStart => exact ⟨0, Nat.zero_le _, rfl, 0, rfl, by rw [Nat.pow_zero]; omega, by rw [List.drop_zero]⟩
    case round =>
      obtain ⟨k, hk, rfl, q, rfl, hq, hv⟩ := hrel
      by_cases hlt : k < s.size
      · have hki : (k : Int) < (s.size : Int) := by omega
        rw [HDR.out k hlt, numV] at hv
        have hq2 : q < 1099511627776 := by
          have := pow_16 k (by omega) b hb2
          omega
        have hqb : q * b + dv s[k].toNat < 35184372088832 ∨ ¬ dv s[k].toNat < b := by
          by_cases h : dv s[k].toNat < b
          · left
            have : q * b ≤ 1099511627776 * 16 := Nat.mul_le_mul (by omega) hb2
            omega
          · exact .inr h
        have hq3 : q * b + b ≤ b ^ (k + 1) := by
          rw [Nat.pow_succ]
          have : (q + 1) * b ≤ b ^ k * b := Nat.mul_le_mul_right b hq
          rw [Nat.add_mul] at this
          omega
        have HV := Lib.hid (HVal.out s[k].toNat w)
        obtain ⟨d, hd⟩ : ∃ d, dv s[k].toNat = d := ⟨_, rfl⟩
        rw [hd] at hv hqb HV
        clear hd
        by_cases hdb : d < b
        · rw [if_pos hdb] at hv
          rw [decide_eq_true hdb] at HV
          have HVV := Lib.hid hv
          have hm : IntKind.u64.wrap ((q : Int) * (b : Int)) = ((q * b : Nat) : Int) := by
            rw [← Int.natCast_mul]
            exact wrap_nat _ (by omega)
          have hm2 : IntKind.u64.wrap (((q * b : Nat) : Int) + (d : Int)) = ((q * b + d : Nat) : Int) := by
            rw [← Int.natCast_add]
            exact wrap_nat _ (by omega)
          have HLE : RowKit.Hid (q * b + d < b ^ (k + 1)) := Lib.hid (by omega)
          obtain ⟨m, hmm⟩ : ∃ m, q * b = m := ⟨_, rfl⟩
          rw [hmm] at hm hm2 HLE HVV
          have HM := Lib.hid hm
          have HM2 := Lib.hid hm2
          clear hv hqb hq3 hdb hq hmm hm hm2
          go_wp2_with fail
          refine (HV.out).mono ?_
          rintro e wx ⟨rfl, rfl⟩
          have hm := HM.out
          have hm2 := HM2.out
          go_wp2_with fail
          go_round
          case rel => exact ⟨k + 1, by omega, by go_num, m + d, rfl, HLE.out, HVV.out⟩
          case measure => simp [intOf]; omega
        · rw [if_neg hdb] at hv
          rw [decide_eq_false hdb] at HV
          obtain ⟨rfl, rfl⟩ : v = 0 ∧ t = false := by
            rcases HR.out with h | h
            · exact h.2
            · rw [hv] at h
              exact absurd h.1 (by simp)
          clear hv hqb hq3 hdb hq
          go_wp2_with fail
          refine (HV.out).mono ?_
          rintro e wx ⟨rfl, rfl⟩
          go_wp2_with fail
          go_ret2
          exact ⟨rfl, rfl⟩
      · have hki : (s.size : Int) ≤ (k : Int) := by omega
        rw [List.drop_eq_nil_of_le (by simpa using (show s.size ≤ k by omega)), numV] at hv
        obtain ⟨rfl, rfl⟩ : v = q ∧ t = decide (q ≤ lim) := by
          rcases HR.out with h | h
          · rw [hv] at h
            exact absurd h.1 (by simp)
          · rw [hv] at h
            have : q = v := by simpa using h.1
            subst this
            exact ⟨rfl, h.2⟩
        have hc : decide ((v : Int) ≤ (lim : Int)) = decide (v ≤ lim) := by rw [decide_eq_decide]; omega
        have HCC := Lib.hid hc
        clear hv hc hq
        go_wp2_with fail
        go_ret2
        exact ⟨by rw [← HCC.out]; rfl, rfl⟩
  · have hz1 : (1 : Int) < (s.size : Int) := by omega
    have h48' : (((s[0]'h1).toNat : Int) == 48) = false := beq_eq_false_iff_ne.2 (fun h => (beq_eq_false_iff_ne.1 h48) (by omega))
    clear hz h48
    go_enter Tryz.func40, Tryz.ntmps40
    go_wp2_with fail
    clear h48'
    clear hz1
    go_loop [8, 9] (fun n i => ∃ k : Nat, k ≤ s.size ∧ i = .int .i64 (k : Int) ∧ ∃ q : Nat, n = .int .u64 (q : Int) ∧ q < b ^ k ∧ numV b 0 s.data.toList = numV b q (s.data.toList.drop k)) (fun _ i => s.size - (intOf i).toNat)
    case atStart => exact ⟨0, Nat.zero_le _, rfl, 0, rfl, by rw [Nat.pow_zero]; omega, by rw [List.drop_zero]⟩
    case round =>
      obtain ⟨k, hk, rfl, q, rfl, hq, hv⟩ := hrel
      by_cases hlt : k < s.size
      · have hki : (k : Int) < (s.size : Int) := by omega
        rw [HDR.out k hlt, numV] at hv
        have hq2 : q < 1099511627776 := by
          have := pow_16 k (by omega) b hb2
          omega
        have hqb : q * b + dv s[k].toNat < 35184372088832 ∨ ¬ dv s[k].toNat < b := by
          by_cases h : dv s[k].toNat < b
          · left
            have : q * b ≤ 1099511627776 * 16 := Nat.mul_le_mul (by omega) hb2
            omega
          · exact .inr h
        have hq3 : q * b + b ≤ b ^ (k + 1) := by
          rw [Nat.pow_succ]
          have : (q + 1) * b ≤ b ^ k * b := Nat.mul_le_mul_right b hq
          rw [Nat.add_mul] at this
          omega
        have HV := Lib.hid (HVal.out s[k].toNat w)
        obtain ⟨d, hd⟩ : ∃ d, dv s[k].toNat = d := ⟨_, rfl⟩
        rw [hd] at hv hqb HV
        clear hd
        by_cases hdb : d < b
        · rw [if_pos hdb] at hv
          rw [decide_eq_true hdb] at HV
          have HVV := Lib.hid hv
          have hm : IntKind.u64.wrap ((q : Int) * (b : Int)) = ((q * b : Nat) : Int) := by
            rw [← Int.natCast_mul]
            exact wrap_nat _ (by omega)
          have hm2 : IntKind.u64.wrap (((q * b : Nat) : Int) + (d : Int)) = ((q * b + d : Nat) : Int) := by
            rw [← Int.natCast_add]
            exact wrap_nat _ (by omega)
          have HLE : RowKit.Hid (q * b + d < b ^ (k + 1)) := Lib.hid (by omega)
          obtain ⟨m, hmm⟩ : ∃ m, q * b = m := ⟨_, rfl⟩
          rw [hmm] at hm hm2 HLE HVV
          have HM := Lib.hid hm
          have HM2 := Lib.hid hm2
          clear hv hqb hq3 hdb hq hmm hm hm2
          go_wp2_with fail
          refine (HV.out).mono ?_
          rintro e wx ⟨rfl, rfl⟩
          have hm := HM.out
          have hm2 := HM2.out
          go_wp2_with fail
          go_round
          case rel => exact ⟨k + 1, by omega, by go_num, m + d, rfl, HLE.out, HVV.out⟩
          case measure => simp [intOf]; omega
        · rw [if_neg hdb] at hv
          rw [decide_eq_false hdb] at HV
          obtain ⟨rfl, rfl⟩ : v = 0 ∧ t = false := by
            rcases HR.out with h | h
            · exact h.2
            · rw [hv] at h
              exact absurd h.1 (by simp)
          clear hv hqb hq3 hdb hq
          go_wp2_with fail
          refine (HV.out).mono ?_
          rintro e wx ⟨rfl, rfl⟩
          go_wp2_with fail
          go_ret2
          exact ⟨rfl, rfl⟩
      · have hki : (s.size : Int) ≤ (k : Int) := by omega
        rw [List.drop_eq_nil_of_le (by simpa using (show s.size ≤ k by omega)), numV] at hv
        obtain ⟨rfl, rfl⟩ : v = q ∧ t = decide (q ≤ lim) := by
          rcases HR.out with h | h
          · rw [hv] at h
            exact absurd h.1 (by simp)
          · rw [hv] at h
            have : q = v := by simpa using h.1
            subst this
            exact ⟨rfl, h.2⟩
        have hc : decide ((v : Int) ≤ (lim : Int)) = decide (v ≤ lim) := by rw [decide_eq_decide]; omega
        have HCC := Lib.hid hc
        clear hv hc hq
        go_wp2_with fail
        go_ret2
        exact ⟨by rw [← HCC.out]; rfl, rfl⟩
def nuV (b : Nat) (s : ByteArray) : Nat := (numR b s.data.toList).getD 0
def nuB (b lim : Nat) (s : ByteArray) : Bool := (numR b s.data.toList).isSome && decide (nuV b s ≤ lim)
theorem number_bad (s : ByteArray) (b lim : Nat) (hs : s.size ≤ 1000) (h : s.size = 0 ∨ 10 < s.size ∨ ∃ h1 : 1 < s.size, ((s[0]'(by omega)).toNat == 48) = true) (w : World) :
    Calls Tryz.prog 40 #[.string s, .int .u64 b, .int .u64 lim] w fun e w' => e = .returned (.tuple #[.int .u64 0, .bool false]) ∧ w = w' := by
  rcases h with h | h | ⟨h1, h⟩
  · have hsn : ((s.size : Int) == 0) = true := by simp [h]
    clear h
    go_enter Tryz.func40, Tryz.ntmps40
    go_wp2_with fail
    go_ret2
    exact ⟨rfl, rfl⟩
  · have hsn : ((s.size : Int) == 0) = false := beq_eq_false_iff_ne.2 (by omega)
    have hs10 : (10 : Int) < (s.size : Int) := by omega
    clear h
    go_enter Tryz.func40, Tryz.ntmps40
    go_wp2_with fail
    go_ret2
    exact ⟨rfl, rfl⟩
  · by_cases h10 : 10 < s.size
    · have hsn : ((s.size : Int) == 0) = false := beq_eq_false_iff_ne.2 (by omega)
      have hs10 : (10 : Int) < (s.size : Int) := by omega
      clear h
      go_enter Tryz.func40, Tryz.ntmps40
      go_wp2_with fail
      go_ret2
      exact ⟨rfl, rfl⟩
    · have hsn : ((s.size : Int) == 0) = false := beq_eq_false_iff_ne.2 (by omega)
      have hs10 : (s.size : Int) ≤ 10 := by omega
      have hs1 : (1 : Int) < (s.size : Int) := by omega
      have hs0 : 0 < s.size := by omega
      have h48 : (((s[0]'hs0).toNat : Int) == 48) = true := beq_iff_eq.2 (by have := beq_iff_eq.1 h; omega)
      clear h
      go_enter Tryz.func40, Tryz.ntmps40
      go_wp2_with fail
      go_ret2
      exact ⟨rfl, rfl⟩
theorem head_48 (s : ByteArray) (h1 : 0 < s.size) : (s.data.toList.head? = some 48) ↔ ((s[0]'h1).toNat == 48) = true := by
  have hd := str_drop s 0 h1
  rw [List.drop_zero] at hd
  rw [hd, List.head?_cons]
  constructor
  · intro h
    rw [Option.some.inj h]
    rfl
  · intro h
    have h2 : (s[0]'h1).toNat = 48 := beq_iff_eq.1 h
    have : s[0]'h1 = UInt8.ofNat 48 := by
      apply UInt8.toNat_inj.1
      rw [h2]
      rfl
    rw [this]
    rfl
/-- the reference's Number -/
theorem number_any (s : ByteArray) (b lim : Nat) (hb : 2 ≤ b) (hb2 : b ≤ 16) (hl : lim < 18446744073709551616) (hs : s.size ≤ 1000) (w : World) :
    Calls Tryz.prog 40 #[.string s, .int .u64 b, .int .u64 lim] w fun e w' => e = .returned (.tuple #[.int .u64 ((nuV b s : Nat) : Int), .bool (nuB b lim s)]) ∧ w = w' := by
  have hlen : s.data.toList.length = s.size := by simp
  by_cases h0 : s.data.toList = [] ∨ 10 < s.data.toList.length ∨ (1 < s.data.toList.length ∧ s.data.toList.head? = some 48)
  · have hn : numR b s.data.toList = none := by unfold numR; rw [if_pos h0]
    unfold nuB nuV
    rw [hn]
    refine number_bad s b lim hs ?_ w
    rcases h0 with h | h | ⟨h1, h2⟩
    · left
      rw [← hlen, h]
      rfl
    · right; left; omega
    · right; right
      exact ⟨by omega, (head_48 s (by omega)).1 h2⟩
  · have hn : numR b s.data.toList = numV b 0 s.data.toList := by unfold numR; rw [if_neg h0]
    have h1 : 0 < s.size := by
      rcases Nat.eq_zero_or_pos s.size with e | e
      · exact absurd (Or.inl (List.eq_nil_of_length_eq_zero (by rw [hlen]; exact e))) h0
      · exact e
    have h10 : s.size ≤ 10 := by
      rcases Nat.lt_or_ge 10 s.size with e | e
      · exact absurd (Or.inr (Or.inl (by omega))) h0
      · exact e
    have hz : s.size = 1 ∨ (1 < s.size ∧ ((s[0]'h1).toNat == 48) = false) := by
      by_cases e : 1 < s.size
      · right
        refine ⟨e, ?_⟩
        rw [Bool.eq_false_iff]
        intro h
        exact h0 (Or.inr (Or.inr ⟨by omega, (head_48 s h1).2 h⟩))
      · left; omega
    refine number_loop s b lim hb hb2 hl h1 h10 (nuV b s) (nuB b lim s) hz ?_ w
    unfold nuB nuV
    rw [hn]
    cases hv : numV b 0 s.data.toList with
    | none => exact Or.inl ⟨rfl, rfl, rfl⟩
    | some v => exact Or.inr ⟨rfl, by simp⟩
/-- what is read is what is written -/
theorem numV_dg (b : Nat) (hb : 2 ≤ b) (hb2 : b ≤ 16) : ∀ (l : List UInt8) (acc v : Nat), numV b acc l = some v → ∀ pre, (acc = 0 ∧ pre = [] ∧ l.head? ≠ some 48 ∨ (0 < acc ∧ pre = dg b acc)) → v < 2 ^ 64 → (l ≠ [] ∨ 0 < acc) → dg b v = pre ++ l
  | [], acc, v, h, pre, hp, hv, hne => by
    simp [numV] at h
    subst h
    rcases hp with ⟨rfl, rfl, _⟩ | ⟨_, rfl⟩
    · rcases hne with h | h
      · exact absurd rfl h
      · omega
    · simp
  | c :: cs, acc, v, h, pre, hp, hv, hne => by
    unfold numV at h
    split at h
    · rename_i hd
      have hc : hexc (dv c.toNat) = c := hexc_dv c (by omega)
      have hmono : ∀ (l : List UInt8) (x y : Nat), numV b x l = some y → x ≤ y := by
        intro l
        induction l with
        | nil => intro x y h; simp [numV] at h; omega
        | cons a l ih =>
          intro x y h
          unfold numV at h
          split at h
          · have := ih _ _ h
            have h2 : x * 1 ≤ x * b := Nat.mul_le_mul_left x (by omega)
            omega
          · cases h
      have hle := hmono _ _ _ h
      rcases hp with ⟨rfl, rfl, h48⟩ | ⟨ha, rfl⟩
      · rw [Nat.zero_mul, Nat.zero_add] at h hle
        have hd0 : 0 < dv c.toNat := by
          rcases Nat.eq_zero_or_pos (dv c.toNat) with e | e
          · exfalso
            rw [e] at hc
            apply h48
            rw [List.head?_cons, ← hc]
            rfl
          · exact e
        have hstep : dg b (dv c.toNat) = [c] := by
          rw [dg_step b _ hb (by omega), if_pos hd, hc]
        have := numV_dg b hb hb2 cs _ v h [c] (Or.inr ⟨hd0, hstep.symm⟩) hv (Or.inr hd0)
        simpa using this
      · have h2 : acc * 1 ≤ acc * b := Nat.mul_le_mul_left acc (by omega)
        have h3 : acc * 2 ≤ acc * b := Nat.mul_le_mul_left acc hb
        have hdiv : (acc * b + dv c.toNat) / b = acc := by
          rw [Nat.mul_comm, Nat.mul_add_div (by omega), Nat.div_eq_of_lt hd]
          rfl
        have hmod : (acc * b + dv c.toNat) % b = dv c.toNat := by
          rw [Nat.mul_comm, Nat.mul_add_mod, Nat.mod_eq_of_lt hd]
        have hge : ¬ acc * b + dv c.toNat < b := by
          have : 1 * b ≤ acc * b := Nat.mul_le_mul_right b ha
          omega
        have hstep : dg b (acc * b + dv c.toNat) = dg b acc ++ [c] := by
          rw [dg_step b _ hb (by omega), if_neg hge, hdiv, hmod, hc]
        have := numV_dg b hb hb2 cs _ v h (dg b acc ++ [c]) (Or.inr ⟨by omega, hstep.symm⟩) hv (Or.inr (by omega))
        simpa using this
    · cases h
end Go.Proofs.YtlikgfmcialepaaGreatDoor
