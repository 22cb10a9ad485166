/-
  PLAIN MATHEMATICS of the reference's numbers: what is read is what is written; numbers of systems.
-/
import Derived.Test.YtlikgfmcialepaaGreatDoorTxRefG
import Derived.Test.YtlikgfmcialepaaGreatDoorInvMath
namespace Go.Proofs.YtlikgfmcialepaaGreatDoor
open Go.RowKit Adr
set_option linter.unusedVariables false
set_option linter.unusedSimpArgs false
theorem numV_snoc (b : Nat) (c : UInt8) : ∀ (l : List UInt8) (acc : Nat), numV b acc (l ++ [c]) = (numV b acc l).bind fun a => if dv c.toNat < b then some (a * b + dv c.toNat) else none
  | [], acc => by
    simp only [List.nil_append, numV, Option.bind_some]
  | x :: l, acc => by
    rw [List.cons_append, numV, numV]
    by_cases h : dv x.toNat < b
    · rw [if_pos h, if_pos h, numV_snoc b c l]
    · rw [if_neg h, if_neg h]
      rfl
theorem numV_of_dg (b : Nat) (hb : 2 ≤ b) (hb2 : b ≤ 16) : ∀ n, n < 2 ^ 64 → numV b 0 (dg b n) = some n := by
  intro n
  induction n using Nat.strongRecOn with
  | _ n ih =>
    intro hn
    rw [dg_step b n hb hn]
    by_cases h : n < b
    · rw [if_pos h, numV, numV, dv_hexc n (by omega), if_pos h]
      simp
    · have hd : n / b < n := Nat.div_lt_self (by omega) (by omega)
      have hm : n % b < b := Nat.mod_lt _ (by omega)
      rw [if_neg h, numV_snoc, ih (n / b) hd (by omega), dv_hexc _ (by omega)]
      have := Nat.div_add_mod n b
      rw [Nat.mul_comm] at this
      simp [hm, this]
theorem dg_ne (b n : Nat) (hb : 2 ≤ b) (hn : n < 2 ^ 64) : dg b n ≠ [] := by
  rw [dg_step b n hb hn]
  split <;> simp
theorem dg_head (b : Nat) (hb : 2 ≤ b) (hb2 : b ≤ 16) : ∀ n, 0 < n → n < 2 ^ 64 → (dg b n).head? ≠ some 48 := by
  intro n
  induction n using Nat.strongRecOn with
  | _ n ih =>
    intro h0 hn
    rw [dg_step b n hb hn]
    by_cases h : n < b
    · rw [if_pos h, List.head?_cons]
      intro e
      have := (hexc_zero n (by omega)).1 (Option.some.inj e)
      omega
    · have hd : n / b < n := Nat.div_lt_self (by omega) (by omega)
      have hp : 0 < n / b := Nat.div_pos (by omega) (by omega)
      rw [if_neg h]
      have hi := ih (n / b) hd hp (by omega)
      have hne := dg_ne b (n / b) hb (by omega)
      cases hx : dg b (n / b) with
      | nil => exact absurd hx hne
      | cons a t =>
        rw [hx] at hi
        simpa using hi
theorem dg_short (b : Nat) (hb : 2 ≤ b) : ∀ k n, 1 ≤ k → n < b ^ k → n < 2 ^ 64 → (dg b n).length ≤ k
  | 0, _, h, _, _ => by omega
  | k + 1, n, _, h, hn => by
    rw [dg_step b n hb hn]
    by_cases hlt : n < b
    · rw [if_pos hlt]
      simp
    · have hd : n / b < b ^ k := by
        rw [Nat.pow_succ] at h
        exact Nat.div_lt_of_lt_mul (by rw [Nat.mul_comm]; exact h)
      have hd2 : n / b < n := Nat.div_lt_self (by omega) (by omega)
      have hk : 1 ≤ k := by
        rcases Nat.eq_zero_or_pos k with e | e
        · subst e
          rw [Nat.pow_zero] at hd
          have : 0 < n / b := Nat.div_pos (by omega) (by omega)
          omega
        · exact e
      rw [if_neg hlt, List.length_append]
      have := dg_short b hb k (n / b) hk hd (by omega)
      simp
      omega
theorem numR_dg (b n : Nat) (hb : 2 ≤ b) (hb2 : b ≤ 16) (hn : n < b ^ 10) (hn2 : n < 2 ^ 64) : numR b (dg b n) = some n := by
  unfold numR
  rw [if_neg, numV_of_dg b hb hb2 n hn2]
  rintro (h | h | ⟨h1, h2⟩)
  · exact dg_ne b n hb hn2 h
  · have := dg_short b hb 10 n (by omega) hn hn2
    omega
  · by_cases h0 : n = 0
    · subst h0
      rw [dg_step b 0 hb (by omega), if_pos (by omega)] at h1
      simp at h1
    · exact dg_head b hb hb2 n (by omega) hn2 h2
theorem numR_some {b v : Nat} {l : List UInt8} (hb : 2 ≤ b) (hb2 : b ≤ 16) (h : numR b l = some v) : dg b v = l ∧ v < b ^ 10 ∧ v < 2 ^ 64 := by
  unfold numR at h
  split at h
  · cases h
  · rename_i hc
    have hne : l ≠ [] := fun e => hc (Or.inl e)
    have hlen : l.length ≤ 10 := by
      rcases Nat.lt_or_ge 10 l.length with e | e
      · exact absurd (Or.inr (Or.inl e)) hc
      · exact e
    have hv := numV_lt b hb l 0 v 0 h (by rw [Nat.pow_zero]; omega)
    rw [Nat.zero_add] at hv
    have hv10 : v < b ^ 10 := Nat.lt_of_lt_of_le hv (Nat.pow_le_pow_right (by omega) hlen)
    have hv64 : v < 2 ^ 64 := by
      have := pow_16 10 (Nat.le_refl _) b hb2
      omega
    refine ⟨?_, hv10, hv64⟩
    by_cases h48 : l.head? = some 48
    · have h1 : l.length = 1 := by
        have h2 : ¬ (1 < l.length ∧ l.head? = some 48) := fun e => hc (Or.inr (Or.inr e))
        have h3 : 0 < l.length := List.length_pos_iff.2 hne
        have h4 : ¬ 1 < l.length := fun e => h2 ⟨e, h48⟩
        omega
      obtain ⟨x, rfl⟩ := List.length_eq_one_iff.1 h1
      have hx : x = 48 := by simpa using h48
      subst hx
      have e0 : v = 0 := by
        have : numV b 0 [48] = some 0 := by
          rw [numV, numV, show dv (48 : UInt8).toNat = 0 by decide, if_pos (by omega)]
          simp
        rw [this] at h
        exact (Option.some.inj h).symm
      subst e0
      rw [dg_step b 0 hb (by omega), if_pos (by omega)]
      rfl
    · have := numV_dg b hb hb2 l 0 v h [] (Or.inl ⟨rfl, rfl, h48⟩) hv64 (Or.inl hne)
      simpa using this
/-- the reference's decimals are the program's -/
theorem num_rdec (B : Nat) (hB : B ≤ 32) (p : ByteArray) : (if nuB 10 (2 ^ B - 1) p = true then some (nuV 10 p) else none) = rdec B p.data.toList := by
  have hB2 : 2 ^ B ≤ 2 ^ 32 := Nat.pow_le_pow_right (by omega) hB
  have hB3 := Nat.two_pow_pos B
  have e32 : (2 : Nat) ^ 32 = 4294967296 := by decide
  have e10 : (10 : Nat) ^ 10 = 10000000000 := by decide
  cases hr : rdec B p.data.toList with
  | some v =>
    have h1 := rdec_some hr
    have h2 := rdec_le hr
    have h3 : numR 10 p.data.toList = some v := by
      rw [← h1, ← dg_dec v (by omega)]
      exact numR_dg 10 v (by omega) (by omega) (by omega) (by omega)
    have h4 : nuV 10 p = v := by unfold nuV; rw [h3]; rfl
    rw [if_pos (by unfold nuB; rw [h3, h4]; simp; omega), h4]
  | none =>
    rw [if_neg]
    intro hh
    unfold nuB at hh
    simp only [Bool.and_eq_true, decide_eq_true_eq] at hh
    obtain ⟨v, hv⟩ := Option.isSome_iff_exists.1 hh.1
    have h4 : nuV 10 p = v := by unfold nuV; rw [hv]; rfl
    rw [h4] at hh
    obtain ⟨h5, h6, h7⟩ := numR_some (by omega) (by omega) hv
    rw [dg_dec v h7] at h5
    have h8 := rdec_dec B hB v (by omega)
    rw [h5, hr] at h8
    cases h8
end Go.Proofs.YtlikgfmcialepaaGreatDoor
