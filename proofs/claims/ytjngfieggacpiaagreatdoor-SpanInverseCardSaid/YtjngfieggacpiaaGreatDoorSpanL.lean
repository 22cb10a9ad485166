/-
  PLAIN MATHEMATICS of package span: strings and spans are inverse; the list of a prefix's span.
-/
import Derived.Test.YtjngfieggacpiaaGreatDoorSpanK
import Derived.Test.YtjngfieggacpiaaGreatDoorSpanI
namespace Go.Proofs.YtjngfieggacpiaaGreatDoor
open Go.RowKit Adr Spn
set_option linter.unusedVariables false
set_option linter.unusedSimpArgs false
theorem pfxS_dash (f : Int) (H L n : Nat) : (45 : UInt8) ∉ pfxS f H L n := by
  unfold pfxS
  have h1 := (addrS_slash f H L).2
  have h2 := dec_not n 45 (Or.inl (by decide))
  simp [h1, h2]
theorem dash_app (a b : List UInt8) : str a ++ ⟨#[45]⟩ ++ str b = str (a ++ 45 :: b) := by
  rw [show a ++ 45 :: b = (a ++ [45]) ++ b by simp, str_app, str_app]
  rfl
theorem sp_back (f : Int) (A M : Nat) (hM : M < 2 ^ 128) (h : schk f A M = 0) :
    (rdF (stX f A M) : Int) = f ∧ rdA (stX f A M) = A ∧ rdM (stX f A M) = M := by
  obtain ⟨W, hf, hAM, hMW⟩ := schk_fam hM h
  obtain ⟨w1, w2, w3, w4⟩ := hf.wid
  have hA : A < 2 ^ W := by omega
  have h128 := hf.lt hA
  have h2 : (2 : Nat) ^ 128 = 340282366920938463463374607431768211456 := by decide
  have hfit := gre_fits W A (M + 1 - A) (by omega)
  have hkW := gre_le W A (M + 1 - A)
  have hcA : ca f ((A / 18446744073709551616 : Nat) : Int) ((A % 18446744073709551616 : Nat) : Int) = true := by
    have := ca_num f A
    rw [show aH A = ((A / 18446744073709551616 : Nat) : Int) from rfl, show aL A = ((A % 18446744073709551616 : Nat) : Int) from rfl] at this
    rw [this]; exact hf.isA A hA
  have hcM : ca f ((M / 18446744073709551616 : Nat) : Int) ((M % 18446744073709551616 : Nat) : Int) = true := by
    have := ca_num f M
    rw [show aH M = ((M / 18446744073709551616 : Nat) : Int) from rfl, show aL M = ((M % 18446744073709551616 : Nat) : Int) from rfl] at this
    rw [this]; exact hf.isA M hMW
  unfold stX
  rw [if_pos h, hf.famW]
  unfold sxS
  by_cases hp : 2 ^ gre W A (M + 1 - A) = M + 1 - A
  · rw [if_pos hp]
    obtain ⟨k, hk⟩ : ∃ k, gre W A (M + 1 - A) = k := ⟨_, rfl⟩
    rw [hk] at hp hfit hkW ⊢
    have hd : ¬ dashed (str (pfxS f (A / 18446744073709551616) (A % 18446744073709551616) (W - k))) = true := by
      unfold dashed
      rw [str_dat]
      simpa using indexByte_no 45 _ (pfxS_dash f _ _ _)
    have hchk : chk f (aH A) (aL A) ((W - k : Nat) : Int) = 0 := chk_of_num hf (by omega) hA (by rw [show W - (W - k) = k by omega]; exact hfit.1)
    obtain ⟨b1, b2, b3, b4, b5⟩ := pa_back f (A / 18446744073709551616) (A % 18446744073709551616) (W - k) hchk hcA (by omega) (by omega) (by omega)
    unfold rdF rdA rdM
    rw [if_neg hd, if_neg hd, if_neg hd, if_pos b5, b2, b3, b4, b1, hf.famW]
    have hp0 := Nat.two_pow_pos k
    rw [show W - (W - k) = k by omega]
    exact ⟨rfl, by omega, by omega⟩
  · rw [if_neg hp, dash_app]
    obtain ⟨X, hX⟩ : ∃ X, addrS f (A / 18446744073709551616) (A % 18446744073709551616) = X := ⟨_, rfl⟩
    obtain ⟨Y, hY⟩ : ∃ Y, addrS f (M / 18446744073709551616) (M % 18446744073709551616) = Y := ⟨_, rfl⟩
    have hnX : (45 : UInt8) ∉ X := by rw [← hX]; exact (addrS_slash f _ _).2
    have bA := ap_back f (A / 18446744073709551616) (A % 18446744073709551616) hcA (by omega) (by omega)
    have bM := ap_back f (M / 18446744073709551616) (M % 18446744073709551616) hcM (by omega) (by omega)
    rw [hX] at bA ⊢
    rw [hY] at bM ⊢
    have hd : dashed (str (X ++ 45 :: Y)) = true := by
      unfold dashed
      rw [str_dat]
      simpa using indexByte_yes 45 (X ++ 45 :: Y) (by simp)
    have cL : cutL (str (X ++ 45 :: Y)) = str X := by
      unfold cutL
      rw [str_dat, cut_at 45 X Y hnX]; rfl
    have cR : cutR (str (X ++ 45 :: Y)) = str Y := by
      unfold cutR
      rw [str_dat, cut_at 45 X Y hnX]; rfl
    have hr : reOk (str (X ++ 45 :: Y)) = true := by
      unfold reOk
      rw [cL, cR, bA.2.2.2, bM.2.2.2]
      have : apF (str X) = apF (str Y) := by have h1 := bA.1; have h2 := bM.1; omega
      rw [this]; simp
    unfold rdF rdA rdM
    rw [if_pos hd, if_pos hd, if_pos hd, if_pos hr, if_pos hr, if_pos hr, cL, cR]
    unfold apN
    rw [bA.2.1, bA.2.2.1, bM.2.1, bM.2.2.1]
    exact ⟨bA.1, by omega, by omega⟩
theorem spOk_back (f : Int) (A M : Nat) (hM : M < 2 ^ 128) (h : schk f A M = 0) :
    (spF (stX f A M) : Int) = f ∧ spA (stX f A M) = A ∧ spM (stX f A M) = M ∧ spE (stX f A M) = 0 := by
  obtain ⟨b1, b2, b3⟩ := sp_back f A M hM h
  have hok : spOk (stX f A M) = true := by
    unfold spOk
    rw [b1, b2, b3, h]
    simp
  unfold spF spA spM spE
  rw [if_pos hok, if_pos hok, if_pos hok, if_pos hok]
  exact ⟨b1, b2, b3, rfl⟩
theorem sp_forth {s : ByteArray} (h : spE s = 0) : schk (spF s) (spA s) (spM s) = 0 ∧ stX (spF s) (spA s) (spM s) = s := by
  have hok : spOk s = true := by
    unfold spE at h
    by_cases hh : spOk s = true
    · exact hh
    · rw [if_neg hh] at h; cases h
  unfold spF spA spM
  rw [if_pos hok, if_pos hok, if_pos hok]
  unfold spOk at hok
  simp only [Bool.and_eq_true, beq_iff_eq, decide_eq_true_eq] at hok
  exact hok
theorem sp_e2 (s : ByteArray) : spE s = 0 ∨ spE s = 12 := by
  unfold spE; split <;> simp
theorem spM_lt (s : ByteArray) : spM s < 2 ^ 128 := by
  unfold spM
  split
  · exact rdM_lt s
  · exact Nat.two_pow_pos _
theorem stX_size (f : Int) (A M : Nat) : (stX f A M).size ≤ 1000 := by
  have e0 : (⟨#[45]⟩ : ByteArray).size = 1 := rfl
  unfold stX
  split
  · unfold sxS
    split
    · have s1 := str_size (pfxS f (A / 18446744073709551616) (A % 18446744073709551616) (famW f - gre (famW f) A (M + 1 - A)))
      have s2 := addrS_len f (A / 18446744073709551616) (A % 18446744073709551616)
      have s3 : (Lib.decDigits (famW f - gre (famW f) A (M + 1 - A))).length ≤ 20 := by
        rw [Lib.decDigits_length]
        exact Lib.nDigits_le20 _ (by unfold famW; split <;> omega)
      unfold pfxS at s1 ⊢
      simp only [List.length_append, List.length_cons, List.length_nil] at s1
      omega
    · have s1 := str_size (addrS f (A / 18446744073709551616) (A % 18446744073709551616))
      have s2 := addrS_len f (A / 18446744073709551616) (A % 18446744073709551616)
      have s3 := str_size (addrS f (M / 18446744073709551616) (M % 18446744073709551616))
      have s4 := addrS_len f (M / 18446744073709551616) (M % 18446744073709551616)
      rw [ByteArray.size_append, ByteArray.size_append, s1, s3, e0]
      omega
  · show (0 : Nat) ≤ 1000
    omega
/-- the list of a prefix's span -/
theorem gre_whole (W N k : Nat) (hk : k ≤ W) (ha : N % 2 ^ k = 0) : gre W N (2 ^ k) = k := by
  have h1 := gre_max W N (2 ^ k) k hk ha (Nat.le_refl _)
  have h2 := (gre_fits W N (2 ^ k) (Nat.two_pow_pos k)).2
  have h3 := pow_inj_le h2
  omega
theorem steps_whole (W N k : Nat) (hk : k ≤ W) (ha : N % 2 ^ k = 0) : Spn.Steps W N (2 ^ k) [(N, k)] :=
  steps_mk (gre_whole W N k hk ha) (Nat.two_pow_pos k) (by rw [Nat.sub_self]; exact .nil _)
end Go.Proofs.YtjngfieggacpiaaGreatDoor
