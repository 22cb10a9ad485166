/-
  PLAIN MATHEMATICS of layer 1: a cut prefix.
-/
import Derived.Test.YtjpngoccmjpckaaDoorOrderMath
namespace Go.Proofs.YtjpngoccmjpckaaDoor
namespace Adr
theorem clr0 (h l : Int) : clrH h 0 = h ∧ clrL l 0 = l := by
  refine ⟨rfl, ?_⟩
  unfold clrL
  rw [if_neg (by omega)]
  simp
theorem clr2 {h l : Int} (uh : U64 h) (ul : U64 l) (a b : Nat) (hab : b ≤ a) : clrH (clrH h b) a = clrH h a ∧ clrL (clrL l b) a = clrL l a := by
  obtain ⟨H, rfl, hH⟩ := u64_nat uh
  obtain ⟨L, rfl, hL⟩ := u64_nat ul
  obtain ⟨H1, L1, e1, e2, hL1, e3⟩ := clr_num H L b hL
  obtain ⟨H2, L2, f1, f2, hL2, f3⟩ := clr_num H1 L1 a hL1
  obtain ⟨H3, L3, g1, g2, hL3, g3⟩ := clr_num H L a hL
  rw [e3, clr_clr _ _ _ hab, ← g3] at f3
  obtain ⟨x, y⟩ := num_inj hL2 hL3 f3
  rw [e1, e2, f1, f2, g1, g2, x, y]
  exact ⟨rfl, rfl⟩
theorem ca_fam {f h l : Int} (c : ca f h l = true) : f = 4 ∨ f = 6 := by
  unfold ca at c
  split at c
  · left; assumption
  · right; simpa using c
theorem ca_clr {f h l : Int} (ul : U64 l) (m : Nat) (c : ca f h l = true) : ca f (clrH h m) (clrL l m) = true := by
  rcases ca_fam c with rfl | rfl
  · simp only [ca, if_true, Bool.and_eq_true, beq_iff_eq] at c ⊢
    obtain ⟨rfl, hl⟩ := c
    refine ⟨by simp [clrH], ?_⟩
    unfold clrL
    split
    · rfl
    · have hp : (0 : Int) < 2 ^ ((m : Int).toNat) := Int.pow_pos (by omega)
      have h1 := Int.ediv_mul_le l (Int.ne_of_gt hp)
      have h2 := Int.mul_nonneg (Int.ediv_nonneg ul.1 (Int.le_of_lt hp)) (Int.le_of_lt hp)
      omega
  · rfl
theorem cutOk_ca {f h l n : Int} (c : cutOk f h l n = true) : ca f h l = true ∧ 0 ≤ n ∧ n ≤ wid f := by
  simp only [cutOk, Bool.and_eq_true, decide_eq_true_eq] at c
  exact ⟨c.1.1, c.1.2, c.2⟩
theorem ok_cut {f h l n : Int} (uh : U64 h) (ul : U64 l) (c : cutOk f h l n = true) : ok f (clrH h (wid f - n)) (clrL l (wid f - n)) n = true := by
  obtain ⟨c1, c2, c3⟩ := cutOk_ca c
  obtain ⟨m, hm⟩ : ∃ m : Nat, wid f - n = (m : Int) := ⟨(wid f - n).toNat, by omega⟩
  obtain ⟨e1, e2⟩ := clr2 uh ul m m (Nat.le_refl _)
  simp only [ok, cutOk, Bool.and_eq_true, decide_eq_true_eq, beq_iff_eq]
  rw [hm]
  exact ⟨⟨⟨ca_clr ul m c1, c2⟩, c3⟩, e1, e2⟩
theorem cutOk_wid {f h l n : Int} (c : cutOk f h l n = true) : cutOk f h l (wid f) = true := by
  obtain ⟨c1, c2, c3⟩ := cutOk_ca c
  simp only [cutOk, Bool.and_eq_true, decide_eq_true_eq]
  exact ⟨⟨c1, by omega⟩, by omega⟩
theorem ok_host {f h l n : Int} (c : cutOk f h l n = true) : ok f h l (wid f) = true := by
  obtain ⟨e1, e2⟩ := clr0 h l
  simp only [ok, Bool.and_eq_true, beq_iff_eq]
  rw [Int.sub_self]
  exact ⟨cutOk_wid c, e1, e2⟩
theorem cov_host {f h l n : Int} (uh : U64 h) (ul : U64 l) (c : cutOk f h l n = true) : cov f (clrH h (wid f - n)) (clrL l (wid f - n)) n f h l (wid f) = true := by
  obtain ⟨c1, c2, c3⟩ := cutOk_ca c
  simp [cov, ok_cut uh ul c, ok_host c, c3]
theorem cov_cut {f h l n o : Int} (uh : U64 h) (ul : U64 l) (c : cutOk f h l n = true) (d : cutOk f h l o = true) :
    cov f (clrH h (wid f - n)) (clrL l (wid f - n)) n f (clrH h (wid f - o)) (clrL l (wid f - o)) o = decide (n ≤ o) := by
  obtain ⟨c1, c2, c3⟩ := cutOk_ca c
  obtain ⟨d1, d2, d3⟩ := cutOk_ca d
  by_cases hle : n ≤ o
  · obtain ⟨m, hm⟩ : ∃ m : Nat, wid f - n = (m : Int) := ⟨(wid f - n).toNat, by omega⟩
    obtain ⟨k, hk⟩ : ∃ k : Nat, wid f - o = (k : Int) := ⟨(wid f - o).toNat, by omega⟩
    obtain ⟨e1, e2⟩ := clr2 uh ul m k (by omega)
    have k1 := ok_cut uh ul c
    have k2 := ok_cut uh ul d
    rw [hm] at k1 ⊢
    rw [hk] at k2 ⊢
    simp [cov, k1, k2, hle, hm, e1, e2]
  · simp [cov, hle]
theorem bt_01 (h l k : Int) : bt h l k = 0 ∨ bt h l k = 1 := by
  unfold bt
  split <;> omega
theorem bit_cut {f h l n : Int} (uh : U64 h) (ul : U64 l) (c : cutOk f h l n = true) (i : Int) (h0 : 0 ≤ i) (hi : i < wid f) :
    bitOk f h l i = true ∧ bitOk f (clrH h (wid f - n)) (clrL l (wid f - n)) i = true ∧
    bt (clrH h (wid f - n)) (clrL l (wid f - n)) (wid f - 1 - i) = if i < n then bt h l (wid f - 1 - i) else 0 := by
  obtain ⟨c1, c2, c3⟩ := cutOk_ca c
  obtain ⟨m, hm⟩ : ∃ m : Nat, wid f - n = (m : Int) := ⟨(wid f - n).toNat, by omega⟩
  obtain ⟨W, hW⟩ : ∃ W : Nat, wid f = (W : Int) := ⟨(wid f).toNat, by omega⟩
  obtain ⟨j, rfl⟩ := Int.eq_ofNat_of_zero_le h0
  obtain ⟨k, rfl⟩ := Int.eq_ofNat_of_zero_le c2
  refine ⟨by simp [bitOk, c1, hi], ?_, ?_⟩
  · have := ca_clr ul m c1
    rw [← hm] at this
    simp [bitOk, this, hi]
  · rw [hW]
    have := cut_bits uh ul W k j (by omega) (by omega)
    rw [this]
    by_cases hjk : j < k
    · rw [if_pos hjk, if_pos (by omega)]
    · rw [if_neg hjk, if_neg (by omega)]
end Adr
end Go.Proofs.YtjpngoccmjpckaaDoor
