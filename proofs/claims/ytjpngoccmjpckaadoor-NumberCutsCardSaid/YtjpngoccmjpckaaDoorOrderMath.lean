/-
  PLAIN MATHEMATICS of layer 1: covering is a partial order, and a tree.
-/
import Derived.Test.YtjpngoccmjpckaaDoorNumMathC
namespace Go.Proofs.YtjpngoccmjpckaaDoor
namespace Adr
/-- covering, over numbers -/
def covP (P p Q q W : Nat) : Prop := p ≤ q ∧ Q / 2 ^ (W - p) * 2 ^ (W - p) = P
theorem clr_clr (x a b : Nat) (h : b ≤ a) : (x / 2 ^ b * 2 ^ b) / 2 ^ a * 2 ^ a = x / 2 ^ a * 2 ^ a := by
  have e : (2 : Nat) ^ a = 2 ^ b * 2 ^ (a - b) := by rw [← Nat.pow_add]; congr 1; omega
  rw [e, ← Nat.div_div_eq_div_mul, Nat.mul_div_cancel _ (Nat.two_pow_pos b), ← Nat.div_div_eq_div_mul]
theorem covP_trans {P p Q q R r W : Nat} (h1 : covP P p Q q W) (h2 : covP Q q R r W) : covP P p R r W := by
  refine ⟨by have := h1.1; have := h2.1; omega, ?_⟩
  rw [← h1.2, ← h2.2, clr_clr _ _ _ (by have := h1.1; omega)]
theorem covP_tree {P p Q q R r W : Nat} (h1 : covP P p R r W) (h2 : covP Q q R r W) (hpq : p ≤ q) : covP P p Q q W := by
  refine ⟨hpq, ?_⟩
  rw [← h1.2, ← h2.2, clr_clr _ _ _ (by omega)]
theorem covP_anti {P p Q q W : Nat} (h1 : covP P p Q q W) (h2 : covP Q q P p W) (hz : Q / 2 ^ (W - q) * 2 ^ (W - q) = Q) : P = Q ∧ p = q := by
  have e : p = q := by have := h1.1; have := h2.1; omega
  subst e
  exact ⟨by rw [← h1.2, hz], rfl⟩
/-- a valid one, as a number -/
theorem ok_num {f h l n : Int} (uh : U64 h) (ul : U64 l) (hk : ok f h l n = true) : ∃ H L N W : Nat, h = H ∧ l = L ∧ n = N ∧ wid f = W ∧ L < 2 ^ 64 ∧ N ≤ W ∧ num H L / 2 ^ (W - N) * 2 ^ (W - N) = num H L := by
  simp only [ok, cutOk, Bool.and_eq_true, decide_eq_true_eq, beq_iff_eq] at hk
  obtain ⟨⟨⟨_, h0⟩, h1⟩, z1, z2⟩ := hk
  obtain ⟨H, rfl, hH⟩ := u64_nat uh
  obtain ⟨L, rfl, hL⟩ := u64_nat ul
  obtain ⟨N, rfl⟩ := Int.eq_ofNat_of_zero_le h0
  obtain ⟨W, hW⟩ : ∃ W : Nat, wid f = (W : Int) := ⟨(wid f).toNat, by omega⟩
  refine ⟨H, L, N, W, rfl, rfl, rfl, hW, hL, by omega, ?_⟩
  obtain ⟨H', L', e1, e2, hL', e3⟩ := clr_num H L (W - N) hL
  rw [hW, show ((W : Int) - N) = ((W - N : Nat) : Int) by omega] at z1 z2
  rw [e1] at z1
  rw [e2] at z2
  rw [← e3, show H' = H by omega, show L' = L by omega]
theorem cov_num {f h l n f' h' l' n' : Int} (uh : U64 h) (ul : U64 l) (uh' : U64 h') (ul' : U64 l') (hc : cov f h l n f' h' l' n' = true) :
    f = f' ∧ ∃ H L N H' L' N' W : Nat, h = H ∧ l = L ∧ n = N ∧ h' = H' ∧ l' = L' ∧ n' = N' ∧ wid f = W ∧ L < 2 ^ 64 ∧ L' < 2 ^ 64 ∧ N ≤ W ∧ N' ≤ W ∧ num H L / 2 ^ (W - N) * 2 ^ (W - N) = num H L ∧ num H' L' / 2 ^ (W - N') * 2 ^ (W - N') = num H' L' ∧ covP (num H L) N (num H' L') N' W := by
  simp only [cov, Bool.and_eq_true, decide_eq_true_eq, beq_iff_eq] at hc
  obtain ⟨⟨⟨⟨k1, k2⟩, rfl⟩, hn⟩, z1, z2⟩ := hc
  obtain ⟨H, L, N, W, rfl, rfl, rfl, hW, hL, hN, hz⟩ := ok_num uh ul k1
  obtain ⟨H', L', N', W', rfl, rfl, rfl, hW', hL', hN', hz'⟩ := ok_num uh' ul' k2
  have eW : W' = W := by omega
  subst eW
  refine ⟨rfl, H, L, N, H', L', N', W', rfl, rfl, rfl, rfl, rfl, rfl, hW, hL, hL', hN, hN', hz, hz', by omega, ?_⟩
  obtain ⟨A, B, e1, e2, hB, e3⟩ := clr_num H' L' (W' - N) hL'
  rw [hW, show ((W' : Int) - N) = ((W' - N : Nat) : Int) by omega] at z1 z2
  rw [e1] at z1
  rw [e2] at z2
  rw [← e3, show A = H by omega, show B = L by omega]
theorem cov_of {f : Int} {H L N H' L' N' W : Nat} (hW : wid f = W) (k1 : ok f H L N = true) (k2 : ok f H' L' N' = true) (hL : L < 2 ^ 64) (hL' : L' < 2 ^ 64) (hN : N ≤ W) (hc : covP (num H L) N (num H' L') N' W) : cov f H L N f H' L' N' = true := by
  obtain ⟨A, B, e1, e2, hB, e3⟩ := clr_num H' L' (W - N) hL'
  rw [hc.2] at e3
  obtain ⟨x, y⟩ := num_inj hB hL e3
  simp only [cov, Bool.and_eq_true, decide_eq_true_eq, beq_iff_eq]
  have eWn : ((W : Int) - N) = ((W - N : Nat) : Int) := by omega
  rw [hW, eWn, e1, e2]
  exact ⟨⟨⟨⟨k1, k2⟩, trivial⟩, by have := hc.1; omega⟩, by omega, by omega⟩
theorem cov_ok {f h l n f' h' l' n' : Int} (hc : cov f h l n f' h' l' n' = true) : ok f h l n = true ∧ ok f' h' l' n' = true := by
  simp only [cov, Bool.and_eq_true] at hc
  exact ⟨hc.1.1.1.1, hc.1.1.1.2⟩
theorem cov_refl (f h l n : Int) : cov f h l n f h l n = ok f h l n := by
  cases hk : ok f h l n
  · simp [cov, hk]
  · have hk' := hk
    simp only [ok, Bool.and_eq_true, beq_iff_eq] at hk'
    simp [cov, hk, hk'.2.1, hk'.2.2]
theorem cov_trans {f h l n f' h' l' n' f2 h2 l2 n2 : Int} (uh : U64 h) (ul : U64 l) (uh' : U64 h') (ul' : U64 l') (uh2 : U64 h2) (ul2 : U64 l2) (a : cov f h l n f' h' l' n' = true) (c : cov f' h' l' n' f2 h2 l2 n2 = true) : cov f h l n f2 h2 l2 n2 = true := by
  have ka := cov_ok a
  have kc := cov_ok c
  obtain ⟨rfl, H, L, N, H', L', N', W, rfl, rfl, rfl, rfl, rfl, rfl, hW, hL, hL', hN, hN', _, _, c1⟩ := cov_num uh ul uh' ul' a
  obtain ⟨rfl, A, B, C, A', B', C', W', e1, e2, e3, rfl, rfl, rfl, hW', hB, hB', hC, hC', _, _, c2⟩ := cov_num uh' ul' uh2 ul2 c
  have x1 : A = H' := by omega
  have x2 : B = L' := by omega
  have x3 : C = N' := by omega
  have x4 : W' = W := by omega
  subst x1 x2 x3 x4
  exact cov_of hW ka.1 kc.2 hL hB' hN (covP_trans c1 c2)
theorem cov_anti {f h l n f' h' l' n' : Int} (uh : U64 h) (ul : U64 l) (uh' : U64 h') (ul' : U64 l') (a : cov f h l n f' h' l' n' = true) (b : cov f' h' l' n' f h l n = true) : f = f' ∧ h = h' ∧ l = l' ∧ n = n' := by
  obtain ⟨rfl, H, L, N, H', L', N', W, rfl, rfl, rfl, rfl, rfl, rfl, hW, hL, hL', hN, hN', z1, z2, c1⟩ := cov_num uh ul uh' ul' a
  obtain ⟨_, A, B, C, A', B', C', W', e1, e2, e3, e4, e5, e6, hW', hB, hB', hC, hC', _, _, c2⟩ := cov_num uh' ul' uh ul b
  have x1 : A = H' := by omega
  have x2 : B = L' := by omega
  have x3 : C = N' := by omega
  have x4 : W' = W := by omega
  have x5 : A' = H := by omega
  have x6 : B' = L := by omega
  have x7 : C' = N := by omega
  subst x1 x2 x3 x4 x5 x6 x7
  obtain ⟨y1, y2⟩ := covP_anti c1 c2 z2
  obtain ⟨y3, y4⟩ := num_inj hL hL' y1
  exact ⟨rfl, by omega, by omega, by omega⟩
theorem cov_tree {f h l n f' h' l' n' f2 h2 l2 n2 : Int} (uh : U64 h) (ul : U64 l) (uh' : U64 h') (ul' : U64 l') (uh2 : U64 h2) (ul2 : U64 l2) (d : cov f h l n f2 h2 l2 n2 = true) (c : cov f' h' l' n' f2 h2 l2 n2 = true) : cov f h l n f' h' l' n' = true ∨ cov f' h' l' n' f h l n = true := by
  have kd := cov_ok d
  have kc := cov_ok c
  obtain ⟨rfl, H, L, N, H', L', N', W, rfl, rfl, rfl, rfl, rfl, rfl, hW, hL, hL', hN, hN', _, _, c1⟩ := cov_num uh ul uh2 ul2 d
  obtain ⟨rfl, A, B, C, A', B', C', W', rfl, rfl, rfl, e1, e2, e3, hW', hB, hB', hC, hC', _, _, c2⟩ := cov_num uh' ul' uh2 ul2 c
  have x1 : A' = H' := by omega
  have x2 : B' = L' := by omega
  have x3 : C' = N' := by omega
  have x4 : W' = W := by omega
  subst x1 x2 x3 x4
  rcases Nat.le_total N C with hle | hle
  · left
    exact cov_of hW kd.1 kc.1 hL hB hN (covP_tree c1 c2 hle)
  · right
    exact cov_of hW kc.1 kd.1 hB hL hC (covP_tree c2 c1 hle)
end Adr
end Go.Proofs.YtjpngoccmjpckaaDoor
