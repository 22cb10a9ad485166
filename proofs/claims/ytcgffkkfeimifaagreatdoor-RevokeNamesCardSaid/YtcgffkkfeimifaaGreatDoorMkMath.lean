import Derived.Test.YtcgffkkfeimifaaGreatDoorOneMath
namespace Go.Proofs.YtcgffkkfeimifaaGreatDoor
namespace Ots
open Sha
set_option linter.unusedVariables false
def msd (seed : List UInt8) (k : Nat) : List UInt8 := sh (seed ++ [UInt8.ofNat k, 254, 0])
def leaf (seed : List UInt8) (k : Nat) : List UInt8 := pub (msd seed k)
theorem msd_len (seed : List UInt8) (k : Nat) : (msd seed k).length = 16 := sh_len _
theorem leaf_len (seed : List UInt8) (k : Nat) : (leaf seed k).length = 16 := by
 unfold leaf pub
 exact sh_len _
def jn (x y : List UInt8) : List UInt8 := sh (1 :: (x ++ y))
theorem jn_len (x y : List UInt8) : (jn x y).length = 16 := sh_len _
def node (seed : List UInt8) : Nat → Nat → List UInt8
 | 0, k => leaf seed k
 | l + 1, k => jn (node seed l (2 * k)) (node seed l (2 * k + 1))
theorem node_len (seed : List UInt8) : ∀ l k, (node seed l k).length = 16
 | 0, k => leaf_len seed k
 | l + 1, k => jn_len _ _
def sib (n : Nat) : Nat := if n % 2 = 1 then n - 1 else n + 1
def pth (seed : List UInt8) (l n : Nat) : Nat → List (List UInt8)
 | 0 => []
 | m + 1 => node seed l (sib n) :: pth seed (l + 1) (n / 2) m
theorem pth_length (seed : List UInt8) : ∀ m l n, (pth seed l n m).length = m
 | 0, _, _ => rfl
 | m + 1, l, n => by rw [pth, List.length_cons, pth_length seed m]
theorem pth_snoc (seed : List UInt8) : ∀ m l n, pth seed l n (m + 1) = pth seed l n m ++ [node seed (l + m) (sib (n / 2 ^ m))]
 | 0, l, n => by rw [pth, pth, pth, List.nil_append, Nat.add_zero, Nat.pow_zero, Nat.div_one]
 | m + 1, l, n => by
  rw [pth, pth_snoc seed m (l + 1) (n / 2), pth, List.cons_append, Nat.div_div_eq_div_mul, Nat.pow_succ, Nat.mul_comm 2, Nat.add_assoc, Nat.add_comm 1 m]
theorem pth_mem (seed : List UInt8) : ∀ m l n, ∀ p ∈ pth seed l n m, p.length = 16
 | 0, _, _, _, h => by cases h
 | m + 1, l, n, p, h => by
  rw [pth] at h
  rcases List.mem_cons.1 h with rfl | h
  ·
   exact node_len _ _ _
  ·
   exact pth_mem seed m _ _ p h
def stq (x : List UInt8) (n : Nat) (p : List UInt8) : List UInt8 := if n % 2 = 0 then jn x p else jn p x
def fol (x : List UInt8) (n : Nat) : List (List UInt8) → List UInt8
 | [] => x
 | p :: r => fol (stq x n p) (n / 2) r
theorem stq_len (x : List UInt8) (n : Nat) (p : List UInt8) : (stq x n p).length = 16 := by
 unfold stq
 split
 ·
  exact jn_len _ _
 ·
  exact jn_len _ _
theorem fol_len (x : List UInt8) (hx : x.length = 16) : ∀ (l : List (List UInt8)) (n : Nat), (fol x n l).length = 16 := fun l => by
 induction l generalizing x with
 | nil => intro n; exact hx
 | cons p r ih => intro n; exact ih _ (stq_len _ _ _) _
theorem fol_snoc (x : List UInt8) : ∀ (l : List (List UInt8)) (n : Nat) (p : List UInt8), fol x n (l ++ [p]) = stq (fol x n l) (n / 2 ^ l.length) p := fun l => by
 induction l generalizing x with
 | nil => intro n p; rw [List.nil_append, fol, fol, fol, List.length_nil, Nat.pow_zero, Nat.div_one]
 | cons q r ih =>
  intro n p
  rw [List.cons_append, fol, ih, fol, List.length_cons, Nat.div_div_eq_div_mul, Nat.pow_succ, Nat.mul_comm 2]
theorem fol_take (x : List UInt8) (l : List (List UInt8)) (n k : Nat) (hk : k < l.length) : fol x n (l.take (k + 1)) = stq (fol x n (l.take k)) (n / 2 ^ k) (l.getD k []) := by
 rw [List.take_succ_eq_append_getElem hk, fol_snoc, List.length_take, Nat.min_eq_left (by omega), List.getD_eq_getElem?_getD, List.getElem?_eq_getElem hk]
 rfl
theorem stq_node (seed : List UInt8) (l n : Nat) : stq (node seed l n) n (node seed l (sib n)) = node seed (l + 1) (n / 2) := by
 unfold stq sib
 by_cases h : n % 2 = 0
 ·
  rw [if_pos h, if_neg (by omega), node]
  rw [show 2 * (n / 2) = n by omega]
 ·
  rw [if_neg h, if_pos (by omega), node]
  rw [show 2 * (n / 2) = n - 1 by omega, show n - 1 + 1 = n by omega]
theorem fol_pth (seed : List UInt8) : ∀ m l n, fol (node seed l n) n (pth seed l n m) = node seed (l + m) (n / 2 ^ m)
 | 0, l, n => by rw [pth, fol, Nat.add_zero, Nat.pow_zero, Nat.div_one]
 | m + 1, l, n => by
  rw [pth, fol, stq_node, fol_pth seed m (l + 1) (n / 2), Nat.div_div_eq_div_mul, Nat.pow_succ, Nat.mul_comm 2, Nat.add_assoc, Nat.add_comm 1 m]
theorem root_follows (seed m : List UInt8) (h n : Nat) (hn : n < 2 ^ h) : fol (key m (sgn (msd seed n) m)) n (pth seed 0 n h) = node seed h 0 := by
 have h1 := fol_pth seed h 0 n
 rw [Nat.div_eq_of_lt hn, Nat.zero_add] at h1
 rw [key_sgn]
 exact h1
def lvl (seed : List UInt8) (l n : Nat) : List (List UInt8) := (List.range n).map (node seed l)
theorem lvl_length (seed : List UInt8) (l n : Nat) : (lvl seed l n).length = n := by unfold lvl; rw [List.length_map, List.length_range]
theorem lvl_at (seed : List UInt8) (l n k : Nat) (h : k < n) : (lvl seed l n).getD k [] = node seed l k := by
 unfold lvl
 rw [List.getD_eq_getElem?_getD, List.getElem?_map, List.getElem?_range h]
 rfl
theorem node_pair (seed : List UInt8) (l n k : Nat) (h : 2 * k + 1 < n) : jn ((lvl seed l n).getD (2 * k) []) ((lvl seed l n).getD (2 * k + 1) []) = node seed (l + 1) k := by
 rw [lvl_at seed l n _ (by omega), lvl_at seed l n _ h]
 rfl
theorem xor_one : ∀ n, n < 16 → n ^^^ 1 = sib n := by decide
end Ots
end Go.Proofs.YtcgffkkfeimifaaGreatDoor
