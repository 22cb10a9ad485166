import Derived.Test.YtcgffkkfeimifaaGreatDoorOneMath
namespace Go.Proofs.YtcgffkkfeimifaaGreatDoor
namespace Ots
open Sha
set_option linter.unusedVariables false
def msd (seed : List UInt8) (k : Nat) : List UInt8 := sh (seed ++ [UInt8.ofNat k, 254, 0])
def leaf (seed : List UInt8) (k : Nat) : List UInt8 := pub (msd seed k)
def jn (x y : List UInt8) : List UInt8 := sh (1 :: (x ++ y))
theorem jn_len (x y : List UInt8) : (jn x y).length = 16 := sh_len _
def node (seed : List UInt8) : Nat → Nat → List UInt8
 | 0, k => leaf seed k
 | l + 1, k => jn (node seed l (2 * k)) (node seed l (2 * k + 1))
def stq (x : List UInt8) (n : Nat) (p : List UInt8) : List UInt8 := if n % 2 = 0 then jn x p else jn p x
def fol (x : List UInt8) (n : Nat) : List (List UInt8) → List UInt8
 | [] => x
 | p :: r => fol (stq x n p) (n / 2) r
theorem stq_len (x : List UInt8) (n : Nat) (p : List UInt8) : (stq x n p).length = 16 := by
 unfold stq
 split
 ·
  exact jn_len _ _
 ·
  exact jn_len _ _
theorem fol_len (x : List UInt8) (hx : x.length = 16) : ∀ (l : List (List UInt8)) (n : Nat), (fol x n l).length = 16 := fun l => by
 induction l generalizing x with
 | nil => intro n; exact hx
 | cons p r ih => intro n; exact ih _ (stq_len _ _ _) _
theorem fol_snoc (x : List UInt8) : ∀ (l : List (List UInt8)) (n : Nat) (p : List UInt8), fol x n (l ++ [p]) = stq (fol x n l) (n / 2 ^ l.length) p := fun l => by
 induction l generalizing x with
 | nil => intro n p; rw [List.nil_append, fol, fol, fol, List.length_nil, Nat.pow_zero, Nat.div_one]
 | cons q r ih =>
  intro n p
  rw [List.cons_append, fol, ih, fol, List.length_cons, Nat.div_div_eq_div_mul, Nat.pow_succ, Nat.mul_comm 2]
theorem fol_take (x : List UInt8) (l : List (List UInt8)) (n k : Nat) (hk : k < l.length) : fol x n (l.take (k + 1)) = stq (fol x n (l.take k)) (n / 2 ^ k) (l.getD k []) := by
 rw [List.take_succ_eq_append_getElem hk, fol_snoc, List.length_take, Nat.min_eq_left (by omega), List.getD_eq_getElem?_getD, List.getElem?_eq_getElem hk]
 rfl
end Ots
end Go.Proofs.YtcgffkkfeimifaaGreatDoor
