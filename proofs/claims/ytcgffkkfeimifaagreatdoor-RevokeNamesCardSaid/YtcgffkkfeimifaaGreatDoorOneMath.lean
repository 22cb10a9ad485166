import Derived.Test.YtcgffkkfeimifaaGreatDoorDigMath
namespace Go.Proofs.YtcgffkkfeimifaaGreatDoor
namespace Ots
open Sha
set_option linter.unusedVariables false
def sh (x : List UInt8) : List UInt8 := (sha x).take 16
theorem sh_len (x : List UInt8) : (sh x).length = 16 := by
 unfold sh
 rw [List.length_take, show (sha x).length = 32 from hp_len _ _]
 rfl
def stp (x : List UInt8) (i j : Nat) : List UInt8 := sh (x ++ [UInt8.ofNat i, UInt8.ofNat j])
def clm (x : List UInt8) (i a : Nat) : Nat → List UInt8
 | 0 => x
 | n + 1 => stp (clm x i a n) i (a + n)
def chn (seed : List UInt8) (i h : Nat) : List UInt8 := clm (stp seed i 255) i 0 h
theorem clm_add (x : List UInt8) (i a m : Nat) : ∀ n, clm x i a (m + n) = clm (clm x i a m) i (a + m) n
 | 0 => rfl
 | n + 1 => by
  rw [show m + (n + 1) = (m + n) + 1 by omega, clm, clm_add x i a m n, clm, Nat.add_assoc]
theorem chn_add (seed : List UInt8) (i a n : Nat) : clm (chn seed i a) i a n = chn seed i (a + n) := by
 unfold chn
 rw [clm_add, Nat.zero_add]
theorem clm_len (x : List UInt8) (i a : Nat) (hx : x.length = 16) : ∀ n, (clm x i a n).length = 16
 | 0 => hx
 | n + 1 => by
  rw [clm]
  unfold stp
  exact sh_len _
theorem chn_len (seed : List UInt8) (i h : Nat) : (chn seed i h).length = 16 := clm_len _ _ _ (sh_len _) h
def nib (s : List UInt8) : List Nat := s.flatMap fun b => [b.toNat / 16, b.toNat % 16]
theorem nib_cons (b : UInt8) (r : List UInt8) : nib (b :: r) = b.toNat / 16 :: b.toNat % 16 :: nib r := rfl
theorem nib_len (s : List UInt8) : (nib s).length = 2 * s.length := by
 induction s with
 | nil => rfl
 | cons b r ih => rw [nib_cons, List.length_cons, List.length_cons, List.length_cons, ih]; omega
theorem nib_le (s : List UInt8) : ∀ d ∈ nib s, d ≤ 15 := by
 induction s with
 | nil => intro d h; cases h
 | cons b r ih =>
  intro d h
  have hb := b.toNat_lt
  rw [nib_cons] at h
  rcases List.mem_cons.1 h with rfl | h
  ·
   omega
  ·
   rcases List.mem_cons.1 h with rfl | h
   ·
    omega
   ·
    exact ih d h
def csum : List Nat → Nat
 | [] => 0
 | d :: r => (15 - d) + csum r
theorem csum_le : ∀ l : List Nat, csum l ≤ 15 * l.length
 | [] => Nat.le_refl _
 | d :: r => by
  have := csum_le r
  rw [csum, List.length_cons]
  omega
theorem csum_app (a b : List Nat) : csum (a ++ b) = csum a + csum b := by
 induction a with
 | nil => simp [csum]
 | cons d r ih => rw [List.cons_append, csum, csum, ih]; omega
def digs (s : List UInt8) : List Nat := nib s ++ [csum (nib s) / 256, csum (nib s) / 16 % 16, csum (nib s) % 16]
def dig (m : List UInt8) : List Nat := digs (sh m)
theorem digs_len (s : List UInt8) (h : s.length = 16) : (digs s).length = 35 := by
 unfold digs
 rw [List.length_append, nib_len, h]
 rfl
theorem dig_len (m : List UInt8) : (dig m).length = 35 := digs_len _ (sh_len _)
theorem csum_480 (s : List UInt8) (h : s.length = 16) : csum (nib s) ≤ 480 := by
 have := csum_le (nib s)
 rw [nib_len, h] at this
 omega
theorem digs_le (s : List UInt8) (h : s.length = 16) : ∀ d ∈ digs s, d ≤ 15 := fun d hd => by
 have h1 := csum_480 s h
 rcases List.mem_append.1 hd with hd | hd
 ·
  exact nib_le s d hd
 ·
  simp at hd
  omega
theorem dig_le (m : List UInt8) : ∀ d ∈ dig m, d ≤ 15 := digs_le _ (sh_len _)
def pub (seed : List UInt8) : List UInt8 := sh ((List.range 35).map fun i => chn seed i 15).flatten
def sgD (seed : List UInt8) (D : List Nat) : List (List UInt8) := (List.range 35).map fun i => chn seed i (D.getD i 0)
def enD (D : List Nat) (l : List (List UInt8)) : List (List UInt8) := (List.range 35).map fun i => clm (l.getD i []) i (D.getD i 0) (15 - D.getD i 0)
def sgn (seed m : List UInt8) : List (List UInt8) := sgD seed (dig m)
def key (m : List UInt8) (l : List (List UInt8)) : List UInt8 := sh (enD (dig m) l).flatten
theorem sgD_at (seed : List UInt8) (D : List Nat) (i : Nat) (h : i < 35) : (sgD seed D).getD i [] = chn seed i (D.getD i 0) := by
 unfold sgD
 rw [List.getD_eq_getElem?_getD, List.getElem?_map, List.getElem?_range h]
 rfl
theorem getD_le15 (D : List Nat) (h : ∀ d ∈ D, d ≤ 15) (i : Nat) : D.getD i 0 ≤ 15 := by
 rw [List.getD_eq_getElem?_getD]
 cases e : D[i]? with
 | none => exact Nat.zero_le _
 | some d => exact h d (List.mem_of_getElem? e)
theorem enD_sgD (seed : List UInt8) (D : List Nat) (hD : ∀ d ∈ D, d ≤ 15) : enD D (sgD seed D) = (List.range 35).map fun i => chn seed i 15 := by
 unfold enD
 refine List.map_congr_left fun i hi => ?_
 have h15 := getD_le15 D hD i
 rw [sgD_at seed D i (List.mem_range.1 hi), chn_add, show D.getD i 0 + (15 - D.getD i 0) = 15 by omega]
theorem key_sgn (seed m : List UInt8) : key m (sgn seed m) = pub seed := by
 have h := enD_sgD seed (dig m) (dig_le m)
 unfold key sgn pub
 rw [h]
end Ots
end Go.Proofs.YtcgffkkfeimifaaGreatDoor
