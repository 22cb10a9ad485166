/-
  PLAIN MATHEMATICS of layer 6: digits of a message, chains of short digests, keys.
-/
import Derived.Test.YtafolokkjpbieaaDoorDigMath
namespace Go.Proofs.YtafolokkjpbieaaDoor
namespace Ots
open Sha
set_option linter.unusedVariables false
/-- the short digest -/
def sh (x : List UInt8) : List UInt8 := (sha x).take 16
theorem sh_len (x : List UInt8) : (sh x).length = 16 := by
  unfold sh
  rw [List.length_take, show (sha x).length = 32 from hp_len _ _]
  rfl
/-- a step -/
def stp (x : List UInt8) (i j : Nat) : List UInt8 := sh (x ++ [UInt8.ofNat i, UInt8.ofNat j])
/-- n steps from a height on -/
def clm (x : List UInt8) (i a : Nat) : Nat → List UInt8
  | 0 => x
  | n + 1 => stp (clm x i a n) i (a + n)
/-- what a chain has at a height -/
def chn (seed : List UInt8) (i h : Nat) : List UInt8 := clm (stp seed i 255) i 0 h
theorem clm_add (x : List UInt8) (i a m : Nat) : ∀ n, clm x i a (m + n) = clm (clm x i a m) i (a + m) n
  | 0 => rfl
  | n + 1 => by
    rw [show m + (n + 1) = (m + n) + 1 by omega, clm, clm_add x i a m n, clm, Nat.add_assoc]
theorem chn_add (seed : List UInt8) (i a n : Nat) : clm (chn seed i a) i a n = chn seed i (a + n) := by
  unfold chn
  rw [clm_add, Nat.zero_add]
theorem clm_len (x : List UInt8) (i a : Nat) (hx : x.length = 16) : ∀ n, (clm x i a n).length = 16
  | 0 => hx
  | n + 1 => by
    rw [clm]
    unfold stp
    exact sh_len _
theorem chn_len (seed : List UInt8) (i h : Nat) : (chn seed i h).length = 16 := clm_len _ _ _ (sh_len _) h
/-- bytes as digits in the base sixteen -/
def nib (s : List UInt8) : List Nat := s.flatMap fun b => [b.toNat / 16, b.toNat % 16]
theorem nib_cons (b : UInt8) (r : List UInt8) : nib (b :: r) = b.toNat / 16 :: b.toNat % 16 :: nib r := rfl
theorem nib_len (s : List UInt8) : (nib s).length = 2 * s.length := by
  induction s with
  | nil => rfl
  | cons b r ih => rw [nib_cons, List.length_cons, List.length_cons, List.length_cons, ih]; omega
theorem nib_le (s : List UInt8) : ∀ d ∈ nib s, d ≤ 15 := by
  induction s with
  | nil => intro d h; cases h
  | cons b r ih =>
    intro d h
    have hb := b.toNat_lt
    rw [nib_cons] at h
    rcases List.mem_cons.1 h with rfl | h
    · omega
    · rcases List.mem_cons.1 h with rfl | h
      · omega
      · exact ih d h
theorem nib_inj : ∀ (s t : List UInt8), nib s = nib t → s = t
  | [], [], _ => rfl
  | [], b :: r, h => by rw [nib_cons] at h; cases h
  | b :: r, [], h => by rw [nib_cons] at h; cases h
  | b :: r, c :: q, h => by
    rw [nib_cons, nib_cons] at h
    injection h with h1 h2
    injection h2 with h3 h4
    rw [nib_inj r q h4]
    have : b = c := UInt8.toNat_inj.1 (by omega)
    rw [this]
theorem nib_at (s : List UInt8) : ∀ k, k < 2 * s.length → (nib s).getD k 0 = if k % 2 = 0 then (s.getD (k / 2) 0).toNat / 16 else (s.getD (k / 2) 0).toNat % 16 := by
  induction s with
  | nil => intro k h; simp at h
  | cons b r ih =>
    intro k hk
    rw [nib_cons]
    match k, hk with
    | 0, _ => rfl
    | 1, _ => rfl
    | k + 2, hk =>
      rw [List.getD_cons_succ, List.getD_cons_succ, ih k (by simp at hk; omega)]
      rw [show (k + 2) % 2 = k % 2 by omega, show (k + 2) / 2 = k / 2 + 1 by omega, List.getD_cons_succ]
/-- what lacks to 15, together -/
def csum : List Nat → Nat
  | [] => 0
  | d :: r => (15 - d) + csum r
theorem csum_le : ∀ l : List Nat, csum l ≤ 15 * l.length
  | [] => Nat.le_refl _
  | d :: r => by
    have := csum_le r
    rw [csum, List.length_cons]
    omega
theorem csum_app (a b : List Nat) : csum (a ++ b) = csum a + csum b := by
  induction a with
  | nil => simp [csum]
  | cons d r ih => rw [List.cons_append, csum, csum, ih]; omega
/-- the digits of a short digest -/
def digs (s : List UInt8) : List Nat := nib s ++ [csum (nib s) / 256, csum (nib s) / 16 % 16, csum (nib s) % 16]
def dig (m : List UInt8) : List Nat := digs (sh m)
theorem digs_len (s : List UInt8) (h : s.length = 16) : (digs s).length = 35 := by
  unfold digs
  rw [List.length_append, nib_len, h]
  rfl
theorem dig_len (m : List UInt8) : (dig m).length = 35 := digs_len _ (sh_len _)
theorem csum_480 (s : List UInt8) (h : s.length = 16) : csum (nib s) ≤ 480 := by
  have := csum_le (nib s)
  rw [nib_len, h] at this
  omega
theorem digs_le (s : List UInt8) (h : s.length = 16) : ∀ d ∈ digs s, d ≤ 15 := fun d hd => by
  have h1 := csum_480 s h
  rcases List.mem_append.1 hd with hd | hd
  · exact nib_le s d hd
  · simp at hd
    omega
theorem dig_le (m : List UInt8) : ∀ d ∈ dig m, d ≤ 15 := digs_le _ (sh_len _)
/-- where none is less, less lacks; and less indeed, if one differs -/
theorem csum_mono : ∀ (x y : List Nat), x.length = y.length → (∀ d ∈ x, d ≤ 15) → (∀ k, k < x.length → y.getD k 0 ≤ x.getD k 0) → csum x ≤ csum y ∧ (x ≠ y → csum x < csum y)
  | [], [], _, _, _ => ⟨Nat.le_refl _, fun h => absurd rfl h⟩
  | [], _ :: _, h, _, _ => by simp at h
  | _ :: _, [], h, _, _ => by simp at h
  | a :: x, b :: y, hl, hle, hk => by
    have ha := hle a (List.mem_cons_self ..)
    have h0 : b ≤ a := hk 0 (by simp)
    obtain ⟨h1, h2⟩ := csum_mono x y (by simpa using hl) (fun d hd => hle d (List.mem_cons_of_mem _ hd)) (fun k h => by
      have := hk (k + 1) (by simpa using h)
      simpa [List.getD_cons_succ] using this)
    refine ⟨by rw [csum, csum]; omega, fun hne => ?_⟩
    rw [csum, csum]
    by_cases e : a = b
    · subst e
      have := h2 (fun e2 => hne (by rw [e2]))
      omega
    · omega
theorem getD_left (a b : List Nat) (k : Nat) (h : k < a.length) : (a ++ b).getD k 0 = a.getD k 0 := by
  rw [List.getD_eq_getElem?_getD, List.getElem?_append_left h, List.getD_eq_getElem?_getD]
theorem getD_right (a b : List Nat) (k : Nat) : (a ++ b).getD (a.length + k) 0 = b.getD k 0 := by
  rw [List.getD_eq_getElem?_getD, List.getElem?_append_right (by omega), List.getD_eq_getElem?_getD, Nat.add_sub_cancel_left]
/-- of two different short digests each has a digit that is less than that of the other one -/
theorem digs_guard (s t : List UInt8) (hs : s.length = 16) (ht : t.length = 16) (hne : s ≠ t) : ∃ k, k < 35 ∧ (digs s).getD k 0 < (digs t).getD k 0 := by
  apply Classical.byContradiction
  intro hno
  have hall : ∀ k, k < 35 → (digs t).getD k 0 ≤ (digs s).getD k 0 := fun k hk => Nat.not_lt.1 (fun h => hno ⟨k, hk, h⟩)
  have ls : (nib s).length = 32 := by rw [nib_len, hs]
  have lt : (nib t).length = 32 := by rw [nib_len, ht]
  have h1 := csum_mono (nib s) (nib t) (by rw [ls, lt]) (nib_le s) (fun k hk => by
    have := hall k (by omega)
    unfold digs at this
    rw [getD_left _ _ _ (by omega), getD_left _ _ _ (by omega)] at this
    exact this)
  have h2 := h1.2 (fun e => hne (nib_inj s t e))
  have g : ∀ j, j < 3 → [csum (nib t) / 256, csum (nib t) / 16 % 16, csum (nib t) % 16].getD j 0 ≤ [csum (nib s) / 256, csum (nib s) / 16 % 16, csum (nib s) % 16].getD j 0 := fun j hj => by
    have := hall (32 + j) (by omega)
    unfold digs at this
    rw [← ls, getD_right] at this
    rw [show (nib s).length + j = (nib t).length + j by omega, getD_right] at this
    exact this
  have g0 : csum (nib t) / 256 ≤ csum (nib s) / 256 := g 0 (by omega)
  have g1 : csum (nib t) / 16 % 16 ≤ csum (nib s) / 16 % 16 := g 1 (by omega)
  have g2 : csum (nib t) % 16 ≤ csum (nib s) % 16 := g 2 (by omega)
  omega
theorem dig_guard (a b : List UInt8) (h : sh a ≠ sh b) : ∃ k, k < 35 ∧ (dig a).getD k 0 < (dig b).getD k 0 := digs_guard _ _ (sh_len _) (sh_len _) h
theorem dig_same (a b : List UInt8) (h : sh a = sh b) : dig a = dig b := by unfold dig; rw [h]
/-- the public key, the signature, the key that follows -/
def pub (seed : List UInt8) : List UInt8 := sh ((List.range 35).map fun i => chn seed i 15).flatten
def sgD (seed : List UInt8) (D : List Nat) : List (List UInt8) := (List.range 35).map fun i => chn seed i (D.getD i 0)
def enD (D : List Nat) (l : List (List UInt8)) : List (List UInt8) := (List.range 35).map fun i => clm (l.getD i []) i (D.getD i 0) (15 - D.getD i 0)
def sgn (seed m : List UInt8) : List (List UInt8) := sgD seed (dig m)
def key (m : List UInt8) (l : List (List UInt8)) : List UInt8 := sh (enD (dig m) l).flatten
theorem sgD_at (seed : List UInt8) (D : List Nat) (i : Nat) (h : i < 35) : (sgD seed D).getD i [] = chn seed i (D.getD i 0) := by
  unfold sgD
  rw [List.getD_eq_getElem?_getD, List.getElem?_map, List.getElem?_range h]
  rfl
theorem getD_le15 (D : List Nat) (h : ∀ d ∈ D, d ≤ 15) (i : Nat) : D.getD i 0 ≤ 15 := by
  rw [List.getD_eq_getElem?_getD]
  cases e : D[i]? with
  | none => exact Nat.zero_le _
  | some d => exact h d (List.mem_of_getElem? e)
theorem enD_sgD (seed : List UInt8) (D : List Nat) (hD : ∀ d ∈ D, d ≤ 15) : enD D (sgD seed D) = (List.range 35).map fun i => chn seed i 15 := by
  unfold enD
  refine List.map_congr_left fun i hi => ?_
  have h15 := getD_le15 D hD i
  rw [sgD_at seed D i (List.mem_range.1 hi), chn_add, show D.getD i 0 + (15 - D.getD i 0) = 15 by omega]
/-- the stage's theorem -/
theorem key_sgn (seed m : List UInt8) : key m (sgn seed m) = pub seed := by
  have h := enD_sgD seed (dig m) (dig_le m)
  unfold key sgn pub
  rw [h]
/-- a signature's chain leads to that of another message whose digit is not less -/
theorem climbs (seed : List UInt8) (D E : List Nat) (i : Nat) (h : i < 35) (hle : D.getD i 0 ≤ E.getD i 0) :
    clm ((sgD seed D).getD i []) i (D.getD i 0) (E.getD i 0 - D.getD i 0) = (sgD seed E).getD i [] := by
  rw [sgD_at seed D i h, sgD_at seed E i h, chn_add, show D.getD i 0 + (E.getD i 0 - D.getD i 0) = E.getD i 0 by omega]
end Ots
end Go.Proofs.YtafolokkjpbieaaDoor
