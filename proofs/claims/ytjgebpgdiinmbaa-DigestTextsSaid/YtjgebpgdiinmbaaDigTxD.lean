/-
  THE WALK over the reference's reading in base64.
-/
import Derived.Test.YtjgebpgdiinmbaaDigTxC
namespace Go.Proofs.Ytjgebpgdiinmbaa
open Go.RowKit Sha
set_option linter.unusedVariables false
set_option linter.unusedSimpArgs false
/-- the bytes of a group's number -/
def bt (N : Nat) : Nat → Nat
  | 0 => N / 65536 % 256
  | 1 => N / 256 % 256
  | _ => N % 256
def bytes3 (N : Nat) : List UInt8 := [UInt8.ofNat (bt N 0), UInt8.ofNat (bt N 1), UInt8.ofNat (bt N 2)]
def finB (N p : Nat) (rest : Option (List UInt8)) : Option (List UInt8) :=
  if (2 ≤ p → bt N 1 = 0) ∧ (1 ≤ p → bt N 2 = 0) then rest.map fun l => (bytes3 N).take (3 - p) ++ l else none
def cB (last : Prop) [Decidable last] (rest : Option (List UInt8)) : List UInt8 → Nat → Nat → Nat → Option (List UInt8)
  | [], _, N, p => finB N p rest
  | c :: cs, j, N, p => if c = 61 ∧ 1 < j ∧ last then cB last rest cs (j + 1) (N * 64) (p + 1) else if 0 < p ∨ dv b64L c < 0 then none else cB last rest cs (j + 1) (N * 64 + (dv b64L c).toNat) p
section
variable {last : Prop} [Decidable last] {rest : Option (List UInt8)} {c : UInt8} {cs : List UInt8} {j N p : Nat}
theorem cB_pad (h : c = 61 ∧ 1 < j ∧ last) : cB last rest (c :: cs) j N p = cB last rest cs (j + 1) (N * 64) (p + 1) := by rw [cB, if_pos h]
theorem cB_err (h : ¬ (c = 61 ∧ 1 < j ∧ last)) (h2 : 0 < p ∨ dv b64L c < 0) : cB last rest (c :: cs) j N p = none := by rw [cB, if_neg h, if_pos h2]
theorem cB_go (h : ¬ (c = 61 ∧ 1 < j ∧ last)) (h2 : ¬ (0 < p ∨ dv b64L c < 0)) : cB last rest (c :: cs) j N p = cB last rest cs (j + 1) (N * 64 + (dv b64L c).toNat) p := by rw [cB, if_neg h, if_neg h2]
theorem cB_end : cB last rest [] j N p = finB N p rest := rfl
end
theorem cB_eq (a b c d : UInt8) (r : List UInt8) : rfb (a :: b :: c :: d :: r) = cB (r = []) (rfb r) [a, b, c, d] 0 0 0 := by
  rw [rfb]
  by_cases ha : dv b64L a < 0
  · rw [if_pos (Or.inl ha), cB_err (by omega) (Or.inr ha)]
  obtain ⟨_, l1⟩ := ch_dvb a ha
  rw [cB_go (c := a) (by omega) (by omega)]
  by_cases hb : dv b64L b < 0
  · rw [if_pos (Or.inr hb), cB_err (by omega) (Or.inr hb)]
  obtain ⟨_, l2⟩ := ch_dvb b hb
  rw [if_neg (by omega), cB_go (c := b) (by omega) (by omega)]
  obtain ⟨x, hx⟩ : ∃ x, (dv b64L a).toNat = x := ⟨_, rfl⟩
  obtain ⟨y, hy⟩ : ∃ y, (dv b64L b).toNat = y := ⟨_, rfl⟩
  rw [hx, hy]
  rw [hx] at l1
  rw [hy] at l2
  by_cases hc : c = 61 ∧ r = []
  · obtain ⟨rfl, rfl⟩ := hc
    rw [if_pos ⟨rfl, rfl⟩, cB_pad (c := 61) ⟨rfl, by omega, rfl⟩]
    by_cases hd : d = 61
    · subst hd
      rw [if_pos rfl, cB_pad (c := 61) ⟨rfl, by omega, rfl⟩, cB_end]
      unfold finB bytes3 bt
      simp only [Nat.zero_add, Nat.zero_mul, Nat.reduceAdd, Nat.reduceSub, Nat.le_refl, true_implies, List.take_succ_cons, List.take_zero, rfb, Option.map_some, List.cons_append, List.nil_append]
      by_cases hm : y % 16 = 0
      · rw [if_pos hm, if_pos (by constructor <;> intros <;> omega), show (x * 64 + y) * 64 * 64 / 65536 % 256 = 4 * x + y / 16 by omega]
      · rw [if_neg hm, if_neg (by intro h; have := h.1; omega)]
    · rw [if_neg hd, cB_err (c := d) (fun e => hd e.1) (Or.inl (by omega))]
  · rw [if_neg hc]
    by_cases hcn : dv b64L c < 0
    · rw [if_pos hcn, cB_err (c := c) (fun e => hc ⟨e.1, e.2.2⟩) (Or.inr hcn)]
    obtain ⟨_, l3⟩ := ch_dvb c hcn
    rw [if_neg hcn, cB_go (c := c) (fun e => hc ⟨e.1, e.2.2⟩) (by omega)]
    obtain ⟨z, hz⟩ : ∃ z, (dv b64L c).toNat = z := ⟨_, rfl⟩
    rw [hz]
    rw [hz] at l3
    by_cases hd : d = 61 ∧ r = []
    · obtain ⟨rfl, rfl⟩ := hd
      rw [if_pos ⟨rfl, rfl⟩, cB_pad (c := 61) ⟨rfl, by omega, rfl⟩, cB_end]
      unfold finB bytes3 bt
      simp only [Nat.zero_add, Nat.zero_mul, Nat.reduceAdd, Nat.reduceSub, Nat.le_refl, true_implies, List.take_succ_cons, List.take_zero, rfb, Option.map_some, List.cons_append, List.nil_append]
      by_cases hm : z % 4 = 0
      · rw [if_pos hm, if_pos (by constructor <;> intros <;> omega), show ((x * 64 + y) * 64 + z) * 64 / 65536 % 256 = 4 * x + y / 16 by omega, show ((x * 64 + y) * 64 + z) * 64 / 256 % 256 = y % 16 * 16 + z / 4 by omega]
      · rw [if_neg hm, if_neg (by intro h; have := h.2; omega)]
    · rw [if_neg hd]
      by_cases hdn : dv b64L d < 0
      · rw [if_pos hdn, cB_err (c := d) (fun e => hd ⟨e.1, e.2.2⟩) (Or.inr hdn)]
      obtain ⟨_, l4⟩ := ch_dvb d hdn
      rw [if_neg hdn, cB_go (c := d) (fun e => hd ⟨e.1, e.2.2⟩) (by omega), cB_end]
      obtain ⟨q, hq⟩ : ∃ q, (dv b64L d).toNat = q := ⟨_, rfl⟩
      rw [hq]
      rw [hq] at l4
      unfold finB bytes3 bt
      rw [if_pos (by constructor <;> intros <;> omega)]
      simp only [Nat.zero_add, Nat.zero_mul, Nat.sub_zero, List.take_succ_cons, List.take_zero, List.cons_append, List.nil_append]
      rw [show (((x * 64 + y) * 64 + z) * 64 + q) / 65536 % 256 = 4 * x + y / 16 by omega, show (((x * 64 + y) * 64 + z) * 64 + q) / 256 % 256 = y % 16 * 16 + z / 4 by omega, show (((x * 64 + y) * 64 + z) * 64 + q) % 256 = z % 4 * 64 + q by omega]
theorem b64S_mod (b : List UInt8) : (b64S b).length % 4 = 0 := by
  refine three_rec (P := fun b => (b64S b).length % 4 = 0) rfl ?_ ?_ ?_ b
  · intro a; simp only [b64S_one, List.length_cons, List.length_nil]
  · intro a b; simp only [b64S_two, List.length_cons, List.length_nil]
  · intro a b c r ih
    simp only [b64S_three, List.length_cons]
    omega
theorem rfb_mod (s : List UInt8) (h : s.length % 4 ≠ 0) : rfb s = none := by
  cases e : rfb s with
  | none => rfl
  | some l =>
    have := b64_rfb s l e
    have h2 := b64S_mod l
    rw [this] at h2
    omega
end Go.Proofs.Ytjgebpgdiinmbaa
