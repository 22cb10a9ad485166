import Derived.Test.YthfgdgcdicacpaaRevMath
import Derived.Test.YthfgdgcdicacpaaOcRX
namespace Go.Proofs.Ythfgdgcdicacpaa
namespace En
open Go.RowKit Sha Oc
set_option linter.unusedVariables false
def NumG (tg : UInt8) (M : Int) (v : Oct) : Prop := (rdN (tagO v) tg (bytO v) (kids v).length M).2 = 0
def numX (v : Oct) : Nat := numN (bytO v)
def SeqG (tg : UInt8) (lo hi : Int) (v : Oct) : Prop := rdQ (tagO v) tg (bytO v).length (kids v).length lo hi = true
theorem num_of {tg : UInt8} {M : Int} {v : Oct} (h : NumG tg M v) : v = num tg (numX v) ∧ (numX v : Int) ≤ M ∧ numX v < 256 ^ 8 ∧ (rdN (tagO v) tg (bytO v) (kids v).length M).1 = (numX v : Int) := by
 obtain ⟨t, b, l⟩ := v
 unfold NumG at h
 unfold rdN at h ⊢
 by_cases hc : tagO (.mk t b l) = tg ∧ (kids (.mk t b l)).length = 0 ∧ okN (bytO (.mk t b l)) = true ∧ (numN (bytO (.mk t b l)) : Int) ≤ M
 ·
  rw [if_pos hc]
  obtain ⟨h1, h2, h3, h4⟩ := hc
  have h1' : t = tg := h1
  have h2' : l = [] := List.eq_nil_of_length_eq_zero h2
  subst h1' h2'
  obtain ⟨e1, e2⟩ := okN_vl b h3
  have hlt := numN_lt b
  refine ⟨?_, h4, ?_, rfl⟩
  ·
   show Oct.mk t b [] = Oct.mk t (nb (numN b)) []
   rw [e1, e2]
  ·
   show numN b < 256 ^ 8
   exact Nat.lt_of_lt_of_le hlt (by decide)
 ·
  rw [if_neg hc] at h
  exact absurd h (by decide)
theorem num_mk (tg : UInt8) (M : Int) (x : Nat) (hx : x < 256 ^ 8) (hM : (x : Int) ≤ M) : NumG tg M (num tg x) ∧ numX (num tg x) = x := by
 obtain ⟨e1, e2⟩ := okN_nb x hx
 have h2 : numX (num tg x) = x := e2
 refine ⟨?_, h2⟩
 unfold NumG rdN
 rw [if_pos ⟨rfl, rfl, e1, by show (numN (nb x) : Int) ≤ M; rw [e2]; exact hM⟩]
theorem seq_of {tg : UInt8} {lo hi : Int} {v : Oct} (h : SeqG tg lo hi v) : v = seq tg (kids v) ∧ lo ≤ ((kids v).length : Int) ∧ ((kids v).length : Int) ≤ hi := by
 obtain ⟨t, b, l⟩ := v
 unfold SeqG rdQ at h
 obtain ⟨h1, h2, h3, h4⟩ := of_decide_eq_true h
 have h1' : t = tg := h1
 have h2' : b = [] := List.eq_nil_of_length_eq_zero h2
 subst h1' h2'
 exact ⟨rfl, h3, h4⟩
theorem seq_mk (tg : UInt8) (lo hi : Int) (l : List Oct) (h1 : lo ≤ (l.length : Int)) (h2 : (l.length : Int) ≤ hi) : SeqG tg lo hi (seq tg l) := by
 unfold SeqG rdQ
 exact decide_eq_true ⟨rfl, rfl, h1, h2⟩
def kid (v : Oct) (k : Nat) : Oct := (kids v).getD k nilO
abbrev maxU : Int := 18446744073709551615
theorem num_int (tg : UInt8) (M x : Int) (h0 : 0 ≤ x) (h1 : x < 18446744073709551616) (hM : x ≤ M) : NumG tg M (Oc.num tg x.toNat) ∧ (numX (Oc.num tg x.toNat) : Int) = x := by
 have hp : (256 : Nat) ^ 8 = 18446744073709551616 := by decide
 obtain ⟨a, b⟩ := num_mk tg M x.toNat (by omega) (by omega)
 exact ⟨a, by rw [b]; omega⟩
end En
end Go.Proofs.Ythfgdgcdicacpaa
