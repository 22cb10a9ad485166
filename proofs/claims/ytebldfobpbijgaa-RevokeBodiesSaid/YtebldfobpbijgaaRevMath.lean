/-
  PLAIN MATHEMATICS of layer 11: the value of a revocation list says which one it is, is well made, and is small.
-/
import Derived.Test.YtebldfobpbijgaaCertMath
namespace Go.Proofs.Ytebldfobpbijgaa
namespace Oc
set_option linter.unusedVariables false
/-- a revocation list without its signature -/
structure Rb where
  issuer : List UInt8
  number : Nat
  since : Nat
  till : Nat
  serials : List Nat
def n5 (x : Nat) : Oct := num 5 x
theorem n5_inj (x y : Nat) (h : n5 x = n5 y) : x = y := num_inj 5 x y h
def rbv (r : Rb) : Oct := seq 134 [str 1 r.issuer, num 2 r.number, num 3 r.since, num 4 r.till, seq 129 (r.serials.map n5)]
theorem rbv_inj (r s : Rb) (h : rbv r = rbv s) : r = s := by
  have h0 := seq_inj _ _ _ h
  obtain ⟨a1, h1⟩ := List.cons.inj h0
  obtain ⟨a2, h2⟩ := List.cons.inj h1
  obtain ⟨a3, h3⟩ := List.cons.inj h2
  obtain ⟨a4, h4⟩ := List.cons.inj h3
  obtain ⟨a5, _⟩ := List.cons.inj h4
  have e1 := str_inj _ _ _ a1
  have e2 := num_inj _ _ _ a2
  have e3 := num_inj _ _ _ a3
  have e4 := num_inj _ _ _ a4
  have e5 := map_inj n5 n5_inj _ _ (seq_inj _ _ _ a5)
  cases r
  cases s
  simp only at e1 e2 e3 e4 e5
  subst e1 e2 e3 e4 e5
  rfl
def rwv (r : Rb) (s : Sg) : Oct := seq 135 [rbv r, sgv s]
theorem rwv_inj (r q : Rb) (s t : Sg) (hs : s.rows) (ht : t.rows) (h : rwv r s = rwv q t) : r = q ∧ s = t := by
  have h0 := seq_inj _ _ _ h
  obtain ⟨a, b⟩ := List.cons.inj h0
  obtain ⟨e, _⟩ := List.cons.inj b
  exact ⟨rbv_inj r q a, sgv_inj s t hs ht e⟩
theorem n5_ok (x : Nat) : shp (n5 x) ∧ dep (n5 x) ≤ 2 := ⟨shp_num _ _ (by decide) (by decide), by unfold n5; rw [dep_num]; decide⟩
theorem rbv_ok (r : Rb) : shp (rbv r) ∧ dep (rbv r) ≤ 4 := by
  have hm := map_ok n5 n5_ok r.serials
  unfold rbv
  refine ⟨shp_seq _ _ (by decide) ?_, dep_seq _ _ 3 ?_⟩
  · intro v hv
    simp only [List.mem_cons, List.not_mem_nil, or_false] at hv
    rcases hv with rfl | rfl | rfl | rfl | rfl
    all_goals first | exact shp_num _ _ (by decide) (by decide) | exact shp_str _ _ (by decide) (by decide) | exact hm.1
  · intro v hv
    simp only [List.mem_cons, List.not_mem_nil, or_false] at hv
    rcases hv with rfl | rfl | rfl | rfl | rfl
    all_goals first | exact hm.2 | (rw [dep_num]; decide) | (rw [dep_str]; decide)
theorem rwv_ok (r : Rb) (s : Sg) : shp (rwv r s) ∧ dep (rwv r s) ≤ 5 := by
  have h1 := rbv_ok r
  have h2 := sgv_ok s
  unfold rwv
  refine ⟨shp_seq _ _ (by decide) ?_, dep_seq _ _ 4 ?_⟩
  · intro v hv
    simp only [List.mem_cons, List.not_mem_nil, or_false] at hv
    rcases hv with rfl | rfl
    · exact h1.1
    · exact h2.1
  · intro v hv
    simp only [List.mem_cons, List.not_mem_nil, or_false] at hv
    rcases hv with rfl | rfl
    · exact h1.2
    · omega
/-! sizes -/
theorem lenb_le (n : Nat) : (lenb n).length ≤ 4 := by rw [lenb_len]; split <;> (try split) <;> (try split) <;> omega
theorem enc_num (t : UInt8) (x : Nat) (h : x < 256 ^ 8) : (enc (num t x)).length ≤ 13 := by
  have h1 := nb_len 8 x h
  have h2 := lenb_le ((nb x).length + 0)
  unfold num
  rw [enc, encs]
  simp only [List.length_cons, List.length_append, List.length_nil]
  omega
theorem enc_str (t : UInt8) (b : List UInt8) : (enc (str t b)).length ≤ b.length + 5 := by
  have h2 := lenb_le (b.length + 0)
  unfold str
  rw [enc, encs]
  simp only [List.length_cons, List.length_append, List.length_nil]
  omega
theorem enc_seq (t : UInt8) (l : List Oct) : (enc (seq t l)).length ≤ (encs l).length + 5 := by
  have h2 := lenb_le (0 + (encs l).length)
  unfold seq
  rw [enc]
  simp only [List.length_cons, List.length_append, List.length_nil]
  omega
theorem encs_cons (v : Oct) (l : List Oct) : (encs (v :: l)).length = (enc v).length + (encs l).length := by rw [encs, List.length_append]
theorem encs_nil : (encs []).length = 0 := by rw [encs]; rfl
theorem encs_n5 : ∀ l : List Nat, (∀ x ∈ l, x < 256 ^ 8) → (encs (l.map n5)).length ≤ 13 * l.length
  | [], _ => by rw [List.map_nil, encs_nil]; omega
  | x :: r, h => by
    have h1 := enc_num 5 x (h x (List.mem_cons_self ..))
    have h2 := encs_n5 r (fun y hy => h y (List.mem_cons_of_mem _ hy))
    rw [List.map_cons, encs_cons, List.length_cons]
    unfold n5 at h2 ⊢
    omega
/-- within the bounds of Check -/
structure Rb.fits (r : Rb) : Prop where
  i : r.issuer.length ≤ 1000
  n : r.number < 256 ^ 8
  a : r.since < 256 ^ 8
  b : r.till < 256 ^ 8
  l : r.serials.length ≤ 500
  s : ∀ x ∈ r.serials, x < 256 ^ 8
theorem rbv_len (r : Rb) (h : r.fits) : (enc (rbv r)).length ≤ 7600 := by
  have h1 := enc_str 1 r.issuer
  have h2 := enc_num 2 r.number h.n
  have h3 := enc_num 3 r.since h.a
  have h4 := enc_num 4 r.till h.b
  have h5 := encs_n5 r.serials h.s
  have h6 := enc_seq 129 (r.serials.map n5)
  have h7 := enc_seq 134 [str 1 r.issuer, num 2 r.number, num 3 r.since, num 4 r.till, seq 129 (r.serials.map n5)]
  have hi := h.i
  have hl := h.l
  rw [encs_cons, encs_cons, encs_cons, encs_cons, encs_cons, encs_nil] at h7
  unfold rbv
  omega
/-- one body, one list but for its signature -/
theorem rb_enc_inj (r s : Rb) (hr : r.fits) (hs : s.fits) (h : enc (rbv r) = enc (rbv s)) : r = s := by
  have a := rbv_ok r
  have b := rbv_ok s
  have c := rbv_len r hr
  have d := rbv_len s hs
  exact rbv_inj r s (enc_inj _ _ a.1 b.1 (by omega) (by omega) (by omega) (by omega) h)
end Oc
end Go.Proofs.Ytebldfobpbijgaa
