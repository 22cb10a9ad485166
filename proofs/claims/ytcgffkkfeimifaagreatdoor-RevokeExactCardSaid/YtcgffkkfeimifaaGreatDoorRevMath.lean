import Derived.Test.YtcgffkkfeimifaaGreatDoorCertMath
namespace Go.Proofs.YtcgffkkfeimifaaGreatDoor
namespace Oc
set_option linter.unusedVariables false
structure Rb where
 issuer : List UInt8
 number : Nat
 since : Nat
 till : Nat
 serials : List Nat
def n5 (x : Nat) : Oct := num 5 x
def rbv (r : Rb) : Oct := seq 134 [str 1 r.issuer, num 2 r.number, num 3 r.since, num 4 r.till, seq 129 (r.serials.map n5)]
def rwv (r : Rb) (s : Sg) : Oct := seq 135 [rbv r, sgv s]
theorem n5_ok (x : Nat) : shp (n5 x) ∧ dep (n5 x) ≤ 2 := ⟨shp_num _ _ (by decide) (by decide), by unfold n5; rw [dep_num]; decide⟩
theorem rbv_ok (r : Rb) : shp (rbv r) ∧ dep (rbv r) ≤ 4 := by
 have hm := map_ok n5 n5_ok r.serials
 unfold rbv
 refine ⟨shp_seq _ _ (by decide) ?_, dep_seq _ _ 3 ?_⟩
 ·
  intro v hv
  simp only [List.mem_cons, List.not_mem_nil, or_false] at hv
  rcases hv with rfl | rfl | rfl | rfl | rfl
  all_goals first | exact shp_num _ _ (by decide) (by decide) | exact shp_str _ _ (by decide) (by decide) | exact hm.1
 ·
  intro v hv
  simp only [List.mem_cons, List.not_mem_nil, or_false] at hv
  rcases hv with rfl | rfl | rfl | rfl | rfl
  all_goals first | exact hm.2 | (rw [dep_num]; decide) | (rw [dep_str]; decide)
theorem rwv_ok (r : Rb) (s : Sg) : shp (rwv r s) ∧ dep (rwv r s) ≤ 5 := by
 have h1 := rbv_ok r
 have h2 := sgv_ok s
 unfold rwv
 refine ⟨shp_seq _ _ (by decide) ?_, dep_seq _ _ 4 ?_⟩
 ·
  intro v hv
  simp only [List.mem_cons, List.not_mem_nil, or_false] at hv
  rcases hv with rfl | rfl
  ·
   exact h1.1
  ·
   exact h2.1
 ·
  intro v hv
  simp only [List.mem_cons, List.not_mem_nil, or_false] at hv
  rcases hv with rfl | rfl
  ·
   exact h1.2
  ·
   omega
theorem lenb_le (n : Nat) : (lenb n).length ≤ 4 := by rw [lenb_len]; split <;> (try split) <;> (try split) <;> omega
theorem enc_num (t : UInt8) (x : Nat) (h : x < 256 ^ 8) : (enc (num t x)).length ≤ 13 := by
 have h1 := nb_len 8 x h
 have h2 := lenb_le ((nb x).length + 0)
 unfold num
 rw [enc, encs]
 simp only [List.length_cons, List.length_append, List.length_nil]
 omega
theorem enc_str (t : UInt8) (b : List UInt8) : (enc (str t b)).length ≤ b.length + 5 := by
 have h2 := lenb_le (b.length + 0)
 unfold str
 rw [enc, encs]
 simp only [List.length_cons, List.length_append, List.length_nil]
 omega
theorem enc_seq (t : UInt8) (l : List Oct) : (enc (seq t l)).length ≤ (encs l).length + 5 := by
 have h2 := lenb_le (0 + (encs l).length)
 unfold seq
 rw [enc]
 simp only [List.length_cons, List.length_append, List.length_nil]
 omega
theorem encs_cons (v : Oct) (l : List Oct) : (encs (v :: l)).length = (enc v).length + (encs l).length := by rw [encs, List.length_append]
theorem encs_nil : (encs []).length = 0 := by rw [encs]; rfl
theorem encs_n5 : ∀ l : List Nat, (∀ x ∈ l, x < 256 ^ 8) → (encs (l.map n5)).length ≤ 13 * l.length
 | [], _ => by rw [List.map_nil, encs_nil]; omega
 | x :: r, h => by
  have h1 := enc_num 5 x (h x (List.mem_cons_self ..))
  have h2 := encs_n5 r (fun y hy => h y (List.mem_cons_of_mem _ hy))
  rw [List.map_cons, encs_cons, List.length_cons]
  unfold n5 at h2 ⊢
  omega
structure Rb.fits (r : Rb) : Prop where
 i : r.issuer.length ≤ 1000
 n : r.number < 256 ^ 8
 a : r.since < 256 ^ 8
 b : r.till < 256 ^ 8
 l : r.serials.length ≤ 500
 s : ∀ x ∈ r.serials, x < 256 ^ 8
end Oc
end Go.Proofs.YtcgffkkfeimifaaGreatDoor
