import Derived.Test.YthfgdgcdicacpaaCertMath
namespace Go.Proofs.Ythfgdgcdicacpaa
namespace Oc
set_option linter.unusedVariables false
theorem lenb_le (n : Nat) : (lenb n).length ≤ 4 := by rw [lenb_len]; split <;> (try split) <;> (try split) <;> omega
theorem enc_num (t : UInt8) (x : Nat) (h : x < 256 ^ 8) : (enc (num t x)).length ≤ 13 := by
 have h1 := nb_len 8 x h
 have h2 := lenb_le ((nb x).length + 0)
 unfold num
 rw [enc, encs]
 simp only [List.length_cons, List.length_append, List.length_nil]
 omega
theorem enc_seq (t : UInt8) (l : List Oct) : (enc (seq t l)).length ≤ (encs l).length + 5 := by
 have h2 := lenb_le (0 + (encs l).length)
 unfold seq
 rw [enc]
 simp only [List.length_cons, List.length_append, List.length_nil]
 omega
theorem encs_cons (v : Oct) (l : List Oct) : (encs (v :: l)).length = (enc v).length + (encs l).length := by rw [encs, List.length_append]
theorem encs_nil : (encs []).length = 0 := by rw [encs]; rfl
end Oc
end Go.Proofs.Ythfgdgcdicacpaa
