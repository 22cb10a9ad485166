/-
  THE WALK over layer 8's reference: shaped. Written by wip/gen-oc11.py.
-/
import Derived.Test.YthagoafcphaadaaOcR
namespace Go.Proofs.Ythagoafcphaadaa
open Go.RowKit Sha Oc
set_option linter.unusedVariables false
set_option linter.unusedSimpArgs false
def okTop (t : UInt8) (m n : Nat) : Bool := decide (t.toNat ≠ 0 ∧ (t.toNat < 128 → n = 0) ∧ (128 ≤ t.toNat → m = 0))
mutual
def shpB : Oct → Bool
  | .mk t b l => okTop t b.length l.length && shpsB l
def shpsB : List Oct → Bool
  | [] => true
  | v :: r => shpB v && shpsB r
end
mutual
theorem shpB_iff : ∀ o : Oct, shpB o = true ↔ shp o
  | .mk t b l => by
    have h1 := shpsB_iff l
    have h2 : t.toNat ≠ 0 ↔ t ≠ 0 := ⟨fun h e => h (by rw [e]; rfl), fun h e => h (UInt8.toNat_inj.1 e)⟩
    rw [shpB, shp, Bool.and_eq_true, h1, okTop, decide_eq_true_eq, List.length_eq_zero_iff, List.length_eq_zero_iff, h2]
    exact ⟨fun ⟨⟨a, b, c⟩, d⟩ => ⟨a, b, c, d⟩, fun ⟨a, b, c, d⟩ => ⟨⟨a, b, c⟩, d⟩⟩
theorem shpsB_iff : ∀ l : List Oct, shpsB l = true ↔ shps l
  | [] => by rw [shpsB, shps]; exact ⟨fun _ => trivial, fun _ => rfl⟩
  | v :: r => by rw [shpsB, shps, Bool.and_eq_true, shpB_iff v, shpsB_iff r]
end
theorem shpsB_snoc : ∀ (l : List Oct) (o : Oct), shpsB (l ++ [o]) = (shpsB l && shpB o)
  | [], o => by simp [shpsB]
  | v :: r, o => by rw [List.cons_append, shpsB, shpsB_snoc r o, shpsB, Bool.and_assoc]
theorem shpsB_no : ∀ (l : List Oct) (o : Oct), o ∈ l → shpB o = false → shpsB l = false
  | [], _, h, _ => by cases h
  | v :: r, o, h, hf => by
    rw [shpsB]
    rcases List.mem_cons.1 h with rfl | h
    · rw [hf]; rfl
    · rw [shpsB_no r o h hf, Bool.and_false]
end Go.Proofs.Ythagoafcphaadaa
