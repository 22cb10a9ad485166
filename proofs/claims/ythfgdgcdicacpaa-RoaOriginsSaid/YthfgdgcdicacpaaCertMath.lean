import Derived.Test.YthfgdgcdicacpaaOctMath
namespace Go.Proofs.Ythfgdgcdicacpaa
namespace Oc
set_option linter.unusedVariables false
def num (t : UInt8) (x : Nat) : Oct := .mk t (nb x) []
def seq (t : UInt8) (l : List Oct) : Oct := .mk t [] l
theorem shp_num (t : UInt8) (x : Nat) (h0 : t ≠ 0) (h : t.toNat < 128) : shp (num t x) := by
 unfold num
 rw [shp, shps]
 exact ⟨h0, fun _ => rfl, fun h2 => absurd h (by omega), trivial⟩
theorem shps_of : ∀ l : List Oct, (∀ v ∈ l, shp v) → shps l
 | [], _ => by rw [shps]; trivial
 | v :: r, h => by rw [shps]; exact ⟨h v (List.mem_cons_self ..), shps_of r (fun x hx => h x (List.mem_cons_of_mem _ hx))⟩
theorem shp_seq (t : UInt8) (l : List Oct) (h : 128 ≤ t.toNat) (hl : ∀ v ∈ l, shp v) : shp (seq t l) := by
 unfold seq
 rw [shp]
 refine ⟨fun e => ?_, fun h2 => absurd h (by omega), fun _ => rfl, shps_of l hl⟩
 rw [e] at h
 exact absurd h (by decide)
theorem deps_le (n : Nat) : ∀ l : List Oct, (∀ v ∈ l, dep v ≤ n) → deps l ≤ n
 | [], _ => by rw [deps]; exact Nat.zero_le _
 | v :: r, h => by
  have h1 := h v (List.mem_cons_self ..)
  have h2 := deps_le n r (fun x hx => h x (List.mem_cons_of_mem _ hx))
  rw [deps]
  omega
theorem dep_num (t : UInt8) (x : Nat) : dep (num t x) = 1 := by unfold num; rw [dep, deps]
theorem dep_seq (t : UInt8) (l : List Oct) (n : Nat) (h : ∀ v ∈ l, dep v ≤ n) : dep (seq t l) ≤ n + 1 := by
 have := deps_le n l h
 unfold seq
 rw [dep]
 omega
end Oc
end Go.Proofs.Ythfgdgcdicacpaa
