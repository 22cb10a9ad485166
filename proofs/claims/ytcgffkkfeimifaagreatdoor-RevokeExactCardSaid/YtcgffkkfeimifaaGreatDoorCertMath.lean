import Derived.Test.YtcgffkkfeimifaaGreatDoorOctMath
namespace Go.Proofs.YtcgffkkfeimifaaGreatDoor
namespace Oc
set_option linter.unusedVariables false
def num (t : UInt8) (x : Nat) : Oct := .mk t (nb x) []
def str (t : UInt8) (b : List UInt8) : Oct := .mk t b []
def seq (t : UInt8) (l : List Oct) : Oct := .mk t [] l
structure Sg where
 index : Nat
 chains : List (List UInt8)
 path : List (List UInt8)
def Sg.rows (s : Sg) : Prop := (∀ x ∈ s.chains, x.length = 16) ∧ (∀ x ∈ s.path, x.length = 16)
def sgv (s : Sg) : Oct := seq 131 [num 1 s.index, str 2 s.chains.flatten, str 3 s.path.flatten]
theorem shp_num (t : UInt8) (x : Nat) (h0 : t ≠ 0) (h : t.toNat < 128) : shp (num t x) := by
 unfold num
 rw [shp, shps]
 exact ⟨h0, fun _ => rfl, fun h2 => absurd h (by omega), trivial⟩
theorem shp_str (t : UInt8) (x : List UInt8) (h0 : t ≠ 0) (h : t.toNat < 128) : shp (str t x) := by
 unfold str
 rw [shp, shps]
 exact ⟨h0, fun _ => rfl, fun h2 => absurd h (by omega), trivial⟩
theorem shps_of : ∀ l : List Oct, (∀ v ∈ l, shp v) → shps l
 | [], _ => by rw [shps]; trivial
 | v :: r, h => by rw [shps]; exact ⟨h v (List.mem_cons_self ..), shps_of r (fun x hx => h x (List.mem_cons_of_mem _ hx))⟩
theorem shp_seq (t : UInt8) (l : List Oct) (h : 128 ≤ t.toNat) (hl : ∀ v ∈ l, shp v) : shp (seq t l) := by
 unfold seq
 rw [shp]
 refine ⟨fun e => ?_, fun h2 => absurd h (by omega), fun _ => rfl, shps_of l hl⟩
 rw [e] at h
 exact absurd h (by decide)
theorem deps_le (n : Nat) : ∀ l : List Oct, (∀ v ∈ l, dep v ≤ n) → deps l ≤ n
 | [], _ => by rw [deps]; exact Nat.zero_le _
 | v :: r, h => by
  have h1 := h v (List.mem_cons_self ..)
  have h2 := deps_le n r (fun x hx => h x (List.mem_cons_of_mem _ hx))
  rw [deps]
  omega
theorem dep_num (t : UInt8) (x : Nat) : dep (num t x) = 1 := by unfold num; rw [dep, deps]
theorem dep_str (t : UInt8) (x : List UInt8) : dep (str t x) = 1 := by unfold str; rw [dep, deps]
theorem dep_seq (t : UInt8) (l : List Oct) (n : Nat) (h : ∀ v ∈ l, dep v ≤ n) : dep (seq t l) ≤ n + 1 := by
 have := deps_le n l h
 unfold seq
 rw [dep]
 omega
theorem sgv_ok (s : Sg) : shp (sgv s) ∧ dep (sgv s) ≤ 2 := by
 unfold sgv
 refine ⟨shp_seq _ _ (by decide) ?_, dep_seq _ _ 1 ?_⟩
 ·
  intro v hv
  simp only [List.mem_cons, List.not_mem_nil, or_false] at hv
  rcases hv with rfl | rfl | rfl
  ·
   exact shp_num _ _ (by decide) (by decide)
  ·
   exact shp_str _ _ (by decide) (by decide)
  ·
   exact shp_str _ _ (by decide) (by decide)
 ·
  intro v hv
  simp only [List.mem_cons, List.not_mem_nil, or_false] at hv
  rcases hv with rfl | rfl | rfl
  ·
   exact Nat.le_of_eq (dep_num _ _)
  ·
   exact Nat.le_of_eq (dep_str _ _)
  ·
   exact Nat.le_of_eq (dep_str _ _)
theorem map_ok {α : Type} (f : α → Oct) (hf : ∀ a, shp (f a) ∧ dep (f a) ≤ 2) (l : List α) : shp (seq 129 (l.map f)) ∧ dep (seq 129 (l.map f)) ≤ 3 := by
 refine ⟨shp_seq _ _ (by decide) ?_, dep_seq _ _ 2 ?_⟩
 ·
  intro v hv
  obtain ⟨a, _, rfl⟩ := List.mem_map.1 hv
  exact (hf a).1
 ·
  intro v hv
  obtain ⟨a, _, rfl⟩ := List.mem_map.1 hv
  exact (hf a).2
end Oc
end Go.Proofs.YtcgffkkfeimifaaGreatDoor
