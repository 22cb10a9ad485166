import Derived.Test.YthfgdgcdicacpaaNumMathC
namespace Go.Proofs.Ythfgdgcdicacpaa
namespace Ro
open Adr
set_option linter.unusedVariables false
structure Ap where
 f : Int
 h : Int
 l : Int
 n : Int
 m : Int
structure Ra where
 sy : Int
 ps : List Ap
def ap0 : Ap := ⟨0, 0, 0, 0, 0⟩
instance : Inhabited Ap := ⟨ap0⟩
def ra0 : Ra := ⟨0, []⟩
def ltE (a b : Ap) : Bool := decide (a.f < b.f ∨ a.f = b.f ∧ (a.h < b.h ∨ a.h = b.h ∧ (a.l < b.l ∨ a.l = b.l ∧ (a.n < b.n ∨ a.n = b.n ∧ a.m < b.m))))
def vE (x : Ap) : Bool := Adr.ok x.f x.h x.l x.n && decide (x.n ≤ x.m) && decide (x.m ≤ wid x.f)
def srt : Option Ap → List Ap → Bool
 | _, [] => true
 | none, x :: r => vE x && srt (some x) r
 | some q, x :: r => vE x && ltE q x && srt (some x) r
def raC (l : List Ap) : Int := if 100 < l.length then 4 else if l.length = 0 then 8 else if srt none l = true then 0 else 8
theorem ok_bounds {f h l n : Int} (h1 : Adr.ok f h l n = true) : 0 ≤ n ∧ n ≤ wid f := by
 unfold Adr.ok cutOk at h1
 simp only [Bool.and_eq_true, decide_eq_true_eq] at h1
 omega
theorem vE_bounds {x : Ap} (h : vE x = true) : (0 ≤ x.n ∧ x.n ≤ 128) ∧ (0 ≤ x.m ∧ x.m ≤ 128) := by
 unfold vE at h
 simp only [Bool.and_eq_true, decide_eq_true_eq] at h
 have h1 := ok_bounds h.1.1
 have h2 := wid_hi x.f
 omega
theorem srt_all : ∀ (l : List Ap) (p : Option Ap), srt p l = true → ∀ x ∈ l, vE x = true
 | [], _, _, x, hx => by cases hx
 | y :: r, p, h, x, hx => by
  have h2 : vE y = true ∧ srt (some y) r = true := by
   cases p with
   | none => rw [srt, Bool.and_eq_true] at h; exact h
   | some q => rw [srt, Bool.and_eq_true, Bool.and_eq_true] at h; exact ⟨h.1.1, h.2⟩
  rcases List.mem_cons.1 hx with rfl | hx
  ·
   exact h2.1
  ·
   exact srt_all r (some y) h2.2 x hx
theorem raC_zero {l : List Ap} (h : raC l = 0) : 1 ≤ l.length ∧ l.length ≤ 100 ∧ srt none l = true := by
 unfold raC at h
 by_cases h1 : 100 < l.length
 ·
  rw [if_pos h1] at h; exact absurd h (by decide)
 ·
  rw [if_neg h1] at h
  by_cases h2 : l.length = 0
  ·
   rw [if_pos h2] at h; exact absurd h (by decide)
  ·
   rw [if_neg h2] at h
   by_cases h3 : srt none l = true
   ·
    exact ⟨by omega, by omega, h3⟩
   ·
    rw [if_neg h3] at h; exact absurd h (by decide)
structure WfE (x : Ap) : Prop where
 f : 0 ≤ x.f ∧ x.f < 256
 h : U64 x.h
 l : U64 x.l
structure Wf (a : Ra) : Prop where
 sy : 0 ≤ a.sy ∧ a.sy < 4294967296
 ps : ∀ x ∈ a.ps, WfE x
end Ro
end Go.Proofs.Ythfgdgcdicacpaa
