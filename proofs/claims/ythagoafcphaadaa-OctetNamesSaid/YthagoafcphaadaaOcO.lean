/-
  THE WALK over layer 8: the law's spoil. Written by wip/gen-oc9.py.
-/
import Derived.Test.YthagoafcphaadaaOcN
namespace Go.Proofs.Ythagoafcphaadaa
open Go.RowKit Sha Oc
set_option linter.unusedVariables false
set_option linter.unusedSimpArgs false
/-- a byte of a value of one's own -/
theorem spoil_byte {base : Nat} {V u : World} {t : UInt8} {b : List UInt8} {l : List Oct} {A : Option Addr} {c : Nat} {y : Value} {n : Nat} (h : At (Rw base V) V (.mk t b l) (.slice A n c) y) (hs : Sp base V u) (k : Nat) (hk : k < n) :
    ∃ (ga oa : Nat) (a : UInt8), A = some ⟨ga, oa, none⟩ ∧ n ≤ c ∧ u.cell? ⟨ga, oa + k, none⟩ = some (.int .u8 (a.toNat : Int)) ∧ ga < u.heap.size ∧ u.frozen? ⟨ga, oa + k, none⟩ = false ∧ ∀ z : Int, 0 ≤ z → z < 256 → Sp base u (u.setCell ⟨ga, oa + k, none⟩ (.int .u8 z)) := by
  obtain ⟨o', h1, _, _, _⟩ := Oc.At.spoil hs h 0
  cases h1 with
  | mk t b l A c B d g off vb vl hc hbm hcn hsA hA hd hlm hdn hB h0 h1 h2 hr =>
    have hne : b ≠ [] := fun e => by rw [e] at hk; exact absurd hk (by simp)
    obtain ⟨ga, oa, hAe, hcell⟩ := hsA hne
    have hc2 := hcell k _ (List.getElem?_eq_getElem hk)
    have hrw := hA ga oa hAe hne
    obtain ⟨_, cs, tt, hr2⟩ := id hrw
    exact ⟨ga, oa, _, hAe, hc, hc2, (Array.getElem?_eq_some_iff.1 hr2).1, frozen_of_row _ _ _ _ _ hr2, fun z h0 h1 => sp_set hrw hc2 z h0 h1⟩
/-- an element of a value of one's own -/
theorem spoil_el {base : Nat} {V u : World} {t : UInt8} {b : List UInt8} {l : List Oct} {x : Value} {B : Option Addr} {d : Nat} {n : Nat} (h : At (Rw base V) V (.mk t b l) x (.slice B n d)) (hs : Sp base V u) (k : Nat) (hk : k < n) :
    ∃ (g off : Nat) (o : Oct) (A1 : Option Addr) (m1 c1 : Nat) (B1 : Option Addr) (n1 d1 : Nat), B = some ⟨g, off, none⟩ ∧ n ≤ d ∧ u.cell? ⟨g, off + k * 3, none⟩ = some (.int .u8 ((tagO o).toNat : Int)) ∧ u.cell? ⟨g, off + k * 3 + 1, none⟩ = some (.slice A1 m1 c1) ∧ u.cell? ⟨g, off + k * 3 + 2, none⟩ = some (.slice B1 n1 d1) ∧ g < u.heap.size ∧ u.frozen? ⟨g, off + k * 3, none⟩ = false ∧ At (Rw base u) u o (.slice A1 m1 c1) (.slice B1 n1 d1) ∧ cnt o ≤ cnts l ∧ tot o ≤ tots l ∧ ∀ z : Int, 0 ≤ z → z < 256 → Sp base u (u.setCell ⟨g, off + k * 3, none⟩ (.int .u8 z)) := by
  obtain ⟨o', h1, h3, h4, _⟩ := Oc.At.spoil hs (at_list h) 0
  rw [cnt] at h3
  rw [tot] at h4
  obtain ⟨x1, hx1⟩ : ∃ x1, x1 = Value.slice none 0 0 := ⟨_, rfl⟩
  rw [← hx1] at h1
  cases h1 with
  | mk t b' l' A c B d g off vb vl hc hbm hcn hsA hA hd hlm hdn hB h0 h1 h2 hr =>
    have hne : l' ≠ [] := fun e => by rw [e] at hk; exact absurd hk (by simp)
    have hb' : b'.length = 0 := by injection hx1
    obtain ⟨hBe, hrw⟩ := hB hne
    have hl := List.getElem?_eq_getElem hk
    have hmem := List.mem_of_getElem? hl
    have e0 := h0 k _ hl
    have e1 := h1 k _ hl
    have e2 := h2 k _ hl
    have hat := hr k _ hl
    have hcle := cnt_le l' _ hmem
    have htle := tot_le l' _ hmem
    obtain ⟨A1, m1, c1, B1, n1, d1, q1, q2⟩ := hat.slices
    rw [q1] at e1 hat
    rw [q2] at e2 hat
    obtain ⟨_, cs, tt, hr2⟩ := id hrw
    rw [cnt] at h3
    rw [tot] at h4
    simp only [List.length_nil] at h4
    exact ⟨g, off, _, A1, m1, c1, B1, n1, d1, hBe, hd, e0, e1, e2, (Array.getElem?_eq_some_iff.1 hr2).1, frozen_of_row _ _ _ _ _ hr2, hat, by omega, by omega, fun z h0 h1 => sp_set hrw e0 z h0 h1⟩
end Go.Proofs.Ythagoafcphaadaa
