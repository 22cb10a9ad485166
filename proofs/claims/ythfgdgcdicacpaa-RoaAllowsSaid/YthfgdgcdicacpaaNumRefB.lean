/-
  THE WALKS over the reference of layer 1: Addr, Bit, Check.
-/
import Derived.Test.YthfgdgcdicacpaaNumRef
import Derived.Test.YthfgdgcdicacpaaNumMathC
namespace Go.Proofs.Ythfgdgcdicacpaa
open Go.RowKit Adr

/-- a row of integers of the call's own, opened -/
theorem own_open {w : World} {base : Nat} {e : TypeId} {v : Value} {n : Nat} {zs : List Int} (h : w.ownsRow base e 1 v n (zs.map (Value.int .i64))) (hn : 0 < n) :
    ∃ g cap, v = .slice (some ⟨g, 0, none⟩) n cap ∧ base ≤ g ∧ g < w.heap.size ∧ n ≤ cap ∧ cap ≤ maxLen ∧ (∀ j, j < n → w.cell? ⟨g, j, none⟩ = some (.int .i64 (zs.getD j 0))) ∧ (∀ j, j < n → w.frozen? ⟨g, j, none⟩ = false) := by
  obtain ⟨hl, h | ⟨g, cap, cur, rfl, hb, hg, hnc, hcm, hcs, ht⟩⟩ := h
  · omega
  · have hlt : g < w.heap.size := by
      have := hg
      rw [Array.getElem?_eq_some_iff] at this
      exact this.1
    refine ⟨g, cap, rfl, hb, hlt, hnc, hcm, fun j hj => ?_, fun j hj => ?_⟩
    · have h1 : cur.toList[j]? = some (.int .i64 (zs.getD j 0)) := by
        have h2 : (cur.toList.take (n * 1))[j]? = cur.toList[j]? := by rw [List.getElem?_take]; rw [if_pos (by omega)]
        rw [← h2, ht]
        have hz : j < zs.length := by simp at hl; omega
        simp [List.getElem?_map, List.getElem?_eq_getElem hz]
      simp only [World.cell?, hg]
      simpa using h1
    · simp [World.frozen?, hg]

/-- the list of bits, opened -/
def BitsLeft (h l : Int) (W : Nat) (w : World) (e : Ending) (w' : World) : Prop :=
  ∃ g cap : Nat, e = .returned (.slice (some ⟨g, 0, none⟩) W cap) ∧ w.heap.size + 1 ≤ g ∧ g < w'.heap.size ∧ W ≤ cap ∧ cap ≤ maxLen ∧ (∀ j, j < W → w'.cell? ⟨g, j, none⟩ = some (.int .i64 (bt h l ((W : Int) - 1 - j)))) ∧ (∀ j, j < W → w'.frozen? ⟨g, j, none⟩ = false) ∧ Below w.heap.size w w'
theorem bits_call (f h l : Int) (w : World) (uh : U64 h) (ul : U64 l) (W : Nat) (hW : wid f = (W : Int)) (h0 : 0 < W) :
    Calls Try.prog 66 #[.int .u8 f, .agg #[.int .u64 h, .int .u64 l]] w (BitsLeft h l W w) := by
  refine (bits_any f h l w uh ul).mono ?_
  rintro e w' ⟨v, rfl, hown, hb⟩
  have eW : (wid f).toNat = W := by omega
  rw [eW] at hown
  obtain ⟨g, cap, rfl, h1, h2, h3, h4, h5, h6⟩ := own_open hown h0
  refine ⟨g, cap, rfl, h1, h2, h3, h4, fun j hj => ?_, h6, hb⟩
  rw [h5 j hj]
  simp [bitList, hj, hW]

end Go.Proofs.Ythfgdgcdicacpaa
