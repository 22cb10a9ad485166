/-
  THE WALK over what is added to bytes.
-/
import Derived.Test.YthfgdgcdicacpaaDigD
namespace Go.Proofs.Ythfgdgcdicacpaa
open Go.RowKit Sha
set_option linter.unusedVariables false
set_option linter.unusedSimpArgs false
theorem be8_at (n j : Nat) (hj : j < 8) : ((8 * (n : Int)) / 2 ^ (56 - 8 * j)) % 256 = (((be8 (8 * n)).getD j 0).toNat : Int) := by
  have h : ((be8 (8 * n)).getD j 0).toNat = 8 * n / 2 ^ (56 - 8 * j) % 256 := by
    obtain rfl | rfl | rfl | rfl | rfl | rfl | rfl | rfl : j = 0 ∨ j = 1 ∨ j = 2 ∨ j = 3 ∨ j = 4 ∨ j = 5 ∨ j = 6 ∨ j = 7 := by omega
    all_goals (unfold be8; simp [UInt8.toNat_ofNat'])
  rw [h, Int.natCast_emod, Int.natCast_ediv, Int.natCast_pow, Int.natCast_mul]
  rfl
theorem be8_len (n : Nat) : (be8 n).length = 8 := rfl
/-- a list of bytes as values -/
def bvals (l : List UInt8) : List Value := l.map fun x => .int .u8 (x.toNat : Int)
theorem bvals_len (l : List UInt8) : (bvals l).length = l.length := by simp [bvals]
theorem bvals_app (a b : List UInt8) : bvals (a ++ b) = bvals a ++ bvals b := by simp [bvals]
/-- the first bytes of an ending -/
def endK (n j : Nat) : List UInt8 := 128 :: (List.replicate ((119 - n % 64) % 64) 0 ++ (be8 (8 * n)).take j)
theorem endK_len (n j : Nat) (hj : j ≤ 8) : (endK n j).length = 1 + (119 - n % 64) % 64 + j := by
  unfold endK
  simp [be8_len]
  omega
theorem endK_step (n j : Nat) (hj : j < 8) : endK n (j + 1) = endK n j ++ [(be8 (8 * n)).getD j 0] := by
  unfold endK
  rw [List.take_succ_eq_append_getElem (by rw [be8_len]; exact hj)]
  have h : (be8 (8 * n))[j]?.getD 0 = (be8 (8 * n))[j]'(by rw [be8_len]; exact hj) := by rw [List.getElem?_eq_getElem]; rfl
  rw [List.getD_eq_getElem?_getD, h]
  simp
theorem endK_all (n : Nat) : endK n 8 = ending n := by
  unfold endK ending
  rw [List.take_of_length_le (by rw [be8_len]; omega)]
theorem own_step' {B : Nat} {w wr w1 : World} {o : Obj} {e size n : Nat} {v : Value} {xs : List Value} (hown : wr.ownsRow B e size v n xs) (hg : (wr.alloc o).grownBy w1 v.ownBlock) (hbel : Below B w wr) (hsz : B ≤ wr.heap.size) :
    Below B w w1 ∧ B ≤ w1.heap.size := by
  have hlt := hown.lt
  have h1 : Below B w (wr.alloc o) := hbel.alloc hsz o
  refine ⟨h1.grown hg (by simp; omega) (fun k hk => (hlt k hk).1), ?_⟩
  have := hg.size
  simp at this
  omega
theorem own_cells1 {w : World} {base : Nat} {e : TypeId} {v : Value} {n : Nat} {xs : List Value} (h : w.ownsRow base e 1 v n xs) (hn : 0 < n) :
    ∃ g cap, v = .slice (some ⟨g, 0, none⟩) n cap ∧ base ≤ g ∧ g < w.heap.size ∧ n ≤ cap ∧ cap ≤ maxLen ∧ ∀ (j : Nat) x, xs[j]? = some x → w.cell? ⟨g, j, none⟩ = some x := by
  obtain ⟨hl, h | ⟨g, cap, cur, rfl, hb, hg, hnc, hcm, hcs, ht⟩⟩ := h
  · omega
  · have hlt : g < w.heap.size := (Array.getElem?_eq_some_iff.1 hg).1
    refine ⟨g, cap, rfl, hb, hlt, hnc, hcm, fun j x hj => ?_⟩
    have hjn : j < n * 1 := by have := (List.getElem?_eq_some_iff.1 hj).1; omega
    have h1 : cur.toList[j]? = some x := by
      have h2 : (cur.toList.take (n * 1))[j]? = cur.toList[j]? := by rw [List.getElem?_take]; rw [if_pos hjn]
      rw [← h2, ht]
      exact hj
    simp only [World.cell?, hg]
    simpa using h1
theorem cells_one (W : World) (x : Value) (t : TypeId) : ∀ (j : Nat) u, [x][j]? = some u → (W.alloc (.cells #[x] t)).cell? ((⟨W.heap.size, 0, none⟩ : Addr).add j) = some u
  | 0, u, h => by
    simp at h
    subst h
    simp [Addr.add]
  | j + 1, u, h => by simp at h
theorem made73 : madeCells (Value.int .u8 0).cells (Int.toNat 73 * 1) = bcells (List.replicate 73 0) := by
  apply Array.ext'
  exact (toList_madeCells_one (.int .u8 0) 73).trans rfl
end Go.Proofs.Ythfgdgcdicacpaa
