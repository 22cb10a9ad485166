/-
  THE WALKS over the reference of layer 1: Addr, Cut.
-/
import Derived.Test.YthfgdgcdicacpaaNumRefC
import Derived.StillTailTactics
import Derived.BigRegion
namespace Go.Proofs.Ythfgdgcdicacpaa
open Go.RowKit Adr
set_option maxRecDepth 100000
def hiP (N k : Nat) : Int := ((N / 2 ^ k / 2 ^ 64 : Nat) : Int)
def loP (N k : Nat) : Int := ((N / 2 ^ k % 2 ^ 64 : Nat) : Int)
def biP (N k : Nat) : Int := ((N / 2 ^ k % 2 : Nat) : Int)
theorem hiP_nn (N k : Nat) : 0 ≤ hiP N k := Int.natCast_nonneg _
theorem loP_nn (N k : Nat) : 0 ≤ loP N k := Int.natCast_nonneg _
theorem biP_nn (N k : Nat) : 0 ≤ biP N k := Int.natCast_nonneg _
theorem cellR_same {w : World} {a : Addr} {v u : Value} (h : w.cell? a = some u) : (w.setCell a v).cell? a = some v := World.cell?_setCell_same (h := h) ..
theorem cellR_far {w : World} {a b : Addr} {v u : Value} (h : w.cell? b = some u) (hne : a ≠ b) : (w.setCell a v).cell? b = some u := by
  rw [World.cell?_setCell_other (h := hne)]; exact h
theorem set_same {w : World} {a : Addr} {v u : Value} (h : w.cell? a = some u) : (w.setCell a v).drew.cell? a = some v := by
  rw [World.cell?_drew]; exact World.cell?_setCell_same (h := h) ..
theorem set_far {w : World} {a b : Addr} {v u : Value} (h : w.cell? b = some u) (hne : a ≠ b) : (w.setCell a v).drew.cell? b = some u := by
  rw [World.cell?_drew, World.cell?_setCell_other (h := hne)]; exact h
theorem power_still (n : Int) (w : World) (h0 : 0 ≤ n) (h1 : n ≤ 63) (p : Int) (hp : (2 : Int) ^ n.toNat = p) :
    Calls Try.prog 91 #[.int .i64 n] w fun e w' => e = .returned (.int .u64 p) ∧ w' = w :=
  (power_call n w h0 h1 p hp).mono fun _ _ ⟨a, b⟩ => ⟨a, b.symm⟩
theorem cut_final {h l : Int} (uh : U64 h) (ul : U64 l) (f : Int) (c : ca f h l = true) (W n : Nat) (hW : wid f = (W : Int)) (hw : W ≤ 128) (hn : n ≤ W) :
    ∃ N : Nat, N < 2 ^ W ∧ N < 2 ^ 128 ∧ (∀ j, j < W → biP N (W - 1 - j) = if j < n then bt h l ((W : Int) - 1 - j) else 0) ∧ hiP N 0 = clrH h ((W : Int) - n) ∧ loP N 0 = clrL l ((W : Int) - n) := by
  have hb := fun j hj => cut_bits uh ul W n j hn hj
  obtain ⟨H, rfl, hH⟩ := u64_nat uh
  obtain ⟨L, rfl, hL⟩ := u64_nat ul
  obtain ⟨H', L', e1, e2, hL', e3⟩ := clr_num H L (W - n) hL
  have eWn : ((W : Int) - n) = ((W - n : Nat) : Int) := by omega
  have lt1 := ca_lt hH hL c
  have eW : (wid f).toNat = W := by omega
  rw [eW] at lt1
  have lt2 : num H' L' < 2 ^ W := by rw [e3]; exact Nat.lt_of_le_of_lt (Nat.div_mul_le_self _ _) lt1
  refine ⟨num H' L', lt2, Nat.lt_of_lt_of_le lt2 (Nat.pow_le_pow_right (by omega) hw), fun j hj => ?_, ?_, ?_⟩
  · rw [← hb j hj, eWn, e1, e2, bt_at H' L' W j hL' hj]
    rfl
  · rw [eWn, e1]
    unfold hiP
    rw [Nat.pow_zero, Nat.div_one, num_div H' L' hL']
  · rw [eWn, e2]
    unfold loP
    rw [Nat.pow_zero, Nat.div_one, num_mod H' L' hL']
end Go.Proofs.Ythfgdgcdicacpaa
