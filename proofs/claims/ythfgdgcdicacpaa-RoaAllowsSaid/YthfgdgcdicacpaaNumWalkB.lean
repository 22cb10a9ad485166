/-
  THE WALKS over the arithmetic of package number, second part.
-/
import Derived.Test.YthfgdgcdicacpaaNumWalk
import Derived.Deep.RegionWith
import Derived.Deep.RegionHeld3
namespace Go.Proofs.Ythfgdgcdicacpaa
open Go.RowKit Adr
theorem div_u (h : Int) (k : Nat) (h0 : U64 h) : U64 (h / 2 ^ k) := by
  have hp : (0 : Int) < 2 ^ k := Int.pow_pos (by omega)
  have h1 : 0 ≤ h / 2 ^ k := Int.ediv_nonneg h0.1 (Int.le_of_lt hp)
  have h2 := Int.ediv_le_self (2 ^ k) h0.1
  unfold U64 at *
  omega
theorem bits_one (x : Int) (h : U64 x) : wrap64 (bits BinOp.and IntKind.u64 x 1) = x % 2 := by
  have h1 := Int.emod_nonneg x (show (2 : Int) ≠ 0 by omega)
  have h2 := Int.emod_lt_of_pos x (show (0 : Int) < 2 by omega)
  rw [and_one_u64 x h.1 (by have := h.2; omega)]
  exact IntWalk.wrap64_in _ ⟨by omega, by omega⟩
end Go.Proofs.Ythfgdgcdicacpaa
