/-
  THE WALK over layer 8's reference: Length. Written by wip/gen-oc12.py.
-/
import Derived.Test.YthagoafcphaadaaOcS
namespace Go.Proofs.Ythagoafcphaadaa
open Go.RowKit Sha Oc
set_option linter.unusedVariables false
set_option linter.unusedSimpArgs false
theorem nat8 (k : Nat) (z : Int) (h : (k % 256 : Nat) = z) : (((UInt8.ofNat k).toNat : Nat) : Int) = z := by rw [UInt8.toNat_ofNat']; exact h
end Go.Proofs.Ythagoafcphaadaa
