/-
  THE WALK over layer 8's reference: Check. Written by wip/gen-oc14.py.
-/
import Derived.Test.YthagoafcphaadaaOcU
namespace Go.Proofs.Ythagoafcphaadaa
open Go.RowKit Sha Oc
set_option linter.unusedVariables false
set_option linter.unusedSimpArgs false
/-- what Check answers -/
def ckV (o : Oct) : Int := if 4000 < cnt o ∨ 12 < dep o then 4 else if shpB o = false then 8 else if 65536 < siz o then 4 else 0
end Go.Proofs.Ythagoafcphaadaa
