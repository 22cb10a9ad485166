/-
  THE WALK over layer 8's reference: ReadNum. Written by wip/gen-oc4.py.
-/
import Derived.Test.YthagoafcphaadaaOcG
namespace Go.Proofs.Ythagoafcphaadaa
open Go.RowKit Sha Oc
set_option linter.unusedVariables false
set_option linter.unusedSimpArgs false
end Go.Proofs.Ythagoafcphaadaa
