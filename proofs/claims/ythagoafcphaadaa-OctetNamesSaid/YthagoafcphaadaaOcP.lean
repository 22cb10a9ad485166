/-
  THE WALK over layer 8: the law's spoil.
-/
import Derived.Test.YthagoafcphaadaaOcO
namespace Go.Proofs.Ythagoafcphaadaa
open Go.RowKit Sha Oc
set_option linter.unusedVariables false
set_option linter.unusedSimpArgs false
end Go.Proofs.Ythagoafcphaadaa
