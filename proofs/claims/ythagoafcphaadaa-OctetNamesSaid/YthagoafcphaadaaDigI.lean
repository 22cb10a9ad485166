/-
  THE WALKS over Sum and Short.
-/
import Derived.Test.YthagoafcphaadaaDigH
namespace Go.Proofs.Ythagoafcphaadaa
open Go.RowKit Sha
set_option linter.unusedVariables false
set_option linter.unusedSimpArgs false
end Go.Proofs.Ythagoafcphaadaa
