/-
  THE WALK over the schedule of a block.
-/
import Derived.Test.YtaompehgaibnkaaDigA
namespace Go.Proofs.Ytaompehgaibnkaa
open Go.RowKit Sha
set_option linter.unusedVariables false
set_option linter.unusedSimpArgs false
end Go.Proofs.Ytaompehgaibnkaa
