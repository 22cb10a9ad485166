/-
  THE WALK over the schedule of a block.
-/
import Derived.Test.YtlbchefdkdngnaaDigA
namespace Go.Proofs.Ytlbchefdkdngnaa
open Go.RowKit Sha
set_option linter.unusedVariables false
set_option linter.unusedSimpArgs false
end Go.Proofs.Ytlbchefdkdngnaa
