/-
  THE WALKS over Sum and Short.
-/
import Derived.Test.YtlbchefdkdngnaaDigH
namespace Go.Proofs.Ytlbchefdkdngnaa
open Go.RowKit Sha
set_option linter.unusedVariables false
set_option linter.unusedSimpArgs false
end Go.Proofs.Ytlbchefdkdngnaa
