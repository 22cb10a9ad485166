/-
  THE WALKS over Sum and Short.
-/
import Derived.Test.YtaompehgaibnkaaDigH
namespace Go.Proofs.Ytaompehgaibnkaa
open Go.RowKit Sha
set_option linter.unusedVariables false
set_option linter.unusedSimpArgs false
end Go.Proofs.Ytaompehgaibnkaa
