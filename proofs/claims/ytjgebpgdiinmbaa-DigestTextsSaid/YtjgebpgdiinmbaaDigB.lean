/-
  THE WALK over the schedule of a block.
-/
import Derived.Test.YtjgebpgdiinmbaaDigA
namespace Go.Proofs.Ytjgebpgdiinmbaa
open Go.RowKit Sha
set_option linter.unusedVariables false
set_option linter.unusedSimpArgs false
end Go.Proofs.Ytjgebpgdiinmbaa
