/-
  THE WALK over one block: the registers after it.
-/
import Derived.Test.YtjgebpgdiinmbaaDigB
namespace Go.Proofs.Ytjgebpgdiinmbaa
open Go.RowKit Sha
set_option linter.unusedVariables false
set_option linter.unusedSimpArgs false
end Go.Proofs.Ytjgebpgdiinmbaa
