/-
  THE WALKS over Sum and Short.
-/
import Derived.Test.YtjgebpgdiinmbaaDigH
namespace Go.Proofs.Ytjgebpgdiinmbaa
open Go.RowKit Sha
set_option linter.unusedVariables false
set_option linter.unusedSimpArgs false
end Go.Proofs.Ytjgebpgdiinmbaa
