/-
  THE WALKS over Sum and Short.
-/
import Derived.Test.YthfgdgcdicacpaaDigH
namespace Go.Proofs.Ythfgdgcdicacpaa
open Go.RowKit Sha
set_option linter.unusedVariables false
set_option linter.unusedSimpArgs false
end Go.Proofs.Ythfgdgcdicacpaa
