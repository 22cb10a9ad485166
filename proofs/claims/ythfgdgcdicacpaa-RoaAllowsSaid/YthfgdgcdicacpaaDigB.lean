/-
  THE WALK over the schedule of a block.
-/
import Derived.Test.YthfgdgcdicacpaaDigA
namespace Go.Proofs.Ythfgdgcdicacpaa
open Go.RowKit Sha
set_option linter.unusedVariables false
set_option linter.unusedSimpArgs false
end Go.Proofs.Ythfgdgcdicacpaa
