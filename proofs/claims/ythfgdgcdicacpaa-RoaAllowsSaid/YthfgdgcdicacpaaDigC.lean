/-
  THE WALK over one block: the registers after it.
-/
import Derived.Test.YthfgdgcdicacpaaDigB
namespace Go.Proofs.Ythfgdgcdicacpaa
open Go.RowKit Sha
set_option linter.unusedVariables false
set_option linter.unusedSimpArgs false
end Go.Proofs.Ythfgdgcdicacpaa
