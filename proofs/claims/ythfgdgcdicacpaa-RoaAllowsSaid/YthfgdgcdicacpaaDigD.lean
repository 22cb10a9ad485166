/-
  THE WALKS over the bytes of the registers, and over what is added to bytes.
-/
import Derived.Test.YthfgdgcdicacpaaDigC
namespace Go.Proofs.Ythfgdgcdicacpaa
open Go.RowKit Sha
set_option linter.unusedVariables false
set_option linter.unusedSimpArgs false
end Go.Proofs.Ythfgdgcdicacpaa
