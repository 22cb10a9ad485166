/-
  THE WALKS over the bytes of the registers, and over what is added to bytes.
-/
import Derived.Test.YtaompehgaibnkaaDigC
namespace Go.Proofs.Ytaompehgaibnkaa
open Go.RowKit Sha
set_option linter.unusedVariables false
set_option linter.unusedSimpArgs false
end Go.Proofs.Ytaompehgaibnkaa
