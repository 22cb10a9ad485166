/-
  THE WALKS over the bytes of the registers, and over what is added to bytes.
-/
import Derived.Test.YtganaidlpnnajaaDigC
namespace Go.Proofs.Ytganaidlpnnajaa
open Go.RowKit Sha
set_option linter.unusedVariables false
set_option linter.unusedSimpArgs false
end Go.Proofs.Ytganaidlpnnajaa
