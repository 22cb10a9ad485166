/-
  THE WALK over one block: the registers after it.
-/
import Derived.Test.YtganaidlpnnajaaDigB
namespace Go.Proofs.Ytganaidlpnnajaa
open Go.RowKit Sha
set_option linter.unusedVariables false
set_option linter.unusedSimpArgs false
end Go.Proofs.Ytganaidlpnnajaa
