/-
  THE WALK over the schedule of a block.
-/
import Derived.Test.YtganaidlpnnajaaDigA
namespace Go.Proofs.Ytganaidlpnnajaa
open Go.RowKit Sha
set_option linter.unusedVariables false
set_option linter.unusedSimpArgs false
end Go.Proofs.Ytganaidlpnnajaa
