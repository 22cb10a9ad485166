/-
  THE WALKS over layer 8: the program's Same at any two values. Written by wip/gen-oc22.py.
-/
import Derived.Test.YtcgffkkfeimifaaGreatOcRK
namespace Go.Proofs.YtcgffkkfeimifaaGreat
open Go.RowKit Sha Oc
set_option linter.unusedVariables false
set_option linter.unusedSimpArgs false
end Go.Proofs.YtcgffkkfeimifaaGreat
