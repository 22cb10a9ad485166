import Derived.Test.YtcgffkkfeimifaaGreatOcRK
namespace Go.Proofs.YtcgffkkfeimifaaGreat
open Go.RowKit Sha Oc
set_option linter.unusedVariables false
set_option linter.unusedSimpArgs false
end Go.Proofs.YtcgffkkfeimifaaGreat
