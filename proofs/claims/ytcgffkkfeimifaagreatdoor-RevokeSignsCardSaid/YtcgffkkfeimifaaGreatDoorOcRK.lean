import Derived.Test.YtcgffkkfeimifaaGreatDoorOcRFJ
namespace Go.Proofs.YtcgffkkfeimifaaGreatDoor
open Go.RowKit Sha Oc
set_option linter.unusedVariables false
set_option linter.unusedSimpArgs false
end Go.Proofs.YtcgffkkfeimifaaGreatDoor
