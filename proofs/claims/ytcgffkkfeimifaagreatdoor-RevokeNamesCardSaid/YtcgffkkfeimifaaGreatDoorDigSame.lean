import Derived.Test.YtcgffkkfeimifaaGreatDoorDigAll
namespace Go.Proofs.YtcgffkkfeimifaaGreatDoor
open Go.RowKit Sha
set_option linter.unusedVariables false
set_option linter.unusedSimpArgs false
end Go.Proofs.YtcgffkkfeimifaaGreatDoor
