import Derived.Test.YtcgffkkfeimifaaGreatDoorSgJP
import Derived.Deep.RegionHeld3
namespace Go.Proofs.YtcgffkkfeimifaaGreatDoor
namespace Sg
open Go.RowKit Sha Oc
set_option linter.unusedVariables false
set_option linter.unusedSimpArgs false
end Sg
end Go.Proofs.YtcgffkkfeimifaaGreatDoor
