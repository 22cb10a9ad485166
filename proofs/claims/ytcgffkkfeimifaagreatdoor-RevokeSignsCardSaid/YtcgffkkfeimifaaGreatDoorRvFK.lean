import Derived.Test.YtcgffkkfeimifaaGreatDoorRvM
import Derived.Test.YtcgffkkfeimifaaGreatDoorRvB
import Derived.Test.YtcgffkkfeimifaaGreatDoorSgJP
import Derived.Test.YtcgffkkfeimifaaGreatDoorOcCI
import Derived.Deep.RegionHeld3
namespace Go.Proofs.YtcgffkkfeimifaaGreatDoor
namespace Sg
open Go.RowKit Sha Oc
set_option linter.unusedVariables false
set_option linter.unusedSimpArgs false
end Sg
end Go.Proofs.YtcgffkkfeimifaaGreatDoor
namespace Go.Proofs.YtcgffkkfeimifaaGreatDoor
namespace Sg
open Go.RowKit Sha Oc
set_option linter.unusedVariables false
set_option linter.unusedSimpArgs false
end Sg
end Go.Proofs.YtcgffkkfeimifaaGreatDoor
namespace Go.Proofs.YtcgffkkfeimifaaGreatDoor
namespace Sg
open Go.RowKit Sha Oc
set_option linter.unusedVariables false
set_option linter.unusedSimpArgs false
theorem shs_nil {ls : List (List UInt8)} (h : ls = []) (A : Option Addr) (w : World) : Shs A ls w := by
 subst h
 exact ⟨fun i l hi => by simp at hi, fun l hl => by simp at hl⟩
end Sg
end Go.Proofs.YtcgffkkfeimifaaGreatDoor
