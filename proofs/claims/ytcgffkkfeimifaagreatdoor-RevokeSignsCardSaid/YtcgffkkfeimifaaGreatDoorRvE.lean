import Derived.Test.YtcgffkkfeimifaaGreatDoorRvD
import Derived.Deep.RegionHeld3
namespace Go.Proofs.YtcgffkkfeimifaaGreatDoor
namespace Sg
open Go.RowKit Sha Oc
set_option linter.unusedVariables false
set_option linter.unusedSimpArgs false
theorem sz3s (a b c : Value) : (Tryz.prog.info? 30).map (·.size) = some ([a, b, c] : List Value).length := by
 show _ = some 3
 kernel_rfl
theorem val_small {o : Oct} {n : Nat} (h : (enc o).length ≤ n) : cnt o ≤ n ∧ tot o ≤ n := by
 have := cnt_enc o
 have := tot_enc o
 omega
end Sg
end Go.Proofs.YtcgffkkfeimifaaGreatDoor
