import Derived.Test.YthfgdgcdicacpaaRoB
import Derived.Test.YthfgdgcdicacpaaDigAll
import Derived.Test.YthfgdgcdicacpaaNumOpen
import Derived.Test.YthfgdgcdicacpaaLawKit
import Derived.OpenShut
import Derived.Deep.Slices
import Derived.Deep.Strs
import Derived.Lib.SmallJoins
namespace Go.Proofs.Ythfgdgcdicacpaa
namespace Ro
open Go.ChangeShapes Go.WideShapes Go.ChangeAt Go.RowKit Go.Joins Sha Adr
set_option linter.unusedVariables false
set_option linter.unusedSimpArgs false
set_option maxRecDepth 100000
section
variable {H : Type} {enc : TypeId × Value → H} {w : World}
end
end Ro
end Go.Proofs.Ythfgdgcdicacpaa
