import Derived.Test.YthfgdgcdicacpaaNumRefC
import Derived.StillTailTactics
import Derived.BigRegion
namespace Go.Proofs.Ythfgdgcdicacpaa
open Go.RowKit Adr
set_option maxRecDepth 100000
end Go.Proofs.Ythfgdgcdicacpaa
