import Derived.Test.YthfgdgcdicacpaaNumWalk
import Derived.Deep.RegionWith
import Derived.Deep.RegionHeld3
namespace Go.Proofs.Ythfgdgcdicacpaa
open Go.RowKit Adr
end Go.Proofs.Ythfgdgcdicacpaa
