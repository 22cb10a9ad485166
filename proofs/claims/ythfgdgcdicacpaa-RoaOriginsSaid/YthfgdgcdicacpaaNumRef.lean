import Derived.Test.YthfgdgcdicacpaaNumWalkD
import Derived.Test.YthfgdgcdicacpaaNumCmp
namespace Go.Proofs.Ythfgdgcdicacpaa
open Go.RowKit Adr
end Go.Proofs.Ythfgdgcdicacpaa
