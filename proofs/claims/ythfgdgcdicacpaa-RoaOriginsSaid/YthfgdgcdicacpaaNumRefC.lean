import Derived.Test.YthfgdgcdicacpaaNumRefB
namespace Go.Proofs.Ythfgdgcdicacpaa
open Go.RowKit Adr
end Go.Proofs.Ythfgdgcdicacpaa
