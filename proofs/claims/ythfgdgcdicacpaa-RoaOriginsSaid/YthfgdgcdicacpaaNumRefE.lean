import Derived.Test.YthfgdgcdicacpaaNumRefD
namespace Go.Proofs.Ythfgdgcdicacpaa
open Go.RowKit Adr
end Go.Proofs.Ythfgdgcdicacpaa
