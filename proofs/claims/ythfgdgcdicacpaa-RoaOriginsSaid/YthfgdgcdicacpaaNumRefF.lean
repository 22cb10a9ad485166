import Derived.Test.YthfgdgcdicacpaaNumRefE
namespace Go.Proofs.Ythfgdgcdicacpaa
open Go.RowKit Adr
end Go.Proofs.Ythfgdgcdicacpaa
