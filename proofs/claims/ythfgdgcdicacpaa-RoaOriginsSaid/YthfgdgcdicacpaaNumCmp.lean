import Derived.Test.YthfgdgcdicacpaaNumWalk
namespace Go.Proofs.Ythfgdgcdicacpaa
open Go.RowKit Adr
end Go.Proofs.Ythfgdgcdicacpaa
