import Derived.Test.YthfgdgcdicacpaaNumRef
import Derived.Test.YthfgdgcdicacpaaNumMathC
namespace Go.Proofs.Ythfgdgcdicacpaa
open Go.RowKit Adr
end Go.Proofs.Ythfgdgcdicacpaa
