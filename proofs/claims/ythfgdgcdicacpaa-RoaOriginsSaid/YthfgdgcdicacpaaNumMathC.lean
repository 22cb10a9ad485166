import Derived.Test.YthfgdgcdicacpaaNumMathB
namespace Go.Proofs.Ythfgdgcdicacpaa
namespace Adr
end Adr
end Go.Proofs.Ythfgdgcdicacpaa
