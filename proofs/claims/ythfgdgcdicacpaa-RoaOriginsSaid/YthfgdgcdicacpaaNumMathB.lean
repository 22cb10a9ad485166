import Derived.Test.YthfgdgcdicacpaaNumMath
namespace Go.Proofs.Ythfgdgcdicacpaa
namespace Adr
def num (H L : Nat) : Nat := H * 2 ^ 64 + L
end Adr
end Go.Proofs.Ythfgdgcdicacpaa
