/-
  THE WALKS over the reference of layer 1: Cut.
-/
import Derived.Test.YthfgdgcdicacpaaNumRefD
namespace Go.Proofs.Ythfgdgcdicacpaa
open Go.RowKit Adr
end Go.Proofs.Ythfgdgcdicacpaa
