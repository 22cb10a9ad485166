import Derived.Test.YthfgdgcdicacpaaRoC
import Derived.Test.YthfgdgcdicacpaaNumRefF
namespace Go.Proofs.Ythfgdgcdicacpaa
namespace Ro
open Go.RowKit Sha Adr
set_option linter.unusedVariables false
set_option linter.unusedSimpArgs false
theorem sz4p (a b c d : Value) : (Try.prog.info? 44).map (·.size) = some ([a, b, c, d] : List Value).length := by
 show _ = some 4
 kernel_rfl
theorem c21 {V : World} {M : Nat} {a b : Value} {T : TypeId} (H : V.heap[M]? = some (.cells #[a, b] T (0, 0))) : V.cell? ⟨M, 1, none⟩ = some b := cell_of_row _ _ _ _ _ _ H
end Ro
end Go.Proofs.Ythfgdgcdicacpaa
