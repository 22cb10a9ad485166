/-
  THE WALK over the reference of layer 9: Parse.
-/
import Derived.Test.YthagoafcphaadaaDoorLocRPB
import Derived.Test.YthagoafcphaadaaDoorLocRPC
namespace Go.Proofs.YthagoafcphaadaaDoor
open Go.RowKit Lo
set_option linter.unusedVariables false
set_option linter.unusedSimpArgs false
theorem rparse_any (s : List UInt8) (hs : s.length < 4294967281) (w : World) :
    Calls Tryd.prog 17 #[.string (str s)] w (PPost s w) := by
  by_cases h9 : 9 ≤ s.length
  · by_cases h200 : s.length ≤ 200
    · by_cases h1 : s.take 8 = pre 1
      · exact rparse_s1 s w h9 h200 h1
      · by_cases h2 : s.take 8 = pre 2
        · exact rparse_s2 s w h9 h200 h2
        · exact rparse_else s w h9 h200 h1 h2
    · exact rparse_long s w h200 hs
  · exact rparse_short s w h9
end Go.Proofs.YthagoafcphaadaaDoor
