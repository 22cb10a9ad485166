/-
  LAYER 8: the frame of the laws: bytes that came in are opened.
-/
import Derived.Test.YthagoafcphaadaaOcRI
import Derived.Test.YthagoafcphaadaaOcQ
namespace Go.Proofs.Ythagoafcphaadaa
open Go.ChangeShapes Go.WideShapes Go.ChangeAt Go.RowKit Sha Oc
set_option linter.unusedVariables false
set_option linter.unusedSimpArgs false
set_option maxRecDepth 100000
section
variable {H : Type} {enc : TypeId × Value → H}
theorem open_bytes8 {W : World} {base : Nat} {v : Value} {d : DataW H} {p : List MemPlace} (hv : Value.okWide Try.prog W .any base 22 v) (h : DataW.Trod enc Try.prog W 0 (fun _ => true) true 22 v d p) (hw : ∀ n ∈ d.weights Try.prog 22, n ≤ 140737488355328) :
    ∃ (A : Option Addr) (l : List UInt8) (c : Nat), v = .slice A l.length c ∧ l.length ≤ c ∧ c ≤ 140737488355328 ∧ (A = none → c = 0) ∧ SrcAt A l W := by
  obtain ⟨a0, len, cap, rfl⟩ := okWide_slice Try.underlying22 hv
  obtain ⟨fuel, hf⟩ := h
  obtain ⟨A, l, c, he, h1, h2, h3, h4⟩ := bytes_of_trod hf hw
  refine ⟨A, l, c, ?_, h1, h2, h3, h4⟩
  have h5 : (Value.slice a0 len cap).cells.toList = [.slice A l.length c] := he
  simpa [Value.cells] using h5
end
end Go.Proofs.Ythagoafcphaadaa
