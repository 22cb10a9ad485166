/-
  THE WALKS over the law's own string of a digest, and over the chapter's examples.
-/
import Derived.Test.YthfgdgcdicacpaaDigL
import Derived.Lib.SlBytesConst
namespace Go.Proofs.Ythfgdgcdicacpaa
open Go.RowKit Sha
set_option linter.unusedVariables false
set_option linter.unusedSimpArgs false
theorem srcAt_row {w : World} {g : Nat} {l : List UInt8} {t : TypeId} {fr : Nat × Nat} (h : w.heap[g]? = some (.cells (bcells l) t fr)) : SrcAt (some ⟨g, 0, none⟩) l w := fun _ =>
  ⟨g, 0, rfl, fun j x hj => by
    obtain ⟨hlt, e⟩ := List.getElem?_eq_some_iff.1 hj
    rw [Nat.zero_add, cell_of_row w g j _ _ _ h, bcells_at _ _ hlt, List.getD_eq_getElem?_getD, hj]
    rfl⟩
theorem sha_len (l : List UInt8) : (sha l).length = 32 := hp_len _ _
/-- the chapter's examples, closed -/
def x0 : ByteArray := bs (hexS (sha []))
def x3 : ByteArray := bs (hexS (sha [97, 98, 99]))
theorem x0_size : x0.size = 64 := by unfold x0; rw [sha_nil]; rfl
theorem x3_size : x3.size = 64 := by unfold x3; rw [sha_abc]; rfl
theorem x0_head : ((x0.extract 0 16).toList == [101, 51, 98, 48, 99, 52, 52, 50, 57, 56, 102, 99, 49, 99, 49, 52]) = true := by unfold x0; rw [sha_nil]; decide +kernel
theorem x3_head : ((x3.extract 0 16).toList == [98, 97, 55, 56, 49, 54, 98, 102, 56, 102, 48, 49, 99, 102, 101, 97]) = true := by unfold x3; rw [sha_abc]; decide +kernel
theorem x_hex : bs (hexS [0, 255, 16]) = ⟨#[48, 48, 102, 102, 49, 48]⟩ := by
  have h : hexS [0, 255, 16] = [48, 48, 102, 102, 49, 48] := by decide +kernel
  rw [h]; rfl
theorem x_b64 : bs (b64S [0, 255, 16]) = ⟨#[65, 80, 56, 81]⟩ := by
  have h : b64S [0, 255, 16] = [65, 80, 56, 81] := by decide +kernel
  rw [h]; rfl
theorem conv_const (C : Array Value) (n : Nat) (V : World) : (convert 26 26 (.slice (some ⟨V.heap.size, 0, none⟩) n n)).run Try.prog (V.alloc (.cells C 5)) = .ok (.slice (some ⟨V.heap.size, 0, none⟩) n n) (V.alloc (.cells C 5 (C.size, C.size + 1))) :=
  Lib.run_convert_bytes_const V 26 5 C n n Try.underlying26 Try.underlying5
end Go.Proofs.Ythfgdgcdicacpaa
