/-
  THE WALKS over Sum and Short.
-/
import Derived.Test.YtganaidlpnnajaaDigH
namespace Go.Proofs.Ytganaidlpnnajaa
open Go.RowKit Sha
set_option linter.unusedVariables false
set_option linter.unusedSimpArgs false
theorem slice_short (X : Nat) (w : World) : (Instr.sliceAt 58 (.pointer (some ⟨X, 0, none⟩)) none none none).run Try.prog w = .ok (.slice (some ⟨X, 0, none⟩) 16 16) w := by
  have ha : Try.prog.arrayLen 58 = 16 := by kernel_rfl
  have h := run_sliceAt_array_all (P := Try.prog) w 58 ⟨X, 0, none⟩ (by kernel_rfl)
  have hs : ∀ w, (sizeOf (Try.prog.elem 58)).run Try.prog w = .ok 1 w := fun _ => by kernel_rfl
  rw [h, hs, ha]
  rfl
end Go.Proofs.Ytganaidlpnnajaa
