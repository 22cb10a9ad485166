/-
  The values of NumberNames: what package number's functions answer at them.
-/
import Derived.Test.YtjngfieggacpiaaDoorNamesMath
import Derived.Test.YtjngfieggacpiaaDoorNameD
namespace Go.Proofs.YtjngfieggacpiaaDoor
open Go.RowKit Adr
set_option linter.unusedVariables false
theorem nn_lit {w : World} {l : List Value} {j : Nat} {x : Value} (t : TypeId) (h : l[j]? = some x) : (w.alloc (.cells l.toArray t)).cell? ⟨w.heap.size, j, none⟩ = some x := by
  rw [World.cell?_alloc_new]
  simpa using h
/-- the first list's addresses, cell by cell -/
def nnCells : List Value := nmSix.flatMap fun a => [.int .u64 a.1, .int .u64 a.2]
theorem nnCells_at : ∀ k, k < 10 → nnCells[k * 2]? = some (.int .u64 ((nmSix.getD k (0, 0)).1 : Nat)) ∧ nnCells[k * 2 + 1]? = some (.int .u64 ((nmSix.getD k (0, 0)).2 : Nat))
  | 0, _ => ⟨rfl, rfl⟩ | 1, _ => ⟨rfl, rfl⟩ | 2, _ => ⟨rfl, rfl⟩ | 3, _ => ⟨rfl, rfl⟩ | 4, _ => ⟨rfl, rfl⟩ | 5, _ => ⟨rfl, rfl⟩ | 6, _ => ⟨rfl, rfl⟩ | 7, _ => ⟨rfl, rfl⟩ | 8, _ => ⟨rfl, rfl⟩ | 9, _ => ⟨rfl, rfl⟩
  | n + 10, h => by omega
theorem nn_ok : ∀ k, k < 10 → str (addrS 6 (nmSix.getD k (0, 0)).1 (nmSix.getD k (0, 0)).2) = nmText.getD k ⟨#[]⟩ ∧ (apF (nmText.getD k ⟨#[]⟩) = 6 ∧ apH (nmText.getD k ⟨#[]⟩) = (nmSix.getD k (0, 0)).1 ∧ apL (nmText.getD k ⟨#[]⟩) = (nmSix.getD k (0, 0)).2 ∧ apE (nmText.getD k ⟨#[]⟩) = 0) ∧ (nmSix.getD k (0, 0)).1 < 18446744073709551616 ∧ (nmSix.getD k (0, 0)).2 < 18446744073709551616 := by
  have h : ((List.range 10).all fun k => decide (str (addrS 6 (nmSix.getD k (0, 0)).1 (nmSix.getD k (0, 0)).2) = nmText.getD k ⟨#[]⟩) && (decide (apF (nmText.getD k ⟨#[]⟩) = 6) && decide (apH (nmText.getD k ⟨#[]⟩) = (nmSix.getD k (0, 0)).1) && decide (apL (nmText.getD k ⟨#[]⟩) = (nmSix.getD k (0, 0)).2) && decide (apE (nmText.getD k ⟨#[]⟩) = 0)) && (decide ((nmSix.getD k (0, 0)).1 < 18446744073709551616) && decide ((nmSix.getD k (0, 0)).2 < 18446744073709551616))) = true := by decide +kernel
  intro k hk
  have := List.all_eq_true.1 h k (List.mem_range.2 hk)
  simp only [Bool.and_eq_true, decide_eq_true_eq] at this
  obtain ⟨⟨a, ⟨⟨b, c⟩, d⟩, e⟩, f, g⟩ := this
  exact ⟨a, ⟨b, c, d, e⟩, f, g⟩
/-- one of the first lists' pairs: written, and read back -/
theorem nn_six (k : Nat) (hk : k < 10) : ∃ (H L : Int) (s : ByteArray), nnCells[k * 2]? = some (.int .u64 H) ∧ nnCells[k * 2 + 1]? = some (.int .u64 L) ∧ nmText[k]? = some s ∧
    (∀ w, Env true w → Calls Tryd.prog 5 #[.int .u8 6, .agg #[.int .u64 H, .int .u64 L]] w fun e w' => e = .returned (.tuple #[.string s, .int .i64 0]) ∧ Below w.heap.size w w') ∧
    (∀ w, Env true w → Calls Tryd.prog 6 #[.string s] w fun e w' => e = .returned (.tuple #[.int .u8 6, .agg #[.int .u64 H, .int .u64 L], .int .i64 0]) ∧ Below w.heap.size w w') := by
  obtain ⟨c0, c1⟩ := nnCells_at k hk
  obtain ⟨h1, ⟨h2, h3, h4, h5⟩, h6, h7⟩ := nn_ok k hk
  refine ⟨_, _, nmText.getD k ⟨#[]⟩, c0, c1, ?_, fun w env => text6 _ _ w env ⟨h6, h7⟩ _ h1, fun w env => ?_⟩
  · have hl : k < nmText.length := hk
    rw [List.getElem?_eq_getElem hl, List.getD_eq_getElem?_getD, List.getElem?_eq_getElem hl]
    rfl
  · have h := ap_any (nmText.getD k ⟨#[]⟩) w env
    rw [h2, h3, h4, h5] at h
    exact h
theorem nnBad_all : (nmBad.all fun s => decide (apE s = 12)) = true := by decide +kernel
theorem nn_bad (s : ByteArray) (h : s ∈ nmBad) : ∃ f a b : Int, ∀ w, Env true w → Calls Tryd.prog 6 #[.string s] w fun e w' => e = .returned (.tuple #[.int .u8 f, .agg #[.int .u64 a, .int .u64 b], .int .i64 12]) ∧ Below w.heap.size w w' := by
  have h1 := List.all_eq_true.1 nnBad_all s h
  have h2 : apE s = 12 := by simpa using h1
  refine ⟨apF s, apH s, apL s, fun w env => ?_⟩
  have h3 := ap_any s w env
  rw [h2] at h3
  exact h3
theorem nnPBad_all : (nmPfxBad.all fun s => decide (paE s = 12) && decide (s.size ≤ 1000)) = true := by decide +kernel
theorem nn_pbad (s : ByteArray) (h : s ∈ nmPfxBad) : ∃ f a b n : Int, ∀ w, Env true w → Calls Tryd.prog 7 #[.string s] w fun e w' => e = .returned (.tuple #[.agg #[.int .u8 f, .int .u64 a, .int .u64 b, .int .i64 n], .int .i64 12]) ∧ Below w.heap.size w w' := by
  have h1 := List.all_eq_true.1 nnPBad_all s h
  simp only [Bool.and_eq_true, decide_eq_true_eq] at h1
  refine ⟨paF s, paH s, paL s, paN s, fun w env => ?_⟩
  have h3 := pa_any s w env h1.2
  rw [h1.1] at h3
  exact h3
theorem nnABad_all : (nmAsBad.all fun s => !(asNum s).isSome && decide (s.size ≤ 1000000)) = true := by decide +kernel
theorem nn_abad (s : ByteArray) (h : s ∈ nmAsBad) : ∃ n : Int, ∀ w, Env true w → Calls Tryd.prog 8 #[.string s] w fun e w' => e = .returned (.tuple #[.int .u32 n, .int .i64 12]) ∧ Below w.heap.size w w' := by
  have h1 := List.all_eq_true.1 nnABad_all s h
  simp only [Bool.and_eq_true, Bool.not_eq_true', decide_eq_true_eq] at h1
  refine ⟨((asNum s).getD 0 : Nat), fun w env => ?_⟩
  have h3 := as_parse s w env h1.2
  rw [h1.1] at h3
  exact h3
theorem nn_as1 (w : World) (env : Env true w) : Calls Tryd.prog 8 #[.string ⟨#[65, 83, 52, 50, 57, 52, 57, 54, 55, 50, 57, 53]⟩] w fun e w' => e = .returned (.tuple #[.int .u32 4294967295, .int .i64 0]) ∧ Below w.heap.size w w' := by
  have h := as_parse ⟨#[65, 83, 52, 50, 57, 52, 57, 54, 55, 50, 57, 53]⟩ w env (by decide)
  rw [show asNum ⟨#[65, 83, 52, 50, 57, 52, 57, 54, 55, 50, 57, 53]⟩ = some 4294967295 by decide +kernel] at h
  exact h
theorem nn_as2 (w : World) (env : Env true w) : Calls Tryd.prog 8 #[.string ⟨#[65, 83, 48]⟩] w fun e w' => e = .returned (.tuple #[.int .u32 0, .int .i64 0]) ∧ Below w.heap.size w w' := by
  have h := as_parse ⟨#[65, 83, 48]⟩ w env (by decide)
  rw [show asNum ⟨#[65, 83, 48]⟩ = some 0 by decide +kernel] at h
  exact h
theorem nn_b1 (w : World) : Calls Tryd.prog 9 #[.int .u8 4, .agg #[.int .u64 0, .int .u64 0], .int .i64 32] w fun e w' => e = .returned (.tuple #[.int .i64 0, .int .i64 2]) ∧ Below w.heap.size w w' := by
  have h := bit_any 4 0 0 32 w ⟨by omega, by omega⟩ ⟨by omega, by omega⟩
  rw [show bitV 4 0 0 32 = 0 by decide +kernel, show bitE 4 0 0 32 = 2 by decide +kernel] at h
  exact h
theorem nn_b2 (w : World) : Calls Tryd.prog 9 #[.int .u8 5, .agg #[.int .u64 0, .int .u64 0], .int .i64 0] w fun e w' => e = .returned (.tuple #[.int .i64 0, .int .i64 2]) ∧ Below w.heap.size w w' := by
  have h := bit_any 5 0 0 0 w ⟨by omega, by omega⟩ ⟨by omega, by omega⟩
  rw [show bitV 5 0 0 0 = 0 by decide +kernel, show bitE 5 0 0 0 = 2 by decide +kernel] at h
  exact h
theorem nn_b3 (w : World) : Calls Tryd.prog 9 #[.int .u8 4, .agg #[.int .u64 0, .int .u64 4294967296], .int .i64 0] w fun e w' => e = .returned (.tuple #[.int .i64 0, .int .i64 2]) ∧ Below w.heap.size w w' := by
  have h := bit_any 4 0 4294967296 0 w ⟨by omega, by omega⟩ ⟨by omega, by omega⟩
  rw [show bitV 4 0 4294967296 0 = 0 by decide +kernel, show bitE 4 0 4294967296 0 = 2 by decide +kernel] at h
  exact h
theorem nn_b4 (w : World) : Calls Tryd.prog 9 #[.int .u8 6, .agg #[.int .u64 0, .int .u64 1], .int .i64 127] w fun e w' => e = .returned (.tuple #[.int .i64 1, .int .i64 0]) ∧ Below w.heap.size w w' := by
  have h := bit_any 6 0 1 127 w ⟨by omega, by omega⟩ ⟨by omega, by omega⟩
  rw [show bitV 6 0 1 127 = 1 by decide +kernel, show bitE 6 0 1 127 = 0 by decide +kernel] at h
  exact h
theorem nn_c1 (w : World) : Calls Tryd.prog 10 #[.int .u8 6, .agg #[.int .u64 0, .int .u64 0], .int .i64 129] w fun e w' => e = .returned (.tuple #[.agg #[.int .u8 0, .int .u64 0, .int .u64 0, .int .i64 0], .int .i64 2]) ∧ Below w.heap.size w w' := by
  have h := cut_any 6 0 0 129 w ⟨by omega, by omega⟩ ⟨by omega, by omega⟩
  rw [show cutF 6 0 0 129 = 0 by decide +kernel, show cutH 6 0 0 129 = 0 by decide +kernel, show cutL 6 0 0 129 = 0 by decide +kernel, show cutN 6 0 0 129 = 0 by decide +kernel, show cutE 6 0 0 129 = 2 by decide +kernel] at h
  exact h
theorem nn_c2 (w : World) : Calls Tryd.prog 10 #[.int .u8 4, .agg #[.int .u64 1, .int .u64 0], .int .i64 8] w fun e w' => e = .returned (.tuple #[.agg #[.int .u8 0, .int .u64 0, .int .u64 0, .int .i64 0], .int .i64 2]) ∧ Below w.heap.size w w' := by
  have h := cut_any 4 1 0 8 w ⟨by omega, by omega⟩ ⟨by omega, by omega⟩
  rw [show cutF 4 1 0 8 = 0 by decide +kernel, show cutH 4 1 0 8 = 0 by decide +kernel, show cutL 4 1 0 8 = 0 by decide +kernel, show cutN 4 1 0 8 = 0 by decide +kernel, show cutE 4 1 0 8 = 2 by decide +kernel] at h
  exact h
theorem nn_p (w : World) (env : Env true w) : Calls Tryd.prog 7 #[.string ⟨#[58, 58, 47, 48]⟩] w fun e w' => e = .returned (.tuple #[.agg #[.int .u8 6, .int .u64 0, .int .u64 0, .int .i64 0], .int .i64 0]) ∧ Below w.heap.size w w' := by
  have h := pa_any ⟨#[58, 58, 47, 48]⟩ w env (by decide)
  have e := nm_all
  simp only [Prod.mk.injEq] at e
  rw [e.1, e.2.1, e.2.2.1, e.2.2.2.1, e.2.2.2.2] at h
  exact h
theorem nn_k0 (w : World) : Calls Tryd.prog 11 #[.agg #[.int .u8 0, .int .u64 0, .int .u64 0, .int .i64 0]] w fun e w' => e = .returned (.int .i64 2) ∧ Below w.heap.size w w' := chk_call 0 0 0 0 w ⟨by omega, by omega⟩ ⟨by omega, by omega⟩ 2 (by decide +kernel)
theorem nn_k1 (w : World) : Calls Tryd.prog 11 #[.agg #[.int .u8 4, .int .u64 0, .int .u64 0, .int .i64 33]] w fun e w' => e = .returned (.int .i64 8) ∧ Below w.heap.size w w' := chk_call 4 0 0 33 w ⟨by omega, by omega⟩ ⟨by omega, by omega⟩ 8 (by decide +kernel)
theorem nn_k2 (w : World) : Calls Tryd.prog 11 #[.agg #[.int .u8 4, .int .u64 0, .int .u64 1, .int .i64 31]] w fun e w' => e = .returned (.int .i64 8) ∧ Below w.heap.size w w' := chk_call 4 0 1 31 w ⟨by omega, by omega⟩ ⟨by omega, by omega⟩ 8 (by decide +kernel)
theorem nn_k3 (w : World) : Calls Tryd.prog 11 #[.agg #[.int .u8 4, .int .u64 0, .int .u64 1, .int .i64 32]] w fun e w' => e = .returned (.int .i64 0) ∧ Below w.heap.size w w' := chk_call 4 0 1 32 w ⟨by omega, by omega⟩ ⟨by omega, by omega⟩ 0 (by decide +kernel)
theorem nn_k4 (w : World) : Calls Tryd.prog 11 #[.agg #[.int .u8 6, .int .u64 0, .int .u64 0, .int .i64 (-1)]] w fun e w' => e = .returned (.int .i64 8) ∧ Below w.heap.size w w' := chk_call 6 0 0 (-1) w ⟨by omega, by omega⟩ ⟨by omega, by omega⟩ 8 (by decide +kernel)
theorem nn_n0 (w : World) : Calls Tryd.prog 12 #[.string ⟨#[97]⟩] w fun e w' => e = .returned (.bool true) ∧ w = w' := by
  have h := name_any ⟨#[97]⟩ w (by decide)
  rw [show nameB ⟨#[97]⟩ = true by decide +kernel] at h
  exact h
theorem nn_n1 (w : World) : Calls Tryd.prog 12 #[.string ⟨#[45, 95, 57, 90]⟩] w fun e w' => e = .returned (.bool true) ∧ w = w' := by
  have h := name_any ⟨#[45, 95, 57, 90]⟩ w (by decide)
  rw [show nameB ⟨#[45, 95, 57, 90]⟩ = true by decide +kernel] at h
  exact h
theorem nn_n2 (w : World) : Calls Tryd.prog 12 #[.string ⟨#[]⟩] w fun e w' => e = .returned (.bool false) ∧ w = w' := by
  have h := name_any ⟨#[]⟩ w (by decide)
  rw [show nameB ⟨#[]⟩ = false by decide +kernel] at h
  exact h
theorem nn_n3 (w : World) : Calls Tryd.prog 12 #[.string ⟨#[97, 46, 98]⟩] w fun e w' => e = .returned (.bool false) ∧ w = w' := by
  have h := name_any ⟨#[97, 46, 98]⟩ w (by decide)
  rw [show nameB ⟨#[97, 46, 98]⟩ = false by decide +kernel] at h
  exact h
theorem nn_n4 (w : World) : Calls Tryd.prog 12 #[.string ⟨#[97, 32, 98]⟩] w fun e w' => e = .returned (.bool false) ∧ w = w' := by
  have h := name_any ⟨#[97, 32, 98]⟩ w (by decide)
  rw [show nameB ⟨#[97, 32, 98]⟩ = false by decide +kernel] at h
  exact h
theorem nn_n5 (w : World) : Calls Tryd.prog 12 #[.string ⟨#[97, 97, 97, 97, 97, 97, 97, 97, 97, 97, 97, 97, 97, 97, 97, 97, 97, 97, 97, 97, 97, 97, 97, 97, 97, 97, 97, 97, 97, 97, 97, 97, 97, 97, 97, 97, 97, 97, 97, 97]⟩] w fun e w' => e = .returned (.bool true) ∧ w = w' := by
  have h := name_any ⟨#[97, 97, 97, 97, 97, 97, 97, 97, 97, 97, 97, 97, 97, 97, 97, 97, 97, 97, 97, 97, 97, 97, 97, 97, 97, 97, 97, 97, 97, 97, 97, 97, 97, 97, 97, 97, 97, 97, 97, 97]⟩ w (by decide)
  rw [show nameB ⟨#[97, 97, 97, 97, 97, 97, 97, 97, 97, 97, 97, 97, 97, 97, 97, 97, 97, 97, 97, 97, 97, 97, 97, 97, 97, 97, 97, 97, 97, 97, 97, 97, 97, 97, 97, 97, 97, 97, 97, 97]⟩ = true by decide +kernel] at h
  exact h
theorem nn_n6 (w : World) : Calls Tryd.prog 12 #[.string ⟨#[97, 97, 97, 97, 97, 97, 97, 97, 97, 97, 97, 97, 97, 97, 97, 97, 97, 97, 97, 97, 97, 97, 97, 97, 97, 97, 97, 97, 97, 97, 97, 97, 97, 97, 97, 97, 97, 97, 97, 97, 97]⟩] w fun e w' => e = .returned (.bool false) ∧ w = w' := by
  have h := name_any ⟨#[97, 97, 97, 97, 97, 97, 97, 97, 97, 97, 97, 97, 97, 97, 97, 97, 97, 97, 97, 97, 97, 97, 97, 97, 97, 97, 97, 97, 97, 97, 97, 97, 97, 97, 97, 97, 97, 97, 97, 97, 97]⟩ w (by decide)
  rw [show nameB ⟨#[97, 97, 97, 97, 97, 97, 97, 97, 97, 97, 97, 97, 97, 97, 97, 97, 97, 97, 97, 97, 97, 97, 97, 97, 97, 97, 97, 97, 97, 97, 97, 97, 97, 97, 97, 97, 97, 97, 97, 97, 97]⟩ = false by decide +kernel] at h
  exact h
theorem nn_cov (w : World) : Calls Tryd.prog 14 #[.agg #[.int .u8 6, .int .u64 0, .int .u64 0, .int .i64 0], .agg #[.int .u8 4, .int .u64 0, .int .u64 0, .int .i64 0]] w fun e w' => e = .returned (.bool false) ∧ Below w.heap.size w w' := by
  have h := cov_any 6 0 0 0 4 0 0 0 w ⟨by omega, by omega⟩ ⟨by omega, by omega⟩ ⟨by omega, by omega⟩ ⟨by omega, by omega⟩
  rw [show cov 6 0 0 0 4 0 0 0 = false by decide +kernel] at h
  exact h
end Go.Proofs.YtjngfieggacpiaaDoor
