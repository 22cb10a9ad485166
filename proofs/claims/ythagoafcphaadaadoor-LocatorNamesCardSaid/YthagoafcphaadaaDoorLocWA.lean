/-
  THE WALKS over package locator: classOf, allOf.
-/
import Derived.Test.YthagoafcphaadaaDoorLocKit
namespace Go.Proofs.YthagoafcphaadaaDoor
open Go.RowKit Lo
set_option linter.unusedVariables false
set_option linter.unusedSimpArgs false
variable {fl : Bool}
def rfrom (k : Nat) : Nat := [97, 65, 48, 45, 95, 46].getD k 0
def rto (k : Nat) : Nat := [122, 90, 57, 45, 95, 46].getD k 0
def ruse (k : Nat) : Nat := [3, 2, 3, 3, 2, 2].getD k 0
def NF (k n : Nat) : Prop := ∀ j, j < k → ¬ (rfrom j ≤ n ∧ n ≤ rto j)
theorem NF.succ {k n : Nat} (h : NF k n) (h2 : ¬ (rfrom k ≤ n ∧ n ≤ rto k)) : NF (k + 1) n := fun j hj => by
  by_cases e : j = k
  · subst e; exact h2
  · exact h j (by omega)
theorem NF.hit {k n : Nat} (h : NF k n) (hk : k < 6) (h2 : rfrom k ≤ n ∧ n ≤ rto k) : cls n = ruse k := by
  have h0 := h 0
  have h1 := h 1
  have h3 := h 2
  have h4 := h 3
  have h5 := h 4
  simp [rfrom, rto] at h0 h1 h3 h4 h5
  have e : k = 0 ∨ k = 1 ∨ k = 2 ∨ k = 3 ∨ k = 4 ∨ k = 5 := by omega
  unfold cls
  rcases e with rfl | rfl | rfl | rfl | rfl | rfl <;> simp [rfrom, rto] at h2 <;> simp [ruse] <;> repeat (split <;> try omega)
theorem NF.none {n : Nat} (h : NF 6 n) : cls n = 0 := by
  have h0 := h 0
  have h1 := h 1
  have h2 := h 2
  have h3 := h 3
  have h4 := h 4
  have h5 := h 5
  simp [rfrom, rto] at h0 h1 h2 h3 h4 h5
  unfold cls
  repeat (split <;> try omega)
set_option maxRecDepth 100000 in
set_option maxHeartbeats 4000000 in
theorem class_any (n : Nat) (hn : n < 256) (w : World) (env : LEnv fl w) :
    Calls Tryd.prog 42 #[.int .u8 n] w fun e w' => e = .returned (.int .u8 (cls n : Nat)) ∧ Below w.heap.size w w' := by
  have hG := env.big
  obtain ⟨tt, fr, hcl⟩ := env.cl
  have HCL := Lib.hid hcl
  clear env hcl
  go_enter Tryd.func42, Tryd.ntmps42
  go_wp2_with (refine wpList_load_row rfl 85 _ rfl 1 rfl tt clsCells fr _ HCL.out Tryd.underlying85 rfl (by rfl) ?_)
  go_loopw [6] (fun i wr => ∃ k : Nat, k ≤ 6 ∧ i = .int .i64 k ∧ NF k n ∧ Below w.heap.size w wr) (fun i _ => 6 - (intOf i).toNat)
  case atStart => exact ⟨0, by omega, rfl, fun j hj => by omega, Below.refl _ _⟩
  case round =>
    obtain ⟨k, hk, rfl, hnf, hbl⟩ := hrel
    have HNF := Lib.hid hnf
    have HBL := Lib.hid hbl
    clear hnf hbl
    have e : k = 0 ∨ k = 1 ∨ k = 2 ∨ k = 3 ∨ k = 4 ∨ k = 5 ∨ k = 6 := by omega
    have HZ := Lib.hid (show w.heap.size ≤ wr.heap.size from HBL.out.size)
    rcases e with rfl | rfl | rfl | rfl | rfl | rfl | rfl
    · have hix : ∀ w, (Instr.index 85 (.agg clsCells) (.int .i64 0)).run Tryd.prog w = .ok (.agg #[.int .u8 97, .int .u8 122, .int .u8 3]) w := fun w => by kernel_rfl
      by_cases h1 : 97 ≤ n
      · by_cases h2 : n ≤ 122
        · have i1 : (97 : Int) ≤ (n : Int) := by omega
          have i2 : (n : Int) ≤ 122 := by omega
          have HC : RowKit.Hid (cls n = 3) := Lib.hid (HNF.out.hit (by decide) ⟨h1, h2⟩)
          clear h1 h2
          go_wp2_with fail
          go_ret
          exact ⟨by rw [HC.out]; rfl, (HBL.out.alloc HZ.out _)⟩
        · have i1 : (97 : Int) ≤ (n : Int) := by omega
          have i2 : ¬ (n : Int) ≤ 122 := by omega
          have HC := Lib.hid (HNF.out.succ (fun h => h2 h.2))
          clear h1 h2
          go_wp2_with fail
          go_roundw
          case rel => exact ⟨0 + 1, by omega, by go_num, HC.out, by first | exact HBL.out.alloc HZ.out _ | exact (HBL.out.alloc HZ.out _).drew⟩
          case measure => simp [intOf]
      · have i1 : ¬ (97 : Int) ≤ (n : Int) := by omega
        have HC := Lib.hid (HNF.out.succ (fun h => h1 h.1))
        clear h1
        go_wp2_with fail
        go_roundw
        case rel => exact ⟨0 + 1, by omega, by go_num, HC.out, by first | exact HBL.out.alloc HZ.out _ | exact (HBL.out.alloc HZ.out _).drew⟩
        case measure => simp [intOf]
    · have hix : ∀ w, (Instr.index 85 (.agg clsCells) (.int .i64 1)).run Tryd.prog w = .ok (.agg #[.int .u8 65, .int .u8 90, .int .u8 2]) w := fun w => by kernel_rfl
      by_cases h1 : 65 ≤ n
      · by_cases h2 : n ≤ 90
        · have i1 : (65 : Int) ≤ (n : Int) := by omega
          have i2 : (n : Int) ≤ 90 := by omega
          have HC : RowKit.Hid (cls n = 2) := Lib.hid (HNF.out.hit (by decide) ⟨h1, h2⟩)
          clear h1 h2
          go_wp2_with fail
          go_ret
          exact ⟨by rw [HC.out]; rfl, (HBL.out.alloc HZ.out _)⟩
        · have i1 : (65 : Int) ≤ (n : Int) := by omega
          have i2 : ¬ (n : Int) ≤ 90 := by omega
          have HC := Lib.hid (HNF.out.succ (fun h => h2 h.2))
          clear h1 h2
          go_wp2_with fail
          go_roundw
          case rel => exact ⟨1 + 1, by omega, by go_num, HC.out, by first | exact HBL.out.alloc HZ.out _ | exact (HBL.out.alloc HZ.out _).drew⟩
          case measure => simp [intOf]
      · have i1 : ¬ (65 : Int) ≤ (n : Int) := by omega
        have HC := Lib.hid (HNF.out.succ (fun h => h1 h.1))
        clear h1
        go_wp2_with fail
        go_roundw
        case rel => exact ⟨1 + 1, by omega, by go_num, HC.out, by first | exact HBL.out.alloc HZ.out _ | exact (HBL.out.alloc HZ.out _).drew⟩
        case measure => simp [intOf]
    · have hix : ∀ w, (Instr.index 85 (.agg clsCells) (.int .i64 2)).run Tryd.prog w = .ok (.agg #[.int .u8 48, .int .u8 57, .int .u8 3]) w := fun w => by kernel_rfl
      by_cases h1 : 48 ≤ n
      · by_cases h2 : n ≤ 57
        · have i1 : (48 : Int) ≤ (n : Int) := by omega
          have i2 : (n : Int) ≤ 57 := by omega
          have HC : RowKit.Hid (cls n = 3) := Lib.hid (HNF.out.hit (by decide) ⟨h1, h2⟩)
          clear h1 h2
          go_wp2_with fail
          go_ret
          exact ⟨by rw [HC.out]; rfl, (HBL.out.alloc HZ.out _)⟩
        · have i1 : (48 : Int) ≤ (n : Int) := by omega
          have i2 : ¬ (n : Int) ≤ 57 := by omega
          have HC := Lib.hid (HNF.out.succ (fun h => h2 h.2))
          clear h1 h2
          go_wp2_with fail
          go_roundw
          case rel => exact ⟨2 + 1, by omega, by go_num, HC.out, by first | exact HBL.out.alloc HZ.out _ | exact (HBL.out.alloc HZ.out _).drew⟩
          case measure => simp [intOf]
      · have i1 : ¬ (48 : Int) ≤ (n : Int) := by omega
        have HC := Lib.hid (HNF.out.succ (fun h => h1 h.1))
        clear h1
        go_wp2_with fail
        go_roundw
        case rel => exact ⟨2 + 1, by omega, by go_num, HC.out, by first | exact HBL.out.alloc HZ.out _ | exact (HBL.out.alloc HZ.out _).drew⟩
        case measure => simp [intOf]
    · have hix : ∀ w, (Instr.index 85 (.agg clsCells) (.int .i64 3)).run Tryd.prog w = .ok (.agg #[.int .u8 45, .int .u8 45, .int .u8 3]) w := fun w => by kernel_rfl
      by_cases h1 : 45 ≤ n
      · by_cases h2 : n ≤ 45
        · have i1 : (45 : Int) ≤ (n : Int) := by omega
          have i2 : (n : Int) ≤ 45 := by omega
          have HC : RowKit.Hid (cls n = 3) := Lib.hid (HNF.out.hit (by decide) ⟨h1, h2⟩)
          clear h1 h2
          go_wp2_with fail
          go_ret
          exact ⟨by rw [HC.out]; rfl, (HBL.out.alloc HZ.out _)⟩
        · have i1 : (45 : Int) ≤ (n : Int) := by omega
          have i2 : ¬ (n : Int) ≤ 45 := by omega
          have HC := Lib.hid (HNF.out.succ (fun h => h2 h.2))
          clear h1 h2
          go_wp2_with fail
          go_roundw
          case rel => exact ⟨3 + 1, by omega, by go_num, HC.out, by first | exact HBL.out.alloc HZ.out _ | exact (HBL.out.alloc HZ.out _).drew⟩
          case measure => simp [intOf]
      · have i1 : ¬ (45 : Int) ≤ (n : Int) := by omega
        have HC := Lib.hid (HNF.out.succ (fun h => h1 h.1))
        clear h1
        go_wp2_with fail
        go_roundw
        case rel => exact ⟨3 + 1, by omega, by go_num, HC.out, by first | exact HBL.out.alloc HZ.out _ | exact (HBL.out.alloc HZ.out _).drew⟩
        case measure => simp [intOf]
    · have hix : ∀ w, (Instr.index 85 (.agg clsCells) (.int .i64 4)).run Tryd.prog w = .ok (.agg #[.int .u8 95, .int .u8 95, .int .u8 2]) w := fun w => by kernel_rfl
      by_cases h1 : 95 ≤ n
      · by_cases h2 : n ≤ 95
        · have i1 : (95 : Int) ≤ (n : Int) := by omega
          have i2 : (n : Int) ≤ 95 := by omega
          have HC : RowKit.Hid (cls n = 2) := Lib.hid (HNF.out.hit (by decide) ⟨h1, h2⟩)
          clear h1 h2
          go_wp2_with fail
          go_ret
          exact ⟨by rw [HC.out]; rfl, (HBL.out.alloc HZ.out _)⟩
        · have i1 : (95 : Int) ≤ (n : Int) := by omega
          have i2 : ¬ (n : Int) ≤ 95 := by omega
          have HC := Lib.hid (HNF.out.succ (fun h => h2 h.2))
          clear h1 h2
          go_wp2_with fail
          go_roundw
          case rel => exact ⟨4 + 1, by omega, by go_num, HC.out, by first | exact HBL.out.alloc HZ.out _ | exact (HBL.out.alloc HZ.out _).drew⟩
          case measure => simp [intOf]
      · have i1 : ¬ (95 : Int) ≤ (n : Int) := by omega
        have HC := Lib.hid (HNF.out.succ (fun h => h1 h.1))
        clear h1
        go_wp2_with fail
        go_roundw
        case rel => exact ⟨4 + 1, by omega, by go_num, HC.out, by first | exact HBL.out.alloc HZ.out _ | exact (HBL.out.alloc HZ.out _).drew⟩
        case measure => simp [intOf]
    · have hix : ∀ w, (Instr.index 85 (.agg clsCells) (.int .i64 5)).run Tryd.prog w = .ok (.agg #[.int .u8 46, .int .u8 46, .int .u8 2]) w := fun w => by kernel_rfl
      by_cases h1 : 46 ≤ n
      · by_cases h2 : n ≤ 46
        · have i1 : (46 : Int) ≤ (n : Int) := by omega
          have i2 : (n : Int) ≤ 46 := by omega
          have HC : RowKit.Hid (cls n = 2) := Lib.hid (HNF.out.hit (by decide) ⟨h1, h2⟩)
          clear h1 h2
          go_wp2_with fail
          go_ret
          exact ⟨by rw [HC.out]; rfl, (HBL.out.alloc HZ.out _)⟩
        · have i1 : (46 : Int) ≤ (n : Int) := by omega
          have i2 : ¬ (n : Int) ≤ 46 := by omega
          have HC := Lib.hid (HNF.out.succ (fun h => h2 h.2))
          clear h1 h2
          go_wp2_with fail
          go_roundw
          case rel => exact ⟨5 + 1, by omega, by go_num, HC.out, by first | exact HBL.out.alloc HZ.out _ | exact (HBL.out.alloc HZ.out _).drew⟩
          case measure => simp [intOf]
      · have i1 : ¬ (46 : Int) ≤ (n : Int) := by omega
        have HC := Lib.hid (HNF.out.succ (fun h => h1 h.1))
        clear h1
        go_wp2_with fail
        go_roundw
        case rel => exact ⟨5 + 1, by omega, by go_num, HC.out, by first | exact HBL.out.alloc HZ.out _ | exact (HBL.out.alloc HZ.out _).drew⟩
        case measure => simp [intOf]
    · have HC := Lib.hid HNF.out.none
      go_wp2_with fail
      go_ret
      exact ⟨by rw [HC.out]; rfl, HBL.out⟩
end Go.Proofs.YthagoafcphaadaaDoor
