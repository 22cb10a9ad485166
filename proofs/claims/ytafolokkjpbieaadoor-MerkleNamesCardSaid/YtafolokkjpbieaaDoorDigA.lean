/-
  THE WALKS over rotations.
-/
import Derived.Test.YtafolokkjpbieaaDoorDigKit
namespace Go.Proofs.YtafolokkjpbieaaDoor
open Go.RowKit Sha
set_option linter.unusedVariables false
set_option linter.unusedSimpArgs false
theorem and31 : ∀ n : Fin 32, 1 ≤ n.val → bits .and .u64 (IntKind.u64.wrap (-(n.val : Int))) 31 = ((32 - n.val : Nat) : Int) := by decide +kernel
set_option maxRecDepth 100000 in
theorem rot_any (x : UInt32) (n : Nat) (h1 : 1 ≤ n) (h2 : n < 32) (w : World) :
    Calls Tryd.prog 74 #[.int .u32 (u x), .int .i64 (-(n : Int))] w fun e w' => e = .returned (.int .u32 (u (rr x n))) ∧ w = w' := by
  have hb := and31 ⟨n, h2⟩ h1
  have hr := rr_or x n h1 h2
  have e1 : (((32 - n : Nat) : Int)).toNat = 32 - n := by omega
  simp only at hb
  obtain ⟨s, hs⟩ : ∃ s, 32 - n = s := ⟨_, rfl⟩
  rw [hs] at hb hr
  have hn : (32 - (s : Int)).toNat = n := by omega
  have HR := Lib.hid hr
  have HN := Lib.hid hn
  have hs1 : 1 ≤ s := by omega
  have hs2 : s < 32 := by omega
  clear hr e1 hs hn h1 h2
  go_enter Tryd.func74, Tryd.ntmps74
  go_wp2
  go_ret
  refine ⟨?_, rfl⟩
  refine ret_eq ?_
  rw [← HR.out, ← HN.out, show (32 - (s : Int)).toNat = 32 - s by omega]
  rfl
set_option maxRecDepth 100000 in
theorem right_any (x : UInt32) (n : Nat) (h1 : 1 ≤ n) (h2 : n < 32) (w : World) :
    Calls Tryd.prog 73 #[.int .u32 (u x), .int .i64 (n : Int)] w fun e w' => e = .returned (.int .u32 (u (rr x n))) ∧ w = w' := by
  go_enter Tryd.func73, Tryd.ntmps73
  go_wp2_with fail
  refine (rot_any x n h1 h2 _).mono ?_
  rintro e w1 ⟨rfl, rfl⟩
  go_wp2_with fail
  go_ret
  exact ⟨rfl, rfl⟩
theorem turns_any (x : UInt32) (i j k : Nat) (i1 : 1 ≤ i) (i2 : i < 32) (j1 : 1 ≤ j) (j2 : j < 32) (k1 : 1 ≤ k) (k2 : k < 32) (w : World) :
    Calls Tryd.prog 72 #[.int .u32 (u x), .int .i64 (i : Int), .int .i64 (j : Int), .int .i64 (k : Int)] w fun e w' => e = .returned (.int .u32 (u (rr x i ^^^ rr x j ^^^ rr x k))) ∧ w = w' := by
  have e1 := u_xor (rr x i) (rr x j)
  have e2 := u_xor (rr x i ^^^ rr x j) (rr x k)
  have E1 := Lib.hid e1
  have E2 := Lib.hid e2
  clear e1 e2
  go_enter Tryd.func72, Tryd.ntmps72
  go_wp2_with fail
  refine (right_any x i i1 i2 _).mono ?_
  rintro e w1 ⟨rfl, rfl⟩
  go_wp2_with fail
  refine (right_any x j j1 j2 _).mono ?_
  rintro e w1 ⟨rfl, rfl⟩
  go_wp2_with fail
  refine (right_any x k k1 k2 _).mono ?_
  rintro e w1 ⟨rfl, rfl⟩
  go_wp2_with fail
  go_ret
  refine ⟨ret_eq ?_, rfl⟩
  rw [← E2.out, ← E1.out]
  rfl
theorem turns_e (x : UInt32) (w : World) : Calls Tryd.prog 72 #[.int .u32 (u x), .int .i64 6, .int .i64 11, .int .i64 25] w fun e w' => e = .returned (.int .u32 (u (e1 x))) ∧ w = w' := turns_any x 6 11 25 (by decide) (by decide) (by decide) (by decide) (by decide) (by decide) w
theorem turns_a (x : UInt32) (w : World) : Calls Tryd.prog 72 #[.int .u32 (u x), .int .i64 2, .int .i64 13, .int .i64 22] w fun e w' => e = .returned (.int .u32 (u (e0 x))) ∧ w = w' := turns_any x 2 13 22 (by decide) (by decide) (by decide) (by decide) (by decide) (by decide) w
/-- in a region that only reads -/
theorem quiet_same {P : Program} {f : FuncId} {args : Array Value} {w : World} {n : Nat} {v : Value} (h : ∀ w, Calls P f args w fun e w' => e = .returned v ∧ w = w') :
    Calls P f args (w.drewN n) fun e w'' => e = .returned v ∧ ∃ m, w'' = w.drewN m := (h (w.drewN n)).mono fun _ _ ⟨he, hm⟩ => ⟨he, n, hm.symm⟩
theorem right_17 (x : UInt32) (w : World) : Calls Tryd.prog 73 #[.int .u32 (u x), .int .i64 17] w fun e w' => e = .returned (.int .u32 (u (rr x 17))) ∧ w = w' := right_any x 17 (by decide) (by decide) w
theorem right_19 (x : UInt32) (w : World) : Calls Tryd.prog 73 #[.int .u32 (u x), .int .i64 19] w fun e w' => e = .returned (.int .u32 (u (rr x 19))) ∧ w = w' := right_any x 19 (by decide) (by decide) w
theorem right_7 (x : UInt32) (w : World) : Calls Tryd.prog 73 #[.int .u32 (u x), .int .i64 7] w fun e w' => e = .returned (.int .u32 (u (rr x 7))) ∧ w = w' := right_any x 7 (by decide) (by decide) w
theorem right_18 (x : UInt32) (w : World) : Calls Tryd.prog 73 #[.int .u32 (u x), .int .i64 18] w fun e w' => e = .returned (.int .u32 (u (rr x 18))) ∧ w = w' := right_any x 18 (by decide) (by decide) w
end Go.Proofs.YtafolokkjpbieaaDoor
