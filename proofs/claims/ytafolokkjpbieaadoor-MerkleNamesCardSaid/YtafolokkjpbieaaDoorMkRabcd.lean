import Derived.Test.YtafolokkjpbieaaDoorMkP
import Derived.Maps.AppendAt
namespace Go.Proofs.YtafolokkjpbieaaDoor
open Go.RowKit Sha Ots
set_option linter.unusedVariables false
set_option linter.unusedSimpArgs false
set_option maxRecDepth 100000 in
set_option maxHeartbeats 1000000 in
theorem power_ref (h : Nat) (hh : h ≤ 4) (w : World) :
    Calls Tryd.prog 36 #[.int .i64 (h : Int)] w fun e w' => e = .returned (.int .i64 ((2 ^ h : Nat) : Int)) ∧ Below w.heap.size w w' := by
  have hP0 : 2 ^ 0 = 1 := rfl
  have hPs : ∀ k, 2 ^ (k + 1) = 2 ^ k + 2 ^ k := fun k => by rw [Nat.pow_succ]; omega
  have hPm : ∀ k, k ≤ h → 2 ^ k ≤ 16 := fun k hk => by
    have := Nat.pow_le_pow_right (show 0 < 2 by decide) (show k ≤ 4 by omega)
    simpa using this
  obtain ⟨P, hP⟩ : ∃ P : Nat → Nat, ∀ k, 2 ^ k = P k := ⟨_, fun _ => rfl⟩
  simp only [hP] at hP0 hPs hPm ⊢
  have HP0 := Lib.hid hP0
  have HPS := Lib.hid hPs
  have HPM := Lib.hid hPm
  have HZ := Lib.hid (Below.refl w.heap.size w)
  have HH := Lib.hid hh
  clear hP0 hPs hPm hP hh
  go_enter Tryd.func36, Tryd.ntmps36
  go_wp2_with fail
  go_loopw [3, 4] (fun nn ix wr => ∃ k : Nat, k ≤ h ∧ ix = .int .i64 (k : Int) ∧ nn = .int .i64 (P k : Int) ∧ RowKit.Hid (Below w.heap.size w wr)) (fun _ ix _ => h - (intOf ix).toNat)
  case atStart => exact ⟨0, by omega, rfl, by rw [HP0.out]; rfl, HZ⟩
  case round =>
    clear HZ
    obtain ⟨k, hk, rfl, rfl, HB⟩ := hrel
    by_cases hlt : k < h
    · have hki : (k : Int) < (h : Int) := by omega
      have h4 := HH.out
      have h5 := HPM.out k hk
      go_wp2_with fail
      refine ⟨⟨k + 1, by omega, by go_num, ?_, HB⟩, by simp [intOf]; omega⟩
      rw [HPS.out k]
      go_num
    · have hkk : k = h := by omega
      subst hkk
      have hge : ¬ (k : Int) < (k : Int) := by omega
      go_wp2_with fail
      go_ret
      exact ⟨rfl, HB.out⟩
end Go.Proofs.YtafolokkjpbieaaDoor
namespace Go.Proofs.YtafolokkjpbieaaDoor
open Go.RowKit Sha Ots
set_option linter.unusedVariables false
set_option linter.unusedSimpArgs false
set_option maxRecDepth 100000 in
set_option maxHeartbeats 4000000 in
theorem check_ref (h n : Int) (CA PA : Option Addr) (cl cc pl pc : Nat) (w : World) :
    Calls Tryd.prog 21 #[.int .i64 h, .agg #[.int .i64 n, .slice CA cl cc, .slice PA pl pc]] w fun e w' => e = .returned (.int .i64 (chkV h n cl pl)) ∧ Below w.heap.size w w' := by
  by_cases hh : 0 ≤ h ∧ h ≤ 4
  · obtain ⟨k, rfl⟩ : ∃ k : Nat, h = (k : Int) := ⟨h.toNat, by omega⟩
    have hk : k ≤ 4 := by omega
    by_cases hn0 : 0 ≤ n
    · by_cases hnp : n < ((2 ^ (k : Int).toNat : Nat) : Int)
      · by_cases hc : cl = 35
        · by_cases hp0 : (pl : Int) = (k : Int)
          · have hv : chkV (k : Int) n cl pl = 0 := by unfold chkV; rw [if_pos hh, if_pos ⟨⟨by omega, by omega⟩, hc, hp0⟩]
            rw [hv]
            have hk0 : ¬ (k : Int) < 0 := by omega
            have hk5 : ¬ (4 : Int) < (k : Int) := by omega
            have hn1 : ¬ n < 0 := by omega
            have hn2 : ¬ ((2 ^ k : Nat) : Int) ≤ n := by rw [Int.toNat_natCast] at hnp; omega
            have PW := Lib.hid (fun (V : World) => power_ref k hk V)
            obtain ⟨p, hp⟩ : ∃ p : Int, ((2 ^ k : Nat) : Int) = p := ⟨_, rfl⟩
            rw [hp] at hn2 PW
            have hne1 : (((cl : Nat) : Int) != 35) = false := by simp; omega
            have hne : (((pl : Nat) : Int) != (k : Int)) = false := by simp [hp0]
            obtain ⟨ki, hki⟩ : ∃ ki : Int, (k : Int) = ki := ⟨_, rfl⟩
            rw [hki] at hk0 hk5 PW hne ⊢
            clear hv hh hki hk hn0 hnp hp hc hp0
            go_enter Tryd.func21, Tryd.ntmps21
            go_upto_region 3 with (fail)
            generalize hV : World.alloc w _ = V
            have hb0 : Below w.heap.size w V := by rw [← hV]; exact below_new _ _
            have hr : V.heap[w.heap.size]? = some (.cells #[.int .i64 n, .slice CA cl cc, .slice PA pl pc] 31 (0, 0)) := by rw [← hV]; exact heap_alloc_new _ _
            have HB0 := Lib.hid hb0
            have HR := Lib.hid hr
            have mkS : ∀ z, Below V.heap.size V z → Below V.heap.size V z ∧ z.cell? ⟨w.heap.size, 0, none⟩ = some (.int .i64 n) ∧ z.cell? ⟨w.heap.size, 1, none⟩ = some (.slice CA cl cc) ∧ z.cell? ⟨w.heap.size, 2, none⟩ = some (.slice PA pl pc) := fun z hz => ⟨hz, (facts3 (row_on HR.out hz)).2⟩
            clear hV hb0 hr
            refine wp_region_held_drew (S := fun z => Below V.heap.size V z ∧ z.cell? ⟨w.heap.size, 0, none⟩ = some (.int .i64 n) ∧ z.cell? ⟨w.heap.size, 1, none⟩ = some (.slice CA cl cc) ∧ z.cell? ⟨w.heap.size, 2, none⟩ = some (.slice PA pl pc)) (by kernel_rfl) (mkS _ (Below.refl _ _).drew) (fun hHeld => ?_)
            refine wpAnyH_take (i := 0) (oi := { dst := Option.some 11, op := Go.Op.fieldAddr 31 (Go.Operand.tmp 3) 0, type := 0, pos := "ref.go:82", after := #[], guard := Option.none }) (v := ?_) rfl (by kernel_rfl) (by kernel_rfl) (by kernel_rfl) (fun _ _ _ h => h) (Or.inl ⟨by rfl, ?_⟩) hHeld ?_
            rotate_left
            · intro w hSw
              clear hSw
              go_simp
              try with_reducible rfl
            try simp only [Act.put, List.setIfInBounds_toArray, List.set_cons_zero, List.set_cons_succ]
            refine wpAnyH_take (i := 1) (oi := { dst := Option.some 12, op := Go.Op.load 3 (Go.Operand.tmp 11), type := 3, pos := "ref.go:82", after := #[{ on := 0, ground := Go.Ground.data }], guard := Option.none }) (v := ?_) rfl (by kernel_rfl) (by kernel_rfl) (by kernel_rfl) (fun _ _ _ h => h) (Or.inl ⟨by rfl, ?_⟩) hHeld ?_
            rotate_left
            · intro w hSw
              have hfc0 := hSw.2.1
              clear hSw
              go_simp
              try with_reducible rfl
            try simp only [Act.put, List.setIfInBounds_toArray, List.set_cons_zero, List.set_cons_succ]
            refine wpAnyH_take (i := 2) (oi := { dst := Option.some 13, op := Go.Op.binOp Go.BinOp.lss 3 (Go.Operand.tmp 12) (Go.Operand.const (Go.Value.int Go.IntKind.i64 0)) 3, type := 4, pos := "ref.go:82", after := #[{ on := 1, ground := Go.Ground.data }], guard := Option.none }) (v := ?_) rfl (by kernel_rfl) (by kernel_rfl) (by kernel_rfl) (fun _ _ _ h => h) (Or.inl ⟨by rfl, ?_⟩) hHeld ?_
            rotate_left
            · intro w hSw
              clear hSw
              go_simp
              try with_reducible rfl
            try simp only [Act.put, List.setIfInBounds_toArray, List.set_cons_zero, List.set_cons_succ]
            refine wpAnyH_take (i := 3) (oi := { dst := Option.some 14, op := Go.Op.move (Go.Operand.tmp 13), type := 4, pos := "ref.go:82", after := #[{ on := 2, ground := Go.Ground.data }], guard := Option.none }) (v := ?_) rfl (by kernel_rfl) (by kernel_rfl) (by kernel_rfl) (fun _ _ _ h => h) (Or.inl ⟨by rfl, ?_⟩) hHeld ?_
            rotate_left
            · intro w hSw
              clear hSw
              go_simp
              try with_reducible rfl
            try simp only [Act.put, List.setIfInBounds_toArray, List.set_cons_zero, List.set_cons_succ]
            refine wpAnyH_take (i := 4) (oi := { dst := Option.some 15, op := Go.Op.fieldAddr 31 (Go.Operand.tmp 3) 0, type := 0, pos := "ref.go:82", after := #[{ on := 3, ground := Go.Ground.guard }], guard := Option.some (3, Bool.false) }) (v := ?_) rfl (by kernel_rfl) (by kernel_rfl) (by kernel_rfl) (fun _ _ _ h => h) (Or.inl ⟨by rfl, ?_⟩) hHeld ?_
            rotate_left
            · intro w hSw
              clear hSw
              go_simp
              try with_reducible rfl
            try simp only [Act.put, List.setIfInBounds_toArray, List.set_cons_zero, List.set_cons_succ]
            refine wpAnyH_take (i := 5) (oi := { dst := Option.some 16, op := Go.Op.load 3 (Go.Operand.tmp 15), type := 3, pos := "ref.go:82", after := #[{ on := 4, ground := Go.Ground.data }, { on := 3, ground := Go.Ground.guard }], guard := Option.some (3, Bool.false) }) (v := ?_) rfl (by kernel_rfl) (by kernel_rfl) (by kernel_rfl) (fun _ _ _ h => h) (Or.inl ⟨by rfl, ?_⟩) hHeld ?_
            rotate_left
            · intro w hSw
              have hfc0 := hSw.2.1
              clear hSw
              go_simp
              try with_reducible rfl
            try simp only [Act.put, List.setIfInBounds_toArray, List.set_cons_zero, List.set_cons_succ]
            refine wpAnyH_take (i := 6) (oi := { dst := Option.some 17, op := Go.Op.move (Go.Operand.tmp 0), type := 3, pos := "ref.go:82", after := #[{ on := 3, ground := Go.Ground.guard }], guard := Option.some (3, Bool.false) }) (v := ?_) rfl (by kernel_rfl) (by kernel_rfl) (by kernel_rfl) (fun _ _ _ h => h) (Or.inl ⟨by rfl, ?_⟩) hHeld ?_
            rotate_left
            · intro w hSw
              clear hSw
              go_simp
              try with_reducible rfl
            try simp only [Act.put, List.setIfInBounds_toArray, List.set_cons_zero, List.set_cons_succ]
            refine wpAnyH_ready (rs := [7]) (by kernel_rfl) (by simp) (AllReadyH.cons (o := { dst := Option.some 18, op := Go.Op.call { callee := Go.Callee.value (Go.Operand.func 36), args := #[Go.Operand.tmp 17], argTypes := #[3] }, type := 3, pos := "ref.go:82", after := #[{ on := 6, ground := Go.Ground.data }, { on := 3, ground := Go.Ground.chain }, { on := 3, ground := Go.Ground.guard }], guard := Option.some (3, Bool.false) }) rfl (fun K hK => ?_) AllReadyH.nil)
            go_simp
            refine (PW.out _).mono ?_
            rintro e w8 ⟨rfl, hb8⟩
            go_simp
            refine hK.out _ _ (mkS _ (chain hHeld.1 hb8)) (fun hHeld2 => ?_)
            clear hK K
            have hHeldP := hHeld.1
            clear hHeld
            have hHeld := hHeld2
            clear hHeld2 hHeldP hb8
            try simp only [Act.put, List.setIfInBounds_toArray, List.set_cons_zero, List.set_cons_succ]
            refine wpAnyH_take (i := 8) (oi := { dst := Option.some 19, op := Go.Op.binOp Go.BinOp.geq 3 (Go.Operand.tmp 16) (Go.Operand.tmp 18) 3, type := 4, pos := "ref.go:82", after := #[{ on := 5, ground := Go.Ground.data }, { on := 7, ground := Go.Ground.data }, { on := 3, ground := Go.Ground.guard }], guard := Option.some (3, Bool.false) }) (v := ?_) rfl (by kernel_rfl) (by kernel_rfl) (by kernel_rfl) (fun _ _ _ h => h) (Or.inl ⟨by rfl, ?_⟩) hHeld ?_
            rotate_left
            · intro w hSw
              clear hSw
              go_simp
              try with_reducible rfl
            try simp only [Act.put, List.setIfInBounds_toArray, List.set_cons_zero, List.set_cons_succ]
            refine wpAnyH_take (i := 9) (oi := { dst := Option.some 20, op := Go.Op.pick (Go.Operand.tmp 14) (Go.Operand.const (Go.Value.bool Bool.true)) (Go.Operand.tmp 19), type := 4, pos := "ref.go:82", after := #[{ on := 3, ground := Go.Ground.data }, { on := 8, ground := Go.Ground.data }], guard := Option.none }) (v := ?_) rfl (by kernel_rfl) (by kernel_rfl) (by kernel_rfl) (fun _ _ _ h => h) (Or.inl ⟨by rfl, ?_⟩) hHeld ?_
            rotate_left
            · intro w hSw
              clear hSw
              go_simp
              try with_reducible rfl
            try simp only [Act.put, List.setIfInBounds_toArray, List.set_cons_zero, List.set_cons_succ]
            refine wpAnyH_take (i := 10) (oi := { dst := Option.some 21, op := Go.Op.move (Go.Operand.tmp 20), type := 4, pos := "ref.go:82", after := #[{ on := 9, ground := Go.Ground.data }, { on := 7, ground := Go.Ground.chain }], guard := Option.none }) (v := ?_) rfl (by kernel_rfl) (by kernel_rfl) (by kernel_rfl) (fun _ _ _ h => h) (Or.inl ⟨by rfl, ?_⟩) hHeld ?_
            rotate_left
            · intro w hSw
              clear hSw
              go_simp
              try with_reducible rfl
            try simp only [Act.put, List.setIfInBounds_toArray, List.set_cons_zero, List.set_cons_succ]
            refine wpAnyH_take (i := 11) (oi := { dst := Option.some 22, op := Go.Op.fieldAddr 31 (Go.Operand.tmp 3) 1, type := 0, pos := "ref.go:82", after := #[{ on := 10, ground := Go.Ground.guard }], guard := Option.some (10, Bool.false) }) (v := ?_) rfl (by kernel_rfl) (by kernel_rfl) (by kernel_rfl) (fun _ _ _ h => h) (Or.inl ⟨by rfl, ?_⟩) hHeld ?_
            rotate_left
            · intro w hSw
              clear hSw
              go_simp
              try with_reducible rfl
            try simp only [Act.put, List.setIfInBounds_toArray, List.set_cons_zero, List.set_cons_succ]
            refine wpAnyH_take (i := 12) (oi := { dst := Option.some 23, op := Go.Op.load 29 (Go.Operand.tmp 22), type := 29, pos := "ref.go:82", after := #[{ on := 11, ground := Go.Ground.data }, { on := 10, ground := Go.Ground.guard }], guard := Option.some (10, Bool.false) }) (v := ?_) rfl (by kernel_rfl) (by kernel_rfl) (by kernel_rfl) (fun _ _ _ h => h) (Or.inl ⟨by rfl, ?_⟩) hHeld ?_
            rotate_left
            · intro w hSw
              have hfc0 := hSw.2.2.1
              clear hSw
              go_simp
              try with_reducible rfl
            try simp only [Act.put, List.setIfInBounds_toArray, List.set_cons_zero, List.set_cons_succ]
            refine wpAnyH_take (i := 13) (oi := { dst := Option.some 24, op := Go.Op.call { callee := Go.Callee.builtin Go.Builtin.len, args := #[Go.Operand.tmp 23], argTypes := #[29] }, type := 3, pos := "ref.go:82", after := #[{ on := 12, ground := Go.Ground.data }, { on := 10, ground := Go.Ground.guard }], guard := Option.some (10, Bool.false) }) (v := ?_) rfl (by kernel_rfl) (by kernel_rfl) (by kernel_rfl) (fun _ _ _ h => h) (Or.inl ⟨by rfl, ?_⟩) hHeld ?_
            rotate_left
            · intro w hSw
              clear hSw
              go_simp
              try with_reducible rfl
            try simp only [Act.put, List.setIfInBounds_toArray, List.set_cons_zero, List.set_cons_succ]
            refine wpAnyH_take (i := 14) (oi := { dst := Option.some 25, op := Go.Op.binOp Go.BinOp.neq 3 (Go.Operand.tmp 24) (Go.Operand.const (Go.Value.int Go.IntKind.i64 35)) 3, type := 4, pos := "ref.go:82", after := #[{ on := 13, ground := Go.Ground.data }, { on := 10, ground := Go.Ground.guard }], guard := Option.some (10, Bool.false) }) (v := ?_) rfl (by kernel_rfl) (by kernel_rfl) (by kernel_rfl) (fun _ _ _ h => h) (Or.inl ⟨by rfl, ?_⟩) hHeld ?_
            rotate_left
            · intro w hSw
              clear hSw
              go_simp
              try with_reducible rfl
            try simp only [Act.put, List.setIfInBounds_toArray, List.set_cons_zero, List.set_cons_succ]
            refine wpAnyH_take (i := 15) (oi := { dst := Option.some 26, op := Go.Op.pick (Go.Operand.tmp 21) (Go.Operand.const (Go.Value.bool Bool.true)) (Go.Operand.tmp 25), type := 4, pos := "ref.go:82", after := #[{ on := 10, ground := Go.Ground.data }, { on := 14, ground := Go.Ground.data }], guard := Option.none }) (v := ?_) rfl (by kernel_rfl) (by kernel_rfl) (by kernel_rfl) (fun _ _ _ h => h) (Or.inl ⟨by rfl, ?_⟩) hHeld ?_
            rotate_left
            · intro w hSw
              clear hSw
              go_simp
              try with_reducible rfl
            try simp only [Act.put, List.setIfInBounds_toArray, List.set_cons_zero, List.set_cons_succ]
            refine wpAnyH_take (i := 16) (oi := { dst := Option.some 27, op := Go.Op.move (Go.Operand.tmp 26), type := 4, pos := "ref.go:82", after := #[{ on := 15, ground := Go.Ground.data }, { on := 10, ground := Go.Ground.chain }], guard := Option.none }) (v := ?_) rfl (by kernel_rfl) (by kernel_rfl) (by kernel_rfl) (fun _ _ _ h => h) (Or.inl ⟨by rfl, ?_⟩) hHeld ?_
            rotate_left
            · intro w hSw
              clear hSw
              go_simp
              try with_reducible rfl
            try simp only [Act.put, List.setIfInBounds_toArray, List.set_cons_zero, List.set_cons_succ]
            refine wpAnyH_take (i := 17) (oi := { dst := Option.some 28, op := Go.Op.fieldAddr 31 (Go.Operand.tmp 3) 2, type := 0, pos := "ref.go:82", after := #[{ on := 16, ground := Go.Ground.guard }], guard := Option.some (16, Bool.false) }) (v := ?_) rfl (by kernel_rfl) (by kernel_rfl) (by kernel_rfl) (fun _ _ _ h => h) (Or.inl ⟨by rfl, ?_⟩) hHeld ?_
            rotate_left
            · intro w hSw
              clear hSw
              go_simp
              try with_reducible rfl
            try simp only [Act.put, List.setIfInBounds_toArray, List.set_cons_zero, List.set_cons_succ]
            refine wpAnyH_take (i := 18) (oi := { dst := Option.some 29, op := Go.Op.load 29 (Go.Operand.tmp 28), type := 29, pos := "ref.go:82", after := #[{ on := 17, ground := Go.Ground.data }, { on := 16, ground := Go.Ground.guard }], guard := Option.some (16, Bool.false) }) (v := ?_) rfl (by kernel_rfl) (by kernel_rfl) (by kernel_rfl) (fun _ _ _ h => h) (Or.inl ⟨by rfl, ?_⟩) hHeld ?_
            rotate_left
            · intro w hSw
              have hfc0 := hSw.2.2.2
              clear hSw
              go_simp
              try with_reducible rfl
            try simp only [Act.put, List.setIfInBounds_toArray, List.set_cons_zero, List.set_cons_succ]
            refine wpAnyH_take (i := 19) (oi := { dst := Option.some 30, op := Go.Op.call { callee := Go.Callee.builtin Go.Builtin.len, args := #[Go.Operand.tmp 29], argTypes := #[29] }, type := 3, pos := "ref.go:82", after := #[{ on := 18, ground := Go.Ground.data }, { on := 16, ground := Go.Ground.guard }], guard := Option.some (16, Bool.false) }) (v := ?_) rfl (by kernel_rfl) (by kernel_rfl) (by kernel_rfl) (fun _ _ _ h => h) (Or.inl ⟨by rfl, ?_⟩) hHeld ?_
            rotate_left
            · intro w hSw
              clear hSw
              go_simp
              try with_reducible rfl
            try simp only [Act.put, List.setIfInBounds_toArray, List.set_cons_zero, List.set_cons_succ]
            refine wpAnyH_take (i := 20) (oi := { dst := Option.some 31, op := Go.Op.move (Go.Operand.tmp 0), type := 3, pos := "ref.go:82", after := #[{ on := 16, ground := Go.Ground.guard }], guard := Option.some (16, Bool.false) }) (v := ?_) rfl (by kernel_rfl) (by kernel_rfl) (by kernel_rfl) (fun _ _ _ h => h) (Or.inl ⟨by rfl, ?_⟩) hHeld ?_
            rotate_left
            · intro w hSw
              clear hSw
              go_simp
              try with_reducible rfl
            try simp only [Act.put, List.setIfInBounds_toArray, List.set_cons_zero, List.set_cons_succ]
            refine wpAnyH_take (i := 21) (oi := { dst := Option.some 32, op := Go.Op.binOp Go.BinOp.neq 3 (Go.Operand.tmp 30) (Go.Operand.tmp 31) 3, type := 4, pos := "ref.go:82", after := #[{ on := 19, ground := Go.Ground.data }, { on := 20, ground := Go.Ground.data }, { on := 16, ground := Go.Ground.guard }], guard := Option.some (16, Bool.false) }) (v := ?_) rfl (by kernel_rfl) (by kernel_rfl) (by kernel_rfl) (fun _ _ _ h => h) (Or.inl ⟨by rfl, ?_⟩) hHeld ?_
            rotate_left
            · intro w hSw
              clear hSw
              go_simp
              try with_reducible rfl
            try simp only [Act.put, List.setIfInBounds_toArray, List.set_cons_zero, List.set_cons_succ]
            refine wpAnyH_take (i := 22) (oi := { dst := Option.some 33, op := Go.Op.pick (Go.Operand.tmp 27) (Go.Operand.const (Go.Value.bool Bool.true)) (Go.Operand.tmp 32), type := 4, pos := "ref.go:82", after := #[{ on := 16, ground := Go.Ground.data }, { on := 21, ground := Go.Ground.data }], guard := Option.none }) (v := ?_) rfl (by kernel_rfl) (by kernel_rfl) (by kernel_rfl) (fun _ _ _ h => h) (Or.inl ⟨by rfl, ?_⟩) hHeld ?_
            rotate_left
            · intro w hSw
              clear hSw
              go_simp
              try with_reducible rfl
            try simp only [Act.put, List.setIfInBounds_toArray, List.set_cons_zero, List.set_cons_succ]
            refine wpAnyH_done (by kernel_rfl) ?_ _
            have hBe := chain HB0.out hHeld.1
            go_wp2_with fail
            go_ret
            exact ⟨rfl, hBe⟩
          · have hv : chkV (k : Int) n cl pl = 12 := by unfold chkV; rw [if_pos hh, if_neg (fun h => hp0 h.2.2)]
            rw [hv]
            have hk0 : ¬ (k : Int) < 0 := by omega
            have hk5 : ¬ (4 : Int) < (k : Int) := by omega
            have hn1 : ¬ n < 0 := by omega
            have hn2 : ¬ ((2 ^ k : Nat) : Int) ≤ n := by rw [Int.toNat_natCast] at hnp; omega
            have PW := Lib.hid (fun (V : World) => power_ref k hk V)
            obtain ⟨p, hp⟩ : ∃ p : Int, ((2 ^ k : Nat) : Int) = p := ⟨_, rfl⟩
            rw [hp] at hn2 PW
            have hne1 : (((cl : Nat) : Int) != 35) = false := by simp; omega
            have hne : (((pl : Nat) : Int) != (k : Int)) = true := by simp; omega
            obtain ⟨ki, hki⟩ : ∃ ki : Int, (k : Int) = ki := ⟨_, rfl⟩
            rw [hki] at hk0 hk5 PW hne ⊢
            clear hv hh hki hk hn0 hnp hp hc hp0
            go_enter Tryd.func21, Tryd.ntmps21
            go_upto_region 3 with (fail)
            generalize hV : World.alloc w _ = V
            have hb0 : Below w.heap.size w V := by rw [← hV]; exact below_new _ _
            have hr : V.heap[w.heap.size]? = some (.cells #[.int .i64 n, .slice CA cl cc, .slice PA pl pc] 31 (0, 0)) := by rw [← hV]; exact heap_alloc_new _ _
            have HB0 := Lib.hid hb0
            have HR := Lib.hid hr
            have mkS : ∀ z, Below V.heap.size V z → Below V.heap.size V z ∧ z.cell? ⟨w.heap.size, 0, none⟩ = some (.int .i64 n) ∧ z.cell? ⟨w.heap.size, 1, none⟩ = some (.slice CA cl cc) ∧ z.cell? ⟨w.heap.size, 2, none⟩ = some (.slice PA pl pc) := fun z hz => ⟨hz, (facts3 (row_on HR.out hz)).2⟩
            clear hV hb0 hr
            refine wp_region_held_drew (S := fun z => Below V.heap.size V z ∧ z.cell? ⟨w.heap.size, 0, none⟩ = some (.int .i64 n) ∧ z.cell? ⟨w.heap.size, 1, none⟩ = some (.slice CA cl cc) ∧ z.cell? ⟨w.heap.size, 2, none⟩ = some (.slice PA pl pc)) (by kernel_rfl) (mkS _ (Below.refl _ _).drew) (fun hHeld => ?_)
            refine wpAnyH_take (i := 0) (oi := { dst := Option.some 11, op := Go.Op.fieldAddr 31 (Go.Operand.tmp 3) 0, type := 0, pos := "ref.go:82", after := #[], guard := Option.none }) (v := ?_) rfl (by kernel_rfl) (by kernel_rfl) (by kernel_rfl) (fun _ _ _ h => h) (Or.inl ⟨by rfl, ?_⟩) hHeld ?_
            rotate_left
            · intro w hSw
              clear hSw
              go_simp
              try with_reducible rfl
            try simp only [Act.put, List.setIfInBounds_toArray, List.set_cons_zero, List.set_cons_succ]
            refine wpAnyH_take (i := 1) (oi := { dst := Option.some 12, op := Go.Op.load 3 (Go.Operand.tmp 11), type := 3, pos := "ref.go:82", after := #[{ on := 0, ground := Go.Ground.data }], guard := Option.none }) (v := ?_) rfl (by kernel_rfl) (by kernel_rfl) (by kernel_rfl) (fun _ _ _ h => h) (Or.inl ⟨by rfl, ?_⟩) hHeld ?_
            rotate_left
            · intro w hSw
              have hfc0 := hSw.2.1
              clear hSw
              go_simp
              try with_reducible rfl
            try simp only [Act.put, List.setIfInBounds_toArray, List.set_cons_zero, List.set_cons_succ]
            refine wpAnyH_take (i := 2) (oi := { dst := Option.some 13, op := Go.Op.binOp Go.BinOp.lss 3 (Go.Operand.tmp 12) (Go.Operand.const (Go.Value.int Go.IntKind.i64 0)) 3, type := 4, pos := "ref.go:82", after := #[{ on := 1, ground := Go.Ground.data }], guard := Option.none }) (v := ?_) rfl (by kernel_rfl) (by kernel_rfl) (by kernel_rfl) (fun _ _ _ h => h) (Or.inl ⟨by rfl, ?_⟩) hHeld ?_
            rotate_left
            · intro w hSw
              clear hSw
              go_simp
              try with_reducible rfl
            try simp only [Act.put, List.setIfInBounds_toArray, List.set_cons_zero, List.set_cons_succ]
            refine wpAnyH_take (i := 3) (oi := { dst := Option.some 14, op := Go.Op.move (Go.Operand.tmp 13), type := 4, pos := "ref.go:82", after := #[{ on := 2, ground := Go.Ground.data }], guard := Option.none }) (v := ?_) rfl (by kernel_rfl) (by kernel_rfl) (by kernel_rfl) (fun _ _ _ h => h) (Or.inl ⟨by rfl, ?_⟩) hHeld ?_
            rotate_left
            · intro w hSw
              clear hSw
              go_simp
              try with_reducible rfl
            try simp only [Act.put, List.setIfInBounds_toArray, List.set_cons_zero, List.set_cons_succ]
            refine wpAnyH_take (i := 4) (oi := { dst := Option.some 15, op := Go.Op.fieldAddr 31 (Go.Operand.tmp 3) 0, type := 0, pos := "ref.go:82", after := #[{ on := 3, ground := Go.Ground.guard }], guard := Option.some (3, Bool.false) }) (v := ?_) rfl (by kernel_rfl) (by kernel_rfl) (by kernel_rfl) (fun _ _ _ h => h) (Or.inl ⟨by rfl, ?_⟩) hHeld ?_
            rotate_left
            · intro w hSw
              clear hSw
              go_simp
              try with_reducible rfl
            try simp only [Act.put, List.setIfInBounds_toArray, List.set_cons_zero, List.set_cons_succ]
            refine wpAnyH_take (i := 5) (oi := { dst := Option.some 16, op := Go.Op.load 3 (Go.Operand.tmp 15), type := 3, pos := "ref.go:82", after := #[{ on := 4, ground := Go.Ground.data }, { on := 3, ground := Go.Ground.guard }], guard := Option.some (3, Bool.false) }) (v := ?_) rfl (by kernel_rfl) (by kernel_rfl) (by kernel_rfl) (fun _ _ _ h => h) (Or.inl ⟨by rfl, ?_⟩) hHeld ?_
            rotate_left
            · intro w hSw
              have hfc0 := hSw.2.1
              clear hSw
              go_simp
              try with_reducible rfl
            try simp only [Act.put, List.setIfInBounds_toArray, List.set_cons_zero, List.set_cons_succ]
            refine wpAnyH_take (i := 6) (oi := { dst := Option.some 17, op := Go.Op.move (Go.Operand.tmp 0), type := 3, pos := "ref.go:82", after := #[{ on := 3, ground := Go.Ground.guard }], guard := Option.some (3, Bool.false) }) (v := ?_) rfl (by kernel_rfl) (by kernel_rfl) (by kernel_rfl) (fun _ _ _ h => h) (Or.inl ⟨by rfl, ?_⟩) hHeld ?_
            rotate_left
            · intro w hSw
              clear hSw
              go_simp
              try with_reducible rfl
            try simp only [Act.put, List.setIfInBounds_toArray, List.set_cons_zero, List.set_cons_succ]
            refine wpAnyH_ready (rs := [7]) (by kernel_rfl) (by simp) (AllReadyH.cons (o := { dst := Option.some 18, op := Go.Op.call { callee := Go.Callee.value (Go.Operand.func 36), args := #[Go.Operand.tmp 17], argTypes := #[3] }, type := 3, pos := "ref.go:82", after := #[{ on := 6, ground := Go.Ground.data }, { on := 3, ground := Go.Ground.chain }, { on := 3, ground := Go.Ground.guard }], guard := Option.some (3, Bool.false) }) rfl (fun K hK => ?_) AllReadyH.nil)
            go_simp
            refine (PW.out _).mono ?_
            rintro e w8 ⟨rfl, hb8⟩
            go_simp
            refine hK.out _ _ (mkS _ (chain hHeld.1 hb8)) (fun hHeld2 => ?_)
            clear hK K
            have hHeldP := hHeld.1
            clear hHeld
            have hHeld := hHeld2
            clear hHeld2 hHeldP hb8
            try simp only [Act.put, List.setIfInBounds_toArray, List.set_cons_zero, List.set_cons_succ]
            refine wpAnyH_take (i := 8) (oi := { dst := Option.some 19, op := Go.Op.binOp Go.BinOp.geq 3 (Go.Operand.tmp 16) (Go.Operand.tmp 18) 3, type := 4, pos := "ref.go:82", after := #[{ on := 5, ground := Go.Ground.data }, { on := 7, ground := Go.Ground.data }, { on := 3, ground := Go.Ground.guard }], guard := Option.some (3, Bool.false) }) (v := ?_) rfl (by kernel_rfl) (by kernel_rfl) (by kernel_rfl) (fun _ _ _ h => h) (Or.inl ⟨by rfl, ?_⟩) hHeld ?_
            rotate_left
            · intro w hSw
              clear hSw
              go_simp
              try with_reducible rfl
            try simp only [Act.put, List.setIfInBounds_toArray, List.set_cons_zero, List.set_cons_succ]
            refine wpAnyH_take (i := 9) (oi := { dst := Option.some 20, op := Go.Op.pick (Go.Operand.tmp 14) (Go.Operand.const (Go.Value.bool Bool.true)) (Go.Operand.tmp 19), type := 4, pos := "ref.go:82", after := #[{ on := 3, ground := Go.Ground.data }, { on := 8, ground := Go.Ground.data }], guard := Option.none }) (v := ?_) rfl (by kernel_rfl) (by kernel_rfl) (by kernel_rfl) (fun _ _ _ h => h) (Or.inl ⟨by rfl, ?_⟩) hHeld ?_
            rotate_left
            · intro w hSw
              clear hSw
              go_simp
              try with_reducible rfl
            try simp only [Act.put, List.setIfInBounds_toArray, List.set_cons_zero, List.set_cons_succ]
            refine wpAnyH_take (i := 10) (oi := { dst := Option.some 21, op := Go.Op.move (Go.Operand.tmp 20), type := 4, pos := "ref.go:82", after := #[{ on := 9, ground := Go.Ground.data }, { on := 7, ground := Go.Ground.chain }], guard := Option.none }) (v := ?_) rfl (by kernel_rfl) (by kernel_rfl) (by kernel_rfl) (fun _ _ _ h => h) (Or.inl ⟨by rfl, ?_⟩) hHeld ?_
            rotate_left
            · intro w hSw
              clear hSw
              go_simp
              try with_reducible rfl
            try simp only [Act.put, List.setIfInBounds_toArray, List.set_cons_zero, List.set_cons_succ]
            refine wpAnyH_take (i := 11) (oi := { dst := Option.some 22, op := Go.Op.fieldAddr 31 (Go.Operand.tmp 3) 1, type := 0, pos := "ref.go:82", after := #[{ on := 10, ground := Go.Ground.guard }], guard := Option.some (10, Bool.false) }) (v := ?_) rfl (by kernel_rfl) (by kernel_rfl) (by kernel_rfl) (fun _ _ _ h => h) (Or.inl ⟨by rfl, ?_⟩) hHeld ?_
            rotate_left
            · intro w hSw
              clear hSw
              go_simp
              try with_reducible rfl
            try simp only [Act.put, List.setIfInBounds_toArray, List.set_cons_zero, List.set_cons_succ]
            refine wpAnyH_take (i := 12) (oi := { dst := Option.some 23, op := Go.Op.load 29 (Go.Operand.tmp 22), type := 29, pos := "ref.go:82", after := #[{ on := 11, ground := Go.Ground.data }, { on := 10, ground := Go.Ground.guard }], guard := Option.some (10, Bool.false) }) (v := ?_) rfl (by kernel_rfl) (by kernel_rfl) (by kernel_rfl) (fun _ _ _ h => h) (Or.inl ⟨by rfl, ?_⟩) hHeld ?_
            rotate_left
            · intro w hSw
              have hfc0 := hSw.2.2.1
              clear hSw
              go_simp
              try with_reducible rfl
            try simp only [Act.put, List.setIfInBounds_toArray, List.set_cons_zero, List.set_cons_succ]
            refine wpAnyH_take (i := 13) (oi := { dst := Option.some 24, op := Go.Op.call { callee := Go.Callee.builtin Go.Builtin.len, args := #[Go.Operand.tmp 23], argTypes := #[29] }, type := 3, pos := "ref.go:82", after := #[{ on := 12, ground := Go.Ground.data }, { on := 10, ground := Go.Ground.guard }], guard := Option.some (10, Bool.false) }) (v := ?_) rfl (by kernel_rfl) (by kernel_rfl) (by kernel_rfl) (fun _ _ _ h => h) (Or.inl ⟨by rfl, ?_⟩) hHeld ?_
            rotate_left
            · intro w hSw
              clear hSw
              go_simp
              try with_reducible rfl
            try simp only [Act.put, List.setIfInBounds_toArray, List.set_cons_zero, List.set_cons_succ]
            refine wpAnyH_take (i := 14) (oi := { dst := Option.some 25, op := Go.Op.binOp Go.BinOp.neq 3 (Go.Operand.tmp 24) (Go.Operand.const (Go.Value.int Go.IntKind.i64 35)) 3, type := 4, pos := "ref.go:82", after := #[{ on := 13, ground := Go.Ground.data }, { on := 10, ground := Go.Ground.guard }], guard := Option.some (10, Bool.false) }) (v := ?_) rfl (by kernel_rfl) (by kernel_rfl) (by kernel_rfl) (fun _ _ _ h => h) (Or.inl ⟨by rfl, ?_⟩) hHeld ?_
            rotate_left
            · intro w hSw
              clear hSw
              go_simp
              try with_reducible rfl
            try simp only [Act.put, List.setIfInBounds_toArray, List.set_cons_zero, List.set_cons_succ]
            refine wpAnyH_take (i := 15) (oi := { dst := Option.some 26, op := Go.Op.pick (Go.Operand.tmp 21) (Go.Operand.const (Go.Value.bool Bool.true)) (Go.Operand.tmp 25), type := 4, pos := "ref.go:82", after := #[{ on := 10, ground := Go.Ground.data }, { on := 14, ground := Go.Ground.data }], guard := Option.none }) (v := ?_) rfl (by kernel_rfl) (by kernel_rfl) (by kernel_rfl) (fun _ _ _ h => h) (Or.inl ⟨by rfl, ?_⟩) hHeld ?_
            rotate_left
            · intro w hSw
              clear hSw
              go_simp
              try with_reducible rfl
            try simp only [Act.put, List.setIfInBounds_toArray, List.set_cons_zero, List.set_cons_succ]
            refine wpAnyH_take (i := 16) (oi := { dst := Option.some 27, op := Go.Op.move (Go.Operand.tmp 26), type := 4, pos := "ref.go:82", after := #[{ on := 15, ground := Go.Ground.data }, { on := 10, ground := Go.Ground.chain }], guard := Option.none }) (v := ?_) rfl (by kernel_rfl) (by kernel_rfl) (by kernel_rfl) (fun _ _ _ h => h) (Or.inl ⟨by rfl, ?_⟩) hHeld ?_
            rotate_left
            · intro w hSw
              clear hSw
              go_simp
              try with_reducible rfl
            try simp only [Act.put, List.setIfInBounds_toArray, List.set_cons_zero, List.set_cons_succ]
            refine wpAnyH_take (i := 17) (oi := { dst := Option.some 28, op := Go.Op.fieldAddr 31 (Go.Operand.tmp 3) 2, type := 0, pos := "ref.go:82", after := #[{ on := 16, ground := Go.Ground.guard }], guard := Option.some (16, Bool.false) }) (v := ?_) rfl (by kernel_rfl) (by kernel_rfl) (by kernel_rfl) (fun _ _ _ h => h) (Or.inl ⟨by rfl, ?_⟩) hHeld ?_
            rotate_left
            · intro w hSw
              clear hSw
              go_simp
              try with_reducible rfl
            try simp only [Act.put, List.setIfInBounds_toArray, List.set_cons_zero, List.set_cons_succ]
            refine wpAnyH_take (i := 18) (oi := { dst := Option.some 29, op := Go.Op.load 29 (Go.Operand.tmp 28), type := 29, pos := "ref.go:82", after := #[{ on := 17, ground := Go.Ground.data }, { on := 16, ground := Go.Ground.guard }], guard := Option.some (16, Bool.false) }) (v := ?_) rfl (by kernel_rfl) (by kernel_rfl) (by kernel_rfl) (fun _ _ _ h => h) (Or.inl ⟨by rfl, ?_⟩) hHeld ?_
            rotate_left
            · intro w hSw
              have hfc0 := hSw.2.2.2
              clear hSw
              go_simp
              try with_reducible rfl
            try simp only [Act.put, List.setIfInBounds_toArray, List.set_cons_zero, List.set_cons_succ]
            refine wpAnyH_take (i := 19) (oi := { dst := Option.some 30, op := Go.Op.call { callee := Go.Callee.builtin Go.Builtin.len, args := #[Go.Operand.tmp 29], argTypes := #[29] }, type := 3, pos := "ref.go:82", after := #[{ on := 18, ground := Go.Ground.data }, { on := 16, ground := Go.Ground.guard }], guard := Option.some (16, Bool.false) }) (v := ?_) rfl (by kernel_rfl) (by kernel_rfl) (by kernel_rfl) (fun _ _ _ h => h) (Or.inl ⟨by rfl, ?_⟩) hHeld ?_
            rotate_left
            · intro w hSw
              clear hSw
              go_simp
              try with_reducible rfl
            try simp only [Act.put, List.setIfInBounds_toArray, List.set_cons_zero, List.set_cons_succ]
            refine wpAnyH_take (i := 20) (oi := { dst := Option.some 31, op := Go.Op.move (Go.Operand.tmp 0), type := 3, pos := "ref.go:82", after := #[{ on := 16, ground := Go.Ground.guard }], guard := Option.some (16, Bool.false) }) (v := ?_) rfl (by kernel_rfl) (by kernel_rfl) (by kernel_rfl) (fun _ _ _ h => h) (Or.inl ⟨by rfl, ?_⟩) hHeld ?_
            rotate_left
            · intro w hSw
              clear hSw
              go_simp
              try with_reducible rfl
            try simp only [Act.put, List.setIfInBounds_toArray, List.set_cons_zero, List.set_cons_succ]
            refine wpAnyH_take (i := 21) (oi := { dst := Option.some 32, op := Go.Op.binOp Go.BinOp.neq 3 (Go.Operand.tmp 30) (Go.Operand.tmp 31) 3, type := 4, pos := "ref.go:82", after := #[{ on := 19, ground := Go.Ground.data }, { on := 20, ground := Go.Ground.data }, { on := 16, ground := Go.Ground.guard }], guard := Option.some (16, Bool.false) }) (v := ?_) rfl (by kernel_rfl) (by kernel_rfl) (by kernel_rfl) (fun _ _ _ h => h) (Or.inl ⟨by rfl, ?_⟩) hHeld ?_
            rotate_left
            · intro w hSw
              clear hSw
              go_simp
              try with_reducible rfl
            try simp only [Act.put, List.setIfInBounds_toArray, List.set_cons_zero, List.set_cons_succ]
            refine wpAnyH_take (i := 22) (oi := { dst := Option.some 33, op := Go.Op.pick (Go.Operand.tmp 27) (Go.Operand.const (Go.Value.bool Bool.true)) (Go.Operand.tmp 32), type := 4, pos := "ref.go:82", after := #[{ on := 16, ground := Go.Ground.data }, { on := 21, ground := Go.Ground.data }], guard := Option.none }) (v := ?_) rfl (by kernel_rfl) (by kernel_rfl) (by kernel_rfl) (fun _ _ _ h => h) (Or.inl ⟨by rfl, ?_⟩) hHeld ?_
            rotate_left
            · intro w hSw
              clear hSw
              go_simp
              try with_reducible rfl
            try simp only [Act.put, List.setIfInBounds_toArray, List.set_cons_zero, List.set_cons_succ]
            refine wpAnyH_done (by kernel_rfl) ?_ _
            have hBe := chain HB0.out hHeld.1
            go_wp2_with fail
            go_ret
            exact ⟨rfl, hBe⟩
        · have hv : chkV (k : Int) n cl pl = 12 := by unfold chkV; rw [if_pos hh, if_neg (fun h => hc h.2.1)]
          rw [hv]
          have hk0 : ¬ (k : Int) < 0 := by omega
          have hk5 : ¬ (4 : Int) < (k : Int) := by omega
          have hn1 : ¬ n < 0 := by omega
          have hn2 : ¬ ((2 ^ k : Nat) : Int) ≤ n := by rw [Int.toNat_natCast] at hnp; omega
          have PW := Lib.hid (fun (V : World) => power_ref k hk V)
          obtain ⟨p, hp⟩ : ∃ p : Int, ((2 ^ k : Nat) : Int) = p := ⟨_, rfl⟩
          rw [hp] at hn2 PW
          have hne1 : (((cl : Nat) : Int) != 35) = true := by simp; omega
          obtain ⟨ki, hki⟩ : ∃ ki : Int, (k : Int) = ki := ⟨_, rfl⟩
          rw [hki] at hk0 hk5 PW ⊢
          clear hv hh hki hk hn0 hnp hp hc
          go_enter Tryd.func21, Tryd.ntmps21
          go_upto_region 3 with (fail)
          generalize hV : World.alloc w _ = V
          have hb0 : Below w.heap.size w V := by rw [← hV]; exact below_new _ _
          have hr : V.heap[w.heap.size]? = some (.cells #[.int .i64 n, .slice CA cl cc, .slice PA pl pc] 31 (0, 0)) := by rw [← hV]; exact heap_alloc_new _ _
          have HB0 := Lib.hid hb0
          have HR := Lib.hid hr
          have mkS : ∀ z, Below V.heap.size V z → Below V.heap.size V z ∧ z.cell? ⟨w.heap.size, 0, none⟩ = some (.int .i64 n) ∧ z.cell? ⟨w.heap.size, 1, none⟩ = some (.slice CA cl cc) ∧ z.cell? ⟨w.heap.size, 2, none⟩ = some (.slice PA pl pc) := fun z hz => ⟨hz, (facts3 (row_on HR.out hz)).2⟩
          clear hV hb0 hr
          refine wp_region_held_drew (S := fun z => Below V.heap.size V z ∧ z.cell? ⟨w.heap.size, 0, none⟩ = some (.int .i64 n) ∧ z.cell? ⟨w.heap.size, 1, none⟩ = some (.slice CA cl cc) ∧ z.cell? ⟨w.heap.size, 2, none⟩ = some (.slice PA pl pc)) (by kernel_rfl) (mkS _ (Below.refl _ _).drew) (fun hHeld => ?_)
          refine wpAnyH_take (i := 0) (oi := { dst := Option.some 11, op := Go.Op.fieldAddr 31 (Go.Operand.tmp 3) 0, type := 0, pos := "ref.go:82", after := #[], guard := Option.none }) (v := ?_) rfl (by kernel_rfl) (by kernel_rfl) (by kernel_rfl) (fun _ _ _ h => h) (Or.inl ⟨by rfl, ?_⟩) hHeld ?_
          rotate_left
          · intro w hSw
            clear hSw
            go_simp
            try with_reducible rfl
          try simp only [Act.put, List.setIfInBounds_toArray, List.set_cons_zero, List.set_cons_succ]
          refine wpAnyH_take (i := 1) (oi := { dst := Option.some 12, op := Go.Op.load 3 (Go.Operand.tmp 11), type := 3, pos := "ref.go:82", after := #[{ on := 0, ground := Go.Ground.data }], guard := Option.none }) (v := ?_) rfl (by kernel_rfl) (by kernel_rfl) (by kernel_rfl) (fun _ _ _ h => h) (Or.inl ⟨by rfl, ?_⟩) hHeld ?_
          rotate_left
          · intro w hSw
            have hfc0 := hSw.2.1
            clear hSw
            go_simp
            try with_reducible rfl
          try simp only [Act.put, List.setIfInBounds_toArray, List.set_cons_zero, List.set_cons_succ]
          refine wpAnyH_take (i := 2) (oi := { dst := Option.some 13, op := Go.Op.binOp Go.BinOp.lss 3 (Go.Operand.tmp 12) (Go.Operand.const (Go.Value.int Go.IntKind.i64 0)) 3, type := 4, pos := "ref.go:82", after := #[{ on := 1, ground := Go.Ground.data }], guard := Option.none }) (v := ?_) rfl (by kernel_rfl) (by kernel_rfl) (by kernel_rfl) (fun _ _ _ h => h) (Or.inl ⟨by rfl, ?_⟩) hHeld ?_
          rotate_left
          · intro w hSw
            clear hSw
            go_simp
            try with_reducible rfl
          try simp only [Act.put, List.setIfInBounds_toArray, List.set_cons_zero, List.set_cons_succ]
          refine wpAnyH_take (i := 3) (oi := { dst := Option.some 14, op := Go.Op.move (Go.Operand.tmp 13), type := 4, pos := "ref.go:82", after := #[{ on := 2, ground := Go.Ground.data }], guard := Option.none }) (v := ?_) rfl (by kernel_rfl) (by kernel_rfl) (by kernel_rfl) (fun _ _ _ h => h) (Or.inl ⟨by rfl, ?_⟩) hHeld ?_
          rotate_left
          · intro w hSw
            clear hSw
            go_simp
            try with_reducible rfl
          try simp only [Act.put, List.setIfInBounds_toArray, List.set_cons_zero, List.set_cons_succ]
          refine wpAnyH_take (i := 4) (oi := { dst := Option.some 15, op := Go.Op.fieldAddr 31 (Go.Operand.tmp 3) 0, type := 0, pos := "ref.go:82", after := #[{ on := 3, ground := Go.Ground.guard }], guard := Option.some (3, Bool.false) }) (v := ?_) rfl (by kernel_rfl) (by kernel_rfl) (by kernel_rfl) (fun _ _ _ h => h) (Or.inl ⟨by rfl, ?_⟩) hHeld ?_
          rotate_left
          · intro w hSw
            clear hSw
            go_simp
            try with_reducible rfl
          try simp only [Act.put, List.setIfInBounds_toArray, List.set_cons_zero, List.set_cons_succ]
          refine wpAnyH_take (i := 5) (oi := { dst := Option.some 16, op := Go.Op.load 3 (Go.Operand.tmp 15), type := 3, pos := "ref.go:82", after := #[{ on := 4, ground := Go.Ground.data }, { on := 3, ground := Go.Ground.guard }], guard := Option.some (3, Bool.false) }) (v := ?_) rfl (by kernel_rfl) (by kernel_rfl) (by kernel_rfl) (fun _ _ _ h => h) (Or.inl ⟨by rfl, ?_⟩) hHeld ?_
          rotate_left
          · intro w hSw
            have hfc0 := hSw.2.1
            clear hSw
            go_simp
            try with_reducible rfl
          try simp only [Act.put, List.setIfInBounds_toArray, List.set_cons_zero, List.set_cons_succ]
          refine wpAnyH_take (i := 6) (oi := { dst := Option.some 17, op := Go.Op.move (Go.Operand.tmp 0), type := 3, pos := "ref.go:82", after := #[{ on := 3, ground := Go.Ground.guard }], guard := Option.some (3, Bool.false) }) (v := ?_) rfl (by kernel_rfl) (by kernel_rfl) (by kernel_rfl) (fun _ _ _ h => h) (Or.inl ⟨by rfl, ?_⟩) hHeld ?_
          rotate_left
          · intro w hSw
            clear hSw
            go_simp
            try with_reducible rfl
          try simp only [Act.put, List.setIfInBounds_toArray, List.set_cons_zero, List.set_cons_succ]
          refine wpAnyH_ready (rs := [7]) (by kernel_rfl) (by simp) (AllReadyH.cons (o := { dst := Option.some 18, op := Go.Op.call { callee := Go.Callee.value (Go.Operand.func 36), args := #[Go.Operand.tmp 17], argTypes := #[3] }, type := 3, pos := "ref.go:82", after := #[{ on := 6, ground := Go.Ground.data }, { on := 3, ground := Go.Ground.chain }, { on := 3, ground := Go.Ground.guard }], guard := Option.some (3, Bool.false) }) rfl (fun K hK => ?_) AllReadyH.nil)
          go_simp
          refine (PW.out _).mono ?_
          rintro e w8 ⟨rfl, hb8⟩
          go_simp
          refine hK.out _ _ (mkS _ (chain hHeld.1 hb8)) (fun hHeld2 => ?_)
          clear hK K
          have hHeldP := hHeld.1
          clear hHeld
          have hHeld := hHeld2
          clear hHeld2 hHeldP hb8
          try simp only [Act.put, List.setIfInBounds_toArray, List.set_cons_zero, List.set_cons_succ]
          refine wpAnyH_take (i := 8) (oi := { dst := Option.some 19, op := Go.Op.binOp Go.BinOp.geq 3 (Go.Operand.tmp 16) (Go.Operand.tmp 18) 3, type := 4, pos := "ref.go:82", after := #[{ on := 5, ground := Go.Ground.data }, { on := 7, ground := Go.Ground.data }, { on := 3, ground := Go.Ground.guard }], guard := Option.some (3, Bool.false) }) (v := ?_) rfl (by kernel_rfl) (by kernel_rfl) (by kernel_rfl) (fun _ _ _ h => h) (Or.inl ⟨by rfl, ?_⟩) hHeld ?_
          rotate_left
          · intro w hSw
            clear hSw
            go_simp
            try with_reducible rfl
          try simp only [Act.put, List.setIfInBounds_toArray, List.set_cons_zero, List.set_cons_succ]
          refine wpAnyH_take (i := 9) (oi := { dst := Option.some 20, op := Go.Op.pick (Go.Operand.tmp 14) (Go.Operand.const (Go.Value.bool Bool.true)) (Go.Operand.tmp 19), type := 4, pos := "ref.go:82", after := #[{ on := 3, ground := Go.Ground.data }, { on := 8, ground := Go.Ground.data }], guard := Option.none }) (v := ?_) rfl (by kernel_rfl) (by kernel_rfl) (by kernel_rfl) (fun _ _ _ h => h) (Or.inl ⟨by rfl, ?_⟩) hHeld ?_
          rotate_left
          · intro w hSw
            clear hSw
            go_simp
            try with_reducible rfl
          try simp only [Act.put, List.setIfInBounds_toArray, List.set_cons_zero, List.set_cons_succ]
          refine wpAnyH_take (i := 10) (oi := { dst := Option.some 21, op := Go.Op.move (Go.Operand.tmp 20), type := 4, pos := "ref.go:82", after := #[{ on := 9, ground := Go.Ground.data }, { on := 7, ground := Go.Ground.chain }], guard := Option.none }) (v := ?_) rfl (by kernel_rfl) (by kernel_rfl) (by kernel_rfl) (fun _ _ _ h => h) (Or.inl ⟨by rfl, ?_⟩) hHeld ?_
          rotate_left
          · intro w hSw
            clear hSw
            go_simp
            try with_reducible rfl
          try simp only [Act.put, List.setIfInBounds_toArray, List.set_cons_zero, List.set_cons_succ]
          refine wpAnyH_take (i := 11) (oi := { dst := Option.some 22, op := Go.Op.fieldAddr 31 (Go.Operand.tmp 3) 1, type := 0, pos := "ref.go:82", after := #[{ on := 10, ground := Go.Ground.guard }], guard := Option.some (10, Bool.false) }) (v := ?_) rfl (by kernel_rfl) (by kernel_rfl) (by kernel_rfl) (fun _ _ _ h => h) (Or.inl ⟨by rfl, ?_⟩) hHeld ?_
          rotate_left
          · intro w hSw
            clear hSw
            go_simp
            try with_reducible rfl
          try simp only [Act.put, List.setIfInBounds_toArray, List.set_cons_zero, List.set_cons_succ]
          refine wpAnyH_take (i := 12) (oi := { dst := Option.some 23, op := Go.Op.load 29 (Go.Operand.tmp 22), type := 29, pos := "ref.go:82", after := #[{ on := 11, ground := Go.Ground.data }, { on := 10, ground := Go.Ground.guard }], guard := Option.some (10, Bool.false) }) (v := ?_) rfl (by kernel_rfl) (by kernel_rfl) (by kernel_rfl) (fun _ _ _ h => h) (Or.inl ⟨by rfl, ?_⟩) hHeld ?_
          rotate_left
          · intro w hSw
            have hfc0 := hSw.2.2.1
            clear hSw
            go_simp
            try with_reducible rfl
          try simp only [Act.put, List.setIfInBounds_toArray, List.set_cons_zero, List.set_cons_succ]
          refine wpAnyH_take (i := 13) (oi := { dst := Option.some 24, op := Go.Op.call { callee := Go.Callee.builtin Go.Builtin.len, args := #[Go.Operand.tmp 23], argTypes := #[29] }, type := 3, pos := "ref.go:82", after := #[{ on := 12, ground := Go.Ground.data }, { on := 10, ground := Go.Ground.guard }], guard := Option.some (10, Bool.false) }) (v := ?_) rfl (by kernel_rfl) (by kernel_rfl) (by kernel_rfl) (fun _ _ _ h => h) (Or.inl ⟨by rfl, ?_⟩) hHeld ?_
          rotate_left
          · intro w hSw
            clear hSw
            go_simp
            try with_reducible rfl
          try simp only [Act.put, List.setIfInBounds_toArray, List.set_cons_zero, List.set_cons_succ]
          refine wpAnyH_take (i := 14) (oi := { dst := Option.some 25, op := Go.Op.binOp Go.BinOp.neq 3 (Go.Operand.tmp 24) (Go.Operand.const (Go.Value.int Go.IntKind.i64 35)) 3, type := 4, pos := "ref.go:82", after := #[{ on := 13, ground := Go.Ground.data }, { on := 10, ground := Go.Ground.guard }], guard := Option.some (10, Bool.false) }) (v := ?_) rfl (by kernel_rfl) (by kernel_rfl) (by kernel_rfl) (fun _ _ _ h => h) (Or.inl ⟨by rfl, ?_⟩) hHeld ?_
          rotate_left
          · intro w hSw
            clear hSw
            go_simp
            try with_reducible rfl
          try simp only [Act.put, List.setIfInBounds_toArray, List.set_cons_zero, List.set_cons_succ]
          refine wpAnyH_take (i := 15) (oi := { dst := Option.some 26, op := Go.Op.pick (Go.Operand.tmp 21) (Go.Operand.const (Go.Value.bool Bool.true)) (Go.Operand.tmp 25), type := 4, pos := "ref.go:82", after := #[{ on := 10, ground := Go.Ground.data }, { on := 14, ground := Go.Ground.data }], guard := Option.none }) (v := ?_) rfl (by kernel_rfl) (by kernel_rfl) (by kernel_rfl) (fun _ _ _ h => h) (Or.inl ⟨by rfl, ?_⟩) hHeld ?_
          rotate_left
          · intro w hSw
            clear hSw
            go_simp
            try with_reducible rfl
          try simp only [Act.put, List.setIfInBounds_toArray, List.set_cons_zero, List.set_cons_succ]
          refine wpAnyH_take (i := 16) (oi := { dst := Option.some 27, op := Go.Op.move (Go.Operand.tmp 26), type := 4, pos := "ref.go:82", after := #[{ on := 15, ground := Go.Ground.data }, { on := 10, ground := Go.Ground.chain }], guard := Option.none }) (v := ?_) rfl (by kernel_rfl) (by kernel_rfl) (by kernel_rfl) (fun _ _ _ h => h) (Or.inl ⟨by rfl, ?_⟩) hHeld ?_
          rotate_left
          · intro w hSw
            clear hSw
            go_simp
            try with_reducible rfl
          try simp only [Act.put, List.setIfInBounds_toArray, List.set_cons_zero, List.set_cons_succ]
          refine wpAnyH_take (i := 17) (oi := { dst := Option.some 28, op := Go.Op.fieldAddr 31 (Go.Operand.tmp 3) 2, type := 0, pos := "ref.go:82", after := #[{ on := 16, ground := Go.Ground.guard }], guard := Option.some (16, Bool.false) }) (v := undef) rfl (by kernel_rfl) (by kernel_rfl) (by kernel_rfl) (fun _ _ _ h => h) (Or.inr ⟨by rfl, rfl⟩) hHeld ?_
          try simp only [Act.put, List.setIfInBounds_toArray, List.set_cons_zero, List.set_cons_succ]
          refine wpAnyH_take (i := 18) (oi := { dst := Option.some 29, op := Go.Op.load 29 (Go.Operand.tmp 28), type := 29, pos := "ref.go:82", after := #[{ on := 17, ground := Go.Ground.data }, { on := 16, ground := Go.Ground.guard }], guard := Option.some (16, Bool.false) }) (v := undef) rfl (by kernel_rfl) (by kernel_rfl) (by kernel_rfl) (fun _ _ _ h => h) (Or.inr ⟨by rfl, rfl⟩) hHeld ?_
          try simp only [Act.put, List.setIfInBounds_toArray, List.set_cons_zero, List.set_cons_succ]
          refine wpAnyH_take (i := 19) (oi := { dst := Option.some 30, op := Go.Op.call { callee := Go.Callee.builtin Go.Builtin.len, args := #[Go.Operand.tmp 29], argTypes := #[29] }, type := 3, pos := "ref.go:82", after := #[{ on := 18, ground := Go.Ground.data }, { on := 16, ground := Go.Ground.guard }], guard := Option.some (16, Bool.false) }) (v := undef) rfl (by kernel_rfl) (by kernel_rfl) (by kernel_rfl) (fun _ _ _ h => h) (Or.inr ⟨by rfl, rfl⟩) hHeld ?_
          try simp only [Act.put, List.setIfInBounds_toArray, List.set_cons_zero, List.set_cons_succ]
          refine wpAnyH_take (i := 20) (oi := { dst := Option.some 31, op := Go.Op.move (Go.Operand.tmp 0), type := 3, pos := "ref.go:82", after := #[{ on := 16, ground := Go.Ground.guard }], guard := Option.some (16, Bool.false) }) (v := undef) rfl (by kernel_rfl) (by kernel_rfl) (by kernel_rfl) (fun _ _ _ h => h) (Or.inr ⟨by rfl, rfl⟩) hHeld ?_
          try simp only [Act.put, List.setIfInBounds_toArray, List.set_cons_zero, List.set_cons_succ]
          refine wpAnyH_take (i := 21) (oi := { dst := Option.some 32, op := Go.Op.binOp Go.BinOp.neq 3 (Go.Operand.tmp 30) (Go.Operand.tmp 31) 3, type := 4, pos := "ref.go:82", after := #[{ on := 19, ground := Go.Ground.data }, { on := 20, ground := Go.Ground.data }, { on := 16, ground := Go.Ground.guard }], guard := Option.some (16, Bool.false) }) (v := undef) rfl (by kernel_rfl) (by kernel_rfl) (by kernel_rfl) (fun _ _ _ h => h) (Or.inr ⟨by rfl, rfl⟩) hHeld ?_
          try simp only [Act.put, List.setIfInBounds_toArray, List.set_cons_zero, List.set_cons_succ]
          refine wpAnyH_take (i := 22) (oi := { dst := Option.some 33, op := Go.Op.pick (Go.Operand.tmp 27) (Go.Operand.const (Go.Value.bool Bool.true)) (Go.Operand.tmp 32), type := 4, pos := "ref.go:82", after := #[{ on := 16, ground := Go.Ground.data }, { on := 21, ground := Go.Ground.data }], guard := Option.none }) (v := ?_) rfl (by kernel_rfl) (by kernel_rfl) (by kernel_rfl) (fun _ _ _ h => h) (Or.inl ⟨by rfl, ?_⟩) hHeld ?_
          rotate_left
          · intro w hSw
            clear hSw
            go_simp
            try with_reducible rfl
          try simp only [Act.put, List.setIfInBounds_toArray, List.set_cons_zero, List.set_cons_succ]
          refine wpAnyH_done (by kernel_rfl) ?_ _
          have hBe := chain HB0.out hHeld.1
          go_wp2_with fail
          go_ret
          exact ⟨rfl, hBe⟩
      · have hv : chkV (k : Int) n cl pl = 12 := by unfold chkV; rw [if_pos hh, if_neg (fun h => hnp h.1.2)]
        rw [hv]
        have hk0 : ¬ (k : Int) < 0 := by omega
        have hk5 : ¬ (4 : Int) < (k : Int) := by omega
        have hn1 : ¬ n < 0 := by omega
        have hn2 : ((2 ^ k : Nat) : Int) ≤ n := by rw [Int.toNat_natCast] at hnp; omega
        have PW := Lib.hid (fun (V : World) => power_ref k hk V)
        obtain ⟨p, hp⟩ : ∃ p : Int, ((2 ^ k : Nat) : Int) = p := ⟨_, rfl⟩
        rw [hp] at hn2 PW
        obtain ⟨ki, hki⟩ : ∃ ki : Int, (k : Int) = ki := ⟨_, rfl⟩
        rw [hki] at hk0 hk5 PW ⊢
        clear hv hh hki hk hn0 hnp hp
        go_enter Tryd.func21, Tryd.ntmps21
        go_upto_region 3 with (fail)
        generalize hV : World.alloc w _ = V
        have hb0 : Below w.heap.size w V := by rw [← hV]; exact below_new _ _
        have hr : V.heap[w.heap.size]? = some (.cells #[.int .i64 n, .slice CA cl cc, .slice PA pl pc] 31 (0, 0)) := by rw [← hV]; exact heap_alloc_new _ _
        have HB0 := Lib.hid hb0
        have HR := Lib.hid hr
        have mkS : ∀ z, Below V.heap.size V z → Below V.heap.size V z ∧ z.cell? ⟨w.heap.size, 0, none⟩ = some (.int .i64 n) ∧ z.cell? ⟨w.heap.size, 1, none⟩ = some (.slice CA cl cc) ∧ z.cell? ⟨w.heap.size, 2, none⟩ = some (.slice PA pl pc) := fun z hz => ⟨hz, (facts3 (row_on HR.out hz)).2⟩
        clear hV hb0 hr
        refine wp_region_held_drew (S := fun z => Below V.heap.size V z ∧ z.cell? ⟨w.heap.size, 0, none⟩ = some (.int .i64 n) ∧ z.cell? ⟨w.heap.size, 1, none⟩ = some (.slice CA cl cc) ∧ z.cell? ⟨w.heap.size, 2, none⟩ = some (.slice PA pl pc)) (by kernel_rfl) (mkS _ (Below.refl _ _).drew) (fun hHeld => ?_)
        refine wpAnyH_take (i := 0) (oi := { dst := Option.some 11, op := Go.Op.fieldAddr 31 (Go.Operand.tmp 3) 0, type := 0, pos := "ref.go:82", after := #[], guard := Option.none }) (v := ?_) rfl (by kernel_rfl) (by kernel_rfl) (by kernel_rfl) (fun _ _ _ h => h) (Or.inl ⟨by rfl, ?_⟩) hHeld ?_
        rotate_left
        · intro w hSw
          clear hSw
          go_simp
          try with_reducible rfl
        try simp only [Act.put, List.setIfInBounds_toArray, List.set_cons_zero, List.set_cons_succ]
        refine wpAnyH_take (i := 1) (oi := { dst := Option.some 12, op := Go.Op.load 3 (Go.Operand.tmp 11), type := 3, pos := "ref.go:82", after := #[{ on := 0, ground := Go.Ground.data }], guard := Option.none }) (v := ?_) rfl (by kernel_rfl) (by kernel_rfl) (by kernel_rfl) (fun _ _ _ h => h) (Or.inl ⟨by rfl, ?_⟩) hHeld ?_
        rotate_left
        · intro w hSw
          have hfc0 := hSw.2.1
          clear hSw
          go_simp
          try with_reducible rfl
        try simp only [Act.put, List.setIfInBounds_toArray, List.set_cons_zero, List.set_cons_succ]
        refine wpAnyH_take (i := 2) (oi := { dst := Option.some 13, op := Go.Op.binOp Go.BinOp.lss 3 (Go.Operand.tmp 12) (Go.Operand.const (Go.Value.int Go.IntKind.i64 0)) 3, type := 4, pos := "ref.go:82", after := #[{ on := 1, ground := Go.Ground.data }], guard := Option.none }) (v := ?_) rfl (by kernel_rfl) (by kernel_rfl) (by kernel_rfl) (fun _ _ _ h => h) (Or.inl ⟨by rfl, ?_⟩) hHeld ?_
        rotate_left
        · intro w hSw
          clear hSw
          go_simp
          try with_reducible rfl
        try simp only [Act.put, List.setIfInBounds_toArray, List.set_cons_zero, List.set_cons_succ]
        refine wpAnyH_take (i := 3) (oi := { dst := Option.some 14, op := Go.Op.move (Go.Operand.tmp 13), type := 4, pos := "ref.go:82", after := #[{ on := 2, ground := Go.Ground.data }], guard := Option.none }) (v := ?_) rfl (by kernel_rfl) (by kernel_rfl) (by kernel_rfl) (fun _ _ _ h => h) (Or.inl ⟨by rfl, ?_⟩) hHeld ?_
        rotate_left
        · intro w hSw
          clear hSw
          go_simp
          try with_reducible rfl
        try simp only [Act.put, List.setIfInBounds_toArray, List.set_cons_zero, List.set_cons_succ]
        refine wpAnyH_take (i := 4) (oi := { dst := Option.some 15, op := Go.Op.fieldAddr 31 (Go.Operand.tmp 3) 0, type := 0, pos := "ref.go:82", after := #[{ on := 3, ground := Go.Ground.guard }], guard := Option.some (3, Bool.false) }) (v := ?_) rfl (by kernel_rfl) (by kernel_rfl) (by kernel_rfl) (fun _ _ _ h => h) (Or.inl ⟨by rfl, ?_⟩) hHeld ?_
        rotate_left
        · intro w hSw
          clear hSw
          go_simp
          try with_reducible rfl
        try simp only [Act.put, List.setIfInBounds_toArray, List.set_cons_zero, List.set_cons_succ]
        refine wpAnyH_take (i := 5) (oi := { dst := Option.some 16, op := Go.Op.load 3 (Go.Operand.tmp 15), type := 3, pos := "ref.go:82", after := #[{ on := 4, ground := Go.Ground.data }, { on := 3, ground := Go.Ground.guard }], guard := Option.some (3, Bool.false) }) (v := ?_) rfl (by kernel_rfl) (by kernel_rfl) (by kernel_rfl) (fun _ _ _ h => h) (Or.inl ⟨by rfl, ?_⟩) hHeld ?_
        rotate_left
        · intro w hSw
          have hfc0 := hSw.2.1
          clear hSw
          go_simp
          try with_reducible rfl
        try simp only [Act.put, List.setIfInBounds_toArray, List.set_cons_zero, List.set_cons_succ]
        refine wpAnyH_take (i := 6) (oi := { dst := Option.some 17, op := Go.Op.move (Go.Operand.tmp 0), type := 3, pos := "ref.go:82", after := #[{ on := 3, ground := Go.Ground.guard }], guard := Option.some (3, Bool.false) }) (v := ?_) rfl (by kernel_rfl) (by kernel_rfl) (by kernel_rfl) (fun _ _ _ h => h) (Or.inl ⟨by rfl, ?_⟩) hHeld ?_
        rotate_left
        · intro w hSw
          clear hSw
          go_simp
          try with_reducible rfl
        try simp only [Act.put, List.setIfInBounds_toArray, List.set_cons_zero, List.set_cons_succ]
        refine wpAnyH_ready (rs := [7]) (by kernel_rfl) (by simp) (AllReadyH.cons (o := { dst := Option.some 18, op := Go.Op.call { callee := Go.Callee.value (Go.Operand.func 36), args := #[Go.Operand.tmp 17], argTypes := #[3] }, type := 3, pos := "ref.go:82", after := #[{ on := 6, ground := Go.Ground.data }, { on := 3, ground := Go.Ground.chain }, { on := 3, ground := Go.Ground.guard }], guard := Option.some (3, Bool.false) }) rfl (fun K hK => ?_) AllReadyH.nil)
        go_simp
        refine (PW.out _).mono ?_
        rintro e w8 ⟨rfl, hb8⟩
        go_simp
        refine hK.out _ _ (mkS _ (chain hHeld.1 hb8)) (fun hHeld2 => ?_)
        clear hK K
        have hHeldP := hHeld.1
        clear hHeld
        have hHeld := hHeld2
        clear hHeld2 hHeldP hb8
        try simp only [Act.put, List.setIfInBounds_toArray, List.set_cons_zero, List.set_cons_succ]
        refine wpAnyH_take (i := 8) (oi := { dst := Option.some 19, op := Go.Op.binOp Go.BinOp.geq 3 (Go.Operand.tmp 16) (Go.Operand.tmp 18) 3, type := 4, pos := "ref.go:82", after := #[{ on := 5, ground := Go.Ground.data }, { on := 7, ground := Go.Ground.data }, { on := 3, ground := Go.Ground.guard }], guard := Option.some (3, Bool.false) }) (v := ?_) rfl (by kernel_rfl) (by kernel_rfl) (by kernel_rfl) (fun _ _ _ h => h) (Or.inl ⟨by rfl, ?_⟩) hHeld ?_
        rotate_left
        · intro w hSw
          clear hSw
          go_simp
          try with_reducible rfl
        try simp only [Act.put, List.setIfInBounds_toArray, List.set_cons_zero, List.set_cons_succ]
        refine wpAnyH_take (i := 9) (oi := { dst := Option.some 20, op := Go.Op.pick (Go.Operand.tmp 14) (Go.Operand.const (Go.Value.bool Bool.true)) (Go.Operand.tmp 19), type := 4, pos := "ref.go:82", after := #[{ on := 3, ground := Go.Ground.data }, { on := 8, ground := Go.Ground.data }], guard := Option.none }) (v := ?_) rfl (by kernel_rfl) (by kernel_rfl) (by kernel_rfl) (fun _ _ _ h => h) (Or.inl ⟨by rfl, ?_⟩) hHeld ?_
        rotate_left
        · intro w hSw
          clear hSw
          go_simp
          try with_reducible rfl
        try simp only [Act.put, List.setIfInBounds_toArray, List.set_cons_zero, List.set_cons_succ]
        refine wpAnyH_take (i := 10) (oi := { dst := Option.some 21, op := Go.Op.move (Go.Operand.tmp 20), type := 4, pos := "ref.go:82", after := #[{ on := 9, ground := Go.Ground.data }, { on := 7, ground := Go.Ground.chain }], guard := Option.none }) (v := ?_) rfl (by kernel_rfl) (by kernel_rfl) (by kernel_rfl) (fun _ _ _ h => h) (Or.inl ⟨by rfl, ?_⟩) hHeld ?_
        rotate_left
        · intro w hSw
          clear hSw
          go_simp
          try with_reducible rfl
        try simp only [Act.put, List.setIfInBounds_toArray, List.set_cons_zero, List.set_cons_succ]
        refine wpAnyH_take (i := 11) (oi := { dst := Option.some 22, op := Go.Op.fieldAddr 31 (Go.Operand.tmp 3) 1, type := 0, pos := "ref.go:82", after := #[{ on := 10, ground := Go.Ground.guard }], guard := Option.some (10, Bool.false) }) (v := undef) rfl (by kernel_rfl) (by kernel_rfl) (by kernel_rfl) (fun _ _ _ h => h) (Or.inr ⟨by rfl, rfl⟩) hHeld ?_
        try simp only [Act.put, List.setIfInBounds_toArray, List.set_cons_zero, List.set_cons_succ]
        refine wpAnyH_take (i := 12) (oi := { dst := Option.some 23, op := Go.Op.load 29 (Go.Operand.tmp 22), type := 29, pos := "ref.go:82", after := #[{ on := 11, ground := Go.Ground.data }, { on := 10, ground := Go.Ground.guard }], guard := Option.some (10, Bool.false) }) (v := undef) rfl (by kernel_rfl) (by kernel_rfl) (by kernel_rfl) (fun _ _ _ h => h) (Or.inr ⟨by rfl, rfl⟩) hHeld ?_
        try simp only [Act.put, List.setIfInBounds_toArray, List.set_cons_zero, List.set_cons_succ]
        refine wpAnyH_take (i := 13) (oi := { dst := Option.some 24, op := Go.Op.call { callee := Go.Callee.builtin Go.Builtin.len, args := #[Go.Operand.tmp 23], argTypes := #[29] }, type := 3, pos := "ref.go:82", after := #[{ on := 12, ground := Go.Ground.data }, { on := 10, ground := Go.Ground.guard }], guard := Option.some (10, Bool.false) }) (v := undef) rfl (by kernel_rfl) (by kernel_rfl) (by kernel_rfl) (fun _ _ _ h => h) (Or.inr ⟨by rfl, rfl⟩) hHeld ?_
        try simp only [Act.put, List.setIfInBounds_toArray, List.set_cons_zero, List.set_cons_succ]
        refine wpAnyH_take (i := 14) (oi := { dst := Option.some 25, op := Go.Op.binOp Go.BinOp.neq 3 (Go.Operand.tmp 24) (Go.Operand.const (Go.Value.int Go.IntKind.i64 35)) 3, type := 4, pos := "ref.go:82", after := #[{ on := 13, ground := Go.Ground.data }, { on := 10, ground := Go.Ground.guard }], guard := Option.some (10, Bool.false) }) (v := undef) rfl (by kernel_rfl) (by kernel_rfl) (by kernel_rfl) (fun _ _ _ h => h) (Or.inr ⟨by rfl, rfl⟩) hHeld ?_
        try simp only [Act.put, List.setIfInBounds_toArray, List.set_cons_zero, List.set_cons_succ]
        refine wpAnyH_take (i := 15) (oi := { dst := Option.some 26, op := Go.Op.pick (Go.Operand.tmp 21) (Go.Operand.const (Go.Value.bool Bool.true)) (Go.Operand.tmp 25), type := 4, pos := "ref.go:82", after := #[{ on := 10, ground := Go.Ground.data }, { on := 14, ground := Go.Ground.data }], guard := Option.none }) (v := ?_) rfl (by kernel_rfl) (by kernel_rfl) (by kernel_rfl) (fun _ _ _ h => h) (Or.inl ⟨by rfl, ?_⟩) hHeld ?_
        rotate_left
        · intro w hSw
          clear hSw
          go_simp
          try with_reducible rfl
        try simp only [Act.put, List.setIfInBounds_toArray, List.set_cons_zero, List.set_cons_succ]
        refine wpAnyH_take (i := 16) (oi := { dst := Option.some 27, op := Go.Op.move (Go.Operand.tmp 26), type := 4, pos := "ref.go:82", after := #[{ on := 15, ground := Go.Ground.data }, { on := 10, ground := Go.Ground.chain }], guard := Option.none }) (v := ?_) rfl (by kernel_rfl) (by kernel_rfl) (by kernel_rfl) (fun _ _ _ h => h) (Or.inl ⟨by rfl, ?_⟩) hHeld ?_
        rotate_left
        · intro w hSw
          clear hSw
          go_simp
          try with_reducible rfl
        try simp only [Act.put, List.setIfInBounds_toArray, List.set_cons_zero, List.set_cons_succ]
        refine wpAnyH_take (i := 17) (oi := { dst := Option.some 28, op := Go.Op.fieldAddr 31 (Go.Operand.tmp 3) 2, type := 0, pos := "ref.go:82", after := #[{ on := 16, ground := Go.Ground.guard }], guard := Option.some (16, Bool.false) }) (v := undef) rfl (by kernel_rfl) (by kernel_rfl) (by kernel_rfl) (fun _ _ _ h => h) (Or.inr ⟨by rfl, rfl⟩) hHeld ?_
        try simp only [Act.put, List.setIfInBounds_toArray, List.set_cons_zero, List.set_cons_succ]
        refine wpAnyH_take (i := 18) (oi := { dst := Option.some 29, op := Go.Op.load 29 (Go.Operand.tmp 28), type := 29, pos := "ref.go:82", after := #[{ on := 17, ground := Go.Ground.data }, { on := 16, ground := Go.Ground.guard }], guard := Option.some (16, Bool.false) }) (v := undef) rfl (by kernel_rfl) (by kernel_rfl) (by kernel_rfl) (fun _ _ _ h => h) (Or.inr ⟨by rfl, rfl⟩) hHeld ?_
        try simp only [Act.put, List.setIfInBounds_toArray, List.set_cons_zero, List.set_cons_succ]
        refine wpAnyH_take (i := 19) (oi := { dst := Option.some 30, op := Go.Op.call { callee := Go.Callee.builtin Go.Builtin.len, args := #[Go.Operand.tmp 29], argTypes := #[29] }, type := 3, pos := "ref.go:82", after := #[{ on := 18, ground := Go.Ground.data }, { on := 16, ground := Go.Ground.guard }], guard := Option.some (16, Bool.false) }) (v := undef) rfl (by kernel_rfl) (by kernel_rfl) (by kernel_rfl) (fun _ _ _ h => h) (Or.inr ⟨by rfl, rfl⟩) hHeld ?_
        try simp only [Act.put, List.setIfInBounds_toArray, List.set_cons_zero, List.set_cons_succ]
        refine wpAnyH_take (i := 20) (oi := { dst := Option.some 31, op := Go.Op.move (Go.Operand.tmp 0), type := 3, pos := "ref.go:82", after := #[{ on := 16, ground := Go.Ground.guard }], guard := Option.some (16, Bool.false) }) (v := undef) rfl (by kernel_rfl) (by kernel_rfl) (by kernel_rfl) (fun _ _ _ h => h) (Or.inr ⟨by rfl, rfl⟩) hHeld ?_
        try simp only [Act.put, List.setIfInBounds_toArray, List.set_cons_zero, List.set_cons_succ]
        refine wpAnyH_take (i := 21) (oi := { dst := Option.some 32, op := Go.Op.binOp Go.BinOp.neq 3 (Go.Operand.tmp 30) (Go.Operand.tmp 31) 3, type := 4, pos := "ref.go:82", after := #[{ on := 19, ground := Go.Ground.data }, { on := 20, ground := Go.Ground.data }, { on := 16, ground := Go.Ground.guard }], guard := Option.some (16, Bool.false) }) (v := undef) rfl (by kernel_rfl) (by kernel_rfl) (by kernel_rfl) (fun _ _ _ h => h) (Or.inr ⟨by rfl, rfl⟩) hHeld ?_
        try simp only [Act.put, List.setIfInBounds_toArray, List.set_cons_zero, List.set_cons_succ]
        refine wpAnyH_take (i := 22) (oi := { dst := Option.some 33, op := Go.Op.pick (Go.Operand.tmp 27) (Go.Operand.const (Go.Value.bool Bool.true)) (Go.Operand.tmp 32), type := 4, pos := "ref.go:82", after := #[{ on := 16, ground := Go.Ground.data }, { on := 21, ground := Go.Ground.data }], guard := Option.none }) (v := ?_) rfl (by kernel_rfl) (by kernel_rfl) (by kernel_rfl) (fun _ _ _ h => h) (Or.inl ⟨by rfl, ?_⟩) hHeld ?_
        rotate_left
        · intro w hSw
          clear hSw
          go_simp
          try with_reducible rfl
        try simp only [Act.put, List.setIfInBounds_toArray, List.set_cons_zero, List.set_cons_succ]
        refine wpAnyH_done (by kernel_rfl) ?_ _
        have hBe := chain HB0.out hHeld.1
        go_wp2_with fail
        go_ret
        exact ⟨rfl, hBe⟩
    · have hv : chkV (k : Int) n cl pl = 12 := by unfold chkV; rw [if_pos hh, if_neg (fun h => hn0 h.1.1)]
      rw [hv]
      have hk0 : ¬ (k : Int) < 0 := by omega
      have hk5 : ¬ (4 : Int) < (k : Int) := by omega
      have hn1 : n < 0 := by omega
      obtain ⟨ki, hki⟩ : ∃ ki : Int, (k : Int) = ki := ⟨_, rfl⟩
      rw [hki] at hk0 hk5 ⊢
      clear hv hh hki hk hn0
      go_enter Tryd.func21, Tryd.ntmps21
      go_upto_region 3 with (fail)
      generalize hV : World.alloc w _ = V
      have hb0 : Below w.heap.size w V := by rw [← hV]; exact below_new _ _
      have hr : V.heap[w.heap.size]? = some (.cells #[.int .i64 n, .slice CA cl cc, .slice PA pl pc] 31 (0, 0)) := by rw [← hV]; exact heap_alloc_new _ _
      have HB0 := Lib.hid hb0
      have HR := Lib.hid hr
      have mkS : ∀ z, Below V.heap.size V z → Below V.heap.size V z ∧ z.cell? ⟨w.heap.size, 0, none⟩ = some (.int .i64 n) ∧ z.cell? ⟨w.heap.size, 1, none⟩ = some (.slice CA cl cc) ∧ z.cell? ⟨w.heap.size, 2, none⟩ = some (.slice PA pl pc) := fun z hz => ⟨hz, (facts3 (row_on HR.out hz)).2⟩
      clear hV hb0 hr
      refine wp_region_held_drew (S := fun z => Below V.heap.size V z ∧ z.cell? ⟨w.heap.size, 0, none⟩ = some (.int .i64 n) ∧ z.cell? ⟨w.heap.size, 1, none⟩ = some (.slice CA cl cc) ∧ z.cell? ⟨w.heap.size, 2, none⟩ = some (.slice PA pl pc)) (by kernel_rfl) (mkS _ (Below.refl _ _).drew) (fun hHeld => ?_)
      refine wpAnyH_take (i := 0) (oi := { dst := Option.some 11, op := Go.Op.fieldAddr 31 (Go.Operand.tmp 3) 0, type := 0, pos := "ref.go:82", after := #[], guard := Option.none }) (v := ?_) rfl (by kernel_rfl) (by kernel_rfl) (by kernel_rfl) (fun _ _ _ h => h) (Or.inl ⟨by rfl, ?_⟩) hHeld ?_
      rotate_left
      · intro w hSw
        clear hSw
        go_simp
        try with_reducible rfl
      try simp only [Act.put, List.setIfInBounds_toArray, List.set_cons_zero, List.set_cons_succ]
      refine wpAnyH_take (i := 1) (oi := { dst := Option.some 12, op := Go.Op.load 3 (Go.Operand.tmp 11), type := 3, pos := "ref.go:82", after := #[{ on := 0, ground := Go.Ground.data }], guard := Option.none }) (v := ?_) rfl (by kernel_rfl) (by kernel_rfl) (by kernel_rfl) (fun _ _ _ h => h) (Or.inl ⟨by rfl, ?_⟩) hHeld ?_
      rotate_left
      · intro w hSw
        have hfc0 := hSw.2.1
        clear hSw
        go_simp
        try with_reducible rfl
      try simp only [Act.put, List.setIfInBounds_toArray, List.set_cons_zero, List.set_cons_succ]
      refine wpAnyH_take (i := 2) (oi := { dst := Option.some 13, op := Go.Op.binOp Go.BinOp.lss 3 (Go.Operand.tmp 12) (Go.Operand.const (Go.Value.int Go.IntKind.i64 0)) 3, type := 4, pos := "ref.go:82", after := #[{ on := 1, ground := Go.Ground.data }], guard := Option.none }) (v := ?_) rfl (by kernel_rfl) (by kernel_rfl) (by kernel_rfl) (fun _ _ _ h => h) (Or.inl ⟨by rfl, ?_⟩) hHeld ?_
      rotate_left
      · intro w hSw
        clear hSw
        go_simp
        try with_reducible rfl
      try simp only [Act.put, List.setIfInBounds_toArray, List.set_cons_zero, List.set_cons_succ]
      refine wpAnyH_take (i := 3) (oi := { dst := Option.some 14, op := Go.Op.move (Go.Operand.tmp 13), type := 4, pos := "ref.go:82", after := #[{ on := 2, ground := Go.Ground.data }], guard := Option.none }) (v := ?_) rfl (by kernel_rfl) (by kernel_rfl) (by kernel_rfl) (fun _ _ _ h => h) (Or.inl ⟨by rfl, ?_⟩) hHeld ?_
      rotate_left
      · intro w hSw
        clear hSw
        go_simp
        try with_reducible rfl
      try simp only [Act.put, List.setIfInBounds_toArray, List.set_cons_zero, List.set_cons_succ]
      refine wpAnyH_take (i := 4) (oi := { dst := Option.some 15, op := Go.Op.fieldAddr 31 (Go.Operand.tmp 3) 0, type := 0, pos := "ref.go:82", after := #[{ on := 3, ground := Go.Ground.guard }], guard := Option.some (3, Bool.false) }) (v := undef) rfl (by kernel_rfl) (by kernel_rfl) (by kernel_rfl) (fun _ _ _ h => h) (Or.inr ⟨by rfl, rfl⟩) hHeld ?_
      try simp only [Act.put, List.setIfInBounds_toArray, List.set_cons_zero, List.set_cons_succ]
      refine wpAnyH_take (i := 5) (oi := { dst := Option.some 16, op := Go.Op.load 3 (Go.Operand.tmp 15), type := 3, pos := "ref.go:82", after := #[{ on := 4, ground := Go.Ground.data }, { on := 3, ground := Go.Ground.guard }], guard := Option.some (3, Bool.false) }) (v := undef) rfl (by kernel_rfl) (by kernel_rfl) (by kernel_rfl) (fun _ _ _ h => h) (Or.inr ⟨by rfl, rfl⟩) hHeld ?_
      try simp only [Act.put, List.setIfInBounds_toArray, List.set_cons_zero, List.set_cons_succ]
      refine wpAnyH_take (i := 6) (oi := { dst := Option.some 17, op := Go.Op.move (Go.Operand.tmp 0), type := 3, pos := "ref.go:82", after := #[{ on := 3, ground := Go.Ground.guard }], guard := Option.some (3, Bool.false) }) (v := undef) rfl (by kernel_rfl) (by kernel_rfl) (by kernel_rfl) (fun _ _ _ h => h) (Or.inr ⟨by rfl, rfl⟩) hHeld ?_
      try simp only [Act.put, List.setIfInBounds_toArray, List.set_cons_zero, List.set_cons_succ]
      refine wpAnyH_take (i := 7) (oi := { dst := Option.some 18, op := Go.Op.call { callee := Go.Callee.value (Go.Operand.func 36), args := #[Go.Operand.tmp 17], argTypes := #[3] }, type := 3, pos := "ref.go:82", after := #[{ on := 6, ground := Go.Ground.data }, { on := 3, ground := Go.Ground.chain }, { on := 3, ground := Go.Ground.guard }], guard := Option.some (3, Bool.false) }) (v := undef) rfl (by kernel_rfl) (by kernel_rfl) (by kernel_rfl) (fun _ _ _ h => h) (Or.inr ⟨by rfl, rfl⟩) hHeld ?_
      try simp only [Act.put, List.setIfInBounds_toArray, List.set_cons_zero, List.set_cons_succ]
      refine wpAnyH_take (i := 8) (oi := { dst := Option.some 19, op := Go.Op.binOp Go.BinOp.geq 3 (Go.Operand.tmp 16) (Go.Operand.tmp 18) 3, type := 4, pos := "ref.go:82", after := #[{ on := 5, ground := Go.Ground.data }, { on := 7, ground := Go.Ground.data }, { on := 3, ground := Go.Ground.guard }], guard := Option.some (3, Bool.false) }) (v := undef) rfl (by kernel_rfl) (by kernel_rfl) (by kernel_rfl) (fun _ _ _ h => h) (Or.inr ⟨by rfl, rfl⟩) hHeld ?_
      try simp only [Act.put, List.setIfInBounds_toArray, List.set_cons_zero, List.set_cons_succ]
      refine wpAnyH_take (i := 9) (oi := { dst := Option.some 20, op := Go.Op.pick (Go.Operand.tmp 14) (Go.Operand.const (Go.Value.bool Bool.true)) (Go.Operand.tmp 19), type := 4, pos := "ref.go:82", after := #[{ on := 3, ground := Go.Ground.data }, { on := 8, ground := Go.Ground.data }], guard := Option.none }) (v := ?_) rfl (by kernel_rfl) (by kernel_rfl) (by kernel_rfl) (fun _ _ _ h => h) (Or.inl ⟨by rfl, ?_⟩) hHeld ?_
      rotate_left
      · intro w hSw
        clear hSw
        go_simp
        try with_reducible rfl
      try simp only [Act.put, List.setIfInBounds_toArray, List.set_cons_zero, List.set_cons_succ]
      refine wpAnyH_take (i := 10) (oi := { dst := Option.some 21, op := Go.Op.move (Go.Operand.tmp 20), type := 4, pos := "ref.go:82", after := #[{ on := 9, ground := Go.Ground.data }, { on := 7, ground := Go.Ground.chain }], guard := Option.none }) (v := ?_) rfl (by kernel_rfl) (by kernel_rfl) (by kernel_rfl) (fun _ _ _ h => h) (Or.inl ⟨by rfl, ?_⟩) hHeld ?_
      rotate_left
      · intro w hSw
        clear hSw
        go_simp
        try with_reducible rfl
      try simp only [Act.put, List.setIfInBounds_toArray, List.set_cons_zero, List.set_cons_succ]
      refine wpAnyH_take (i := 11) (oi := { dst := Option.some 22, op := Go.Op.fieldAddr 31 (Go.Operand.tmp 3) 1, type := 0, pos := "ref.go:82", after := #[{ on := 10, ground := Go.Ground.guard }], guard := Option.some (10, Bool.false) }) (v := undef) rfl (by kernel_rfl) (by kernel_rfl) (by kernel_rfl) (fun _ _ _ h => h) (Or.inr ⟨by rfl, rfl⟩) hHeld ?_
      try simp only [Act.put, List.setIfInBounds_toArray, List.set_cons_zero, List.set_cons_succ]
      refine wpAnyH_take (i := 12) (oi := { dst := Option.some 23, op := Go.Op.load 29 (Go.Operand.tmp 22), type := 29, pos := "ref.go:82", after := #[{ on := 11, ground := Go.Ground.data }, { on := 10, ground := Go.Ground.guard }], guard := Option.some (10, Bool.false) }) (v := undef) rfl (by kernel_rfl) (by kernel_rfl) (by kernel_rfl) (fun _ _ _ h => h) (Or.inr ⟨by rfl, rfl⟩) hHeld ?_
      try simp only [Act.put, List.setIfInBounds_toArray, List.set_cons_zero, List.set_cons_succ]
      refine wpAnyH_take (i := 13) (oi := { dst := Option.some 24, op := Go.Op.call { callee := Go.Callee.builtin Go.Builtin.len, args := #[Go.Operand.tmp 23], argTypes := #[29] }, type := 3, pos := "ref.go:82", after := #[{ on := 12, ground := Go.Ground.data }, { on := 10, ground := Go.Ground.guard }], guard := Option.some (10, Bool.false) }) (v := undef) rfl (by kernel_rfl) (by kernel_rfl) (by kernel_rfl) (fun _ _ _ h => h) (Or.inr ⟨by rfl, rfl⟩) hHeld ?_
      try simp only [Act.put, List.setIfInBounds_toArray, List.set_cons_zero, List.set_cons_succ]
      refine wpAnyH_take (i := 14) (oi := { dst := Option.some 25, op := Go.Op.binOp Go.BinOp.neq 3 (Go.Operand.tmp 24) (Go.Operand.const (Go.Value.int Go.IntKind.i64 35)) 3, type := 4, pos := "ref.go:82", after := #[{ on := 13, ground := Go.Ground.data }, { on := 10, ground := Go.Ground.guard }], guard := Option.some (10, Bool.false) }) (v := undef) rfl (by kernel_rfl) (by kernel_rfl) (by kernel_rfl) (fun _ _ _ h => h) (Or.inr ⟨by rfl, rfl⟩) hHeld ?_
      try simp only [Act.put, List.setIfInBounds_toArray, List.set_cons_zero, List.set_cons_succ]
      refine wpAnyH_take (i := 15) (oi := { dst := Option.some 26, op := Go.Op.pick (Go.Operand.tmp 21) (Go.Operand.const (Go.Value.bool Bool.true)) (Go.Operand.tmp 25), type := 4, pos := "ref.go:82", after := #[{ on := 10, ground := Go.Ground.data }, { on := 14, ground := Go.Ground.data }], guard := Option.none }) (v := ?_) rfl (by kernel_rfl) (by kernel_rfl) (by kernel_rfl) (fun _ _ _ h => h) (Or.inl ⟨by rfl, ?_⟩) hHeld ?_
      rotate_left
      · intro w hSw
        clear hSw
        go_simp
        try with_reducible rfl
      try simp only [Act.put, List.setIfInBounds_toArray, List.set_cons_zero, List.set_cons_succ]
      refine wpAnyH_take (i := 16) (oi := { dst := Option.some 27, op := Go.Op.move (Go.Operand.tmp 26), type := 4, pos := "ref.go:82", after := #[{ on := 15, ground := Go.Ground.data }, { on := 10, ground := Go.Ground.chain }], guard := Option.none }) (v := ?_) rfl (by kernel_rfl) (by kernel_rfl) (by kernel_rfl) (fun _ _ _ h => h) (Or.inl ⟨by rfl, ?_⟩) hHeld ?_
      rotate_left
      · intro w hSw
        clear hSw
        go_simp
        try with_reducible rfl
      try simp only [Act.put, List.setIfInBounds_toArray, List.set_cons_zero, List.set_cons_succ]
      refine wpAnyH_take (i := 17) (oi := { dst := Option.some 28, op := Go.Op.fieldAddr 31 (Go.Operand.tmp 3) 2, type := 0, pos := "ref.go:82", after := #[{ on := 16, ground := Go.Ground.guard }], guard := Option.some (16, Bool.false) }) (v := undef) rfl (by kernel_rfl) (by kernel_rfl) (by kernel_rfl) (fun _ _ _ h => h) (Or.inr ⟨by rfl, rfl⟩) hHeld ?_
      try simp only [Act.put, List.setIfInBounds_toArray, List.set_cons_zero, List.set_cons_succ]
      refine wpAnyH_take (i := 18) (oi := { dst := Option.some 29, op := Go.Op.load 29 (Go.Operand.tmp 28), type := 29, pos := "ref.go:82", after := #[{ on := 17, ground := Go.Ground.data }, { on := 16, ground := Go.Ground.guard }], guard := Option.some (16, Bool.false) }) (v := undef) rfl (by kernel_rfl) (by kernel_rfl) (by kernel_rfl) (fun _ _ _ h => h) (Or.inr ⟨by rfl, rfl⟩) hHeld ?_
      try simp only [Act.put, List.setIfInBounds_toArray, List.set_cons_zero, List.set_cons_succ]
      refine wpAnyH_take (i := 19) (oi := { dst := Option.some 30, op := Go.Op.call { callee := Go.Callee.builtin Go.Builtin.len, args := #[Go.Operand.tmp 29], argTypes := #[29] }, type := 3, pos := "ref.go:82", after := #[{ on := 18, ground := Go.Ground.data }, { on := 16, ground := Go.Ground.guard }], guard := Option.some (16, Bool.false) }) (v := undef) rfl (by kernel_rfl) (by kernel_rfl) (by kernel_rfl) (fun _ _ _ h => h) (Or.inr ⟨by rfl, rfl⟩) hHeld ?_
      try simp only [Act.put, List.setIfInBounds_toArray, List.set_cons_zero, List.set_cons_succ]
      refine wpAnyH_take (i := 20) (oi := { dst := Option.some 31, op := Go.Op.move (Go.Operand.tmp 0), type := 3, pos := "ref.go:82", after := #[{ on := 16, ground := Go.Ground.guard }], guard := Option.some (16, Bool.false) }) (v := undef) rfl (by kernel_rfl) (by kernel_rfl) (by kernel_rfl) (fun _ _ _ h => h) (Or.inr ⟨by rfl, rfl⟩) hHeld ?_
      try simp only [Act.put, List.setIfInBounds_toArray, List.set_cons_zero, List.set_cons_succ]
      refine wpAnyH_take (i := 21) (oi := { dst := Option.some 32, op := Go.Op.binOp Go.BinOp.neq 3 (Go.Operand.tmp 30) (Go.Operand.tmp 31) 3, type := 4, pos := "ref.go:82", after := #[{ on := 19, ground := Go.Ground.data }, { on := 20, ground := Go.Ground.data }, { on := 16, ground := Go.Ground.guard }], guard := Option.some (16, Bool.false) }) (v := undef) rfl (by kernel_rfl) (by kernel_rfl) (by kernel_rfl) (fun _ _ _ h => h) (Or.inr ⟨by rfl, rfl⟩) hHeld ?_
      try simp only [Act.put, List.setIfInBounds_toArray, List.set_cons_zero, List.set_cons_succ]
      refine wpAnyH_take (i := 22) (oi := { dst := Option.some 33, op := Go.Op.pick (Go.Operand.tmp 27) (Go.Operand.const (Go.Value.bool Bool.true)) (Go.Operand.tmp 32), type := 4, pos := "ref.go:82", after := #[{ on := 16, ground := Go.Ground.data }, { on := 21, ground := Go.Ground.data }], guard := Option.none }) (v := ?_) rfl (by kernel_rfl) (by kernel_rfl) (by kernel_rfl) (fun _ _ _ h => h) (Or.inl ⟨by rfl, ?_⟩) hHeld ?_
      rotate_left
      · intro w hSw
        clear hSw
        go_simp
        try with_reducible rfl
      try simp only [Act.put, List.setIfInBounds_toArray, List.set_cons_zero, List.set_cons_succ]
      refine wpAnyH_done (by kernel_rfl) ?_ _
      have hBe := chain HB0.out hHeld.1
      go_wp2_with fail
      go_ret
      exact ⟨rfl, hBe⟩
  · have hv : chkV h n cl pl = 2 := by unfold chkV; rw [if_neg hh]
    rw [hv]
    have hb0 := below_new w (.cells #[.int .i64 n, .slice CA cl cc, .slice PA pl pc] 31)
    by_cases h0 : h < 0
    · clear hv hh
      go_enter Tryd.func21, Tryd.ntmps21
      go_wp2_with fail
      go_ret
      exact ⟨rfl, hb0⟩
    · have h4 : 4 < h := by omega
      clear hv hh
      go_enter Tryd.func21, Tryd.ntmps21
      go_wp2_with fail
      go_ret
      exact ⟨rfl, hb0⟩
end Go.Proofs.YtafolokkjpbieaaDoor
namespace Go.Proofs.YtafolokkjpbieaaDoor
open Go.RowKit Sha Ots
set_option linter.unusedVariables false
set_option linter.unusedSimpArgs false
def AddPost (base : Nat) (L l : List UInt8) (w : World) (e : Ending) (w' : World) : Prop := ∃ v', e = .returned v' ∧ w'.ownsRow base 5 1 v' (L ++ l).length (bvals (L ++ l)) ∧ Below base w w'
set_option maxRecDepth 100000 in
set_option maxHeartbeats 2000000 in
theorem add_ref (l L : List UInt8) (hl : l.length = 16) (hL : L.length ≤ 1000) (base : Nat) (v : Value) (w : World) (hbase : base ≤ w.heap.size) (hown : w.ownsRow base 5 1 v L.length (bvals L)) :
    Calls Tryd.prog 55 #[v, .agg (bcells l)] w (AddPost base L l w) := by
  obtain ⟨i0, hi, hz0, hz1, hz2⟩ := info_parts Tryd.info_byte
  have HI := Lib.hid hi
  have HL16 := Lib.hid hl
  have HLL := Lib.hid hL
  have HBS := Lib.hid hbase
  have hown1 := hown.alloc (.cells (bcells l) 23)
  have HO0 : RowKit.Hid ((w.alloc (.cells (bcells l) 23)).ownsRow base 5 1 v (L ++ l.take 0).length (bvals (L ++ l.take 0))) := Lib.hid (by rw [List.take_zero, List.append_nil]; exact hown1)
  have HNE0 : RowKit.Hid (∀ j, Value.ownBlock v = some j → base ≤ j ∧ j ≠ w.heap.size) := Lib.hid (fun j hj => by have := own_ge hown hj; omega)
  have HB0 : RowKit.Hid (Below base w (w.alloc (.cells (bcells l) 23)) ∧ w.heap.size < (w.alloc (.cells (bcells l) 23)).heap.size ∧ (w.alloc (.cells (bcells l) 23)).heap[w.heap.size]? = some (.cells (bcells l) 23 (0, 0))) := Lib.hid ⟨(Below.refl _ _).alloc hbase _, by simp, heap_alloc_new _ _⟩
  clear hl hL hown hown1 hbase hi
  go_enter Tryd.func55, Tryd.ntmps55
  go_wp2_with fail
  go_loopw [0, 5] (fun v i wr => ∃ k : Nat, k ≤ 16 ∧ i = .int .i64 (k : Int) ∧ RowKit.Hid (wr.ownsRow base 5 1 v (L ++ l.take k).length (bvals (L ++ l.take k))) ∧ RowKit.Hid (∀ j, Value.ownBlock v = some j → base ≤ j ∧ j ≠ w.heap.size) ∧ RowKit.Hid (Below base w wr ∧ w.heap.size < wr.heap.size ∧ wr.heap[w.heap.size]? = some (.cells (bcells l) 23 (0, 0)))) (fun _ i _ => 16 - (intOf i).toNat)
  case atStart => exact ⟨0, by omega, rfl, HO0, HNE0, HB0⟩
  case round =>
    clear HO0 HNE0 HB0
    obtain ⟨k, hk, rfl, HO, HNE, HB⟩ := hrel
    by_cases hlt : k < 16
    · have hki : (k : Int) < 16 := by omega
      have hc : wr.cell? ⟨w.heap.size, k, none⟩ = some (.int .u8 ((l.getD k 0).toNat : Int)) := by
        rw [cell_of_row _ _ _ _ _ _ HB.out.2.2, bcells_at _ _ (by rw [HL16.out]; exact hlt)]
      have hts := take_snoc8 l k (by rw [HL16.out]; exact hlt)
      obtain ⟨y, hy⟩ : ∃ y, l.getD k 0 = y := ⟨_, rfl⟩
      rw [hy] at hc hts
      have HTS := Lib.hid hts
      have HDL : RowKit.Hid ((L ++ l.take k).length ≤ 1016) := Lib.hid (by have := HLL.out; rw [List.length_append, List.length_take, HL16.out]; omega)
      clear hts hy
      go_wp2_with (at_builtin; go_loud (refine wpList_append_own_at _ rfl (.tmp 10) (.tmp 14) 42 rfl base 5 i0 (.int .u8 0) 1 1 Tryd.underlying42 HI.out hz0 hz1 hz2 rfl (by decide) _ _ _ rfl (HO.out.alloc _) ⟨wr.heap.size, 0, none⟩ 1 1 [.int .u8 (y.toNat : Int)] rfl rfl (cell_one_new _ _ _) (by simp [Value.oneCell']) (by have := HDL.out; unfold maxLen; omega) (by have := HDL.out; omega) (by have h1 := HBS.out; have h2 := HB.out.2.1; simp; omega) ?_); intro v' w5 hown5 hgrow5 _ hloc5; have HO5 := Lib.hid hown5; have HG5 := Lib.hid hgrow5; have HLC := Lib.hid hloc5; clear hown5 hgrow5 hloc5)
      have h9 := HB.out.2.1
      have h8 := HBS.out
      have hsz5 := HG5.out.size
      rw [World.size_alloc] at hsz5
      refine ⟨⟨k + 1, by omega, by go_num, Lib.hid ?_, Lib.hid ?_, Lib.hid ⟨(HB.out.1.alloc (by omega) _).grown HG5.out (by simp; omega) (fun j hj => (HNE.out j hj).1), by omega, ?_⟩⟩, by simp [intOf]; omega⟩
      · have hle : (L ++ l.take k ++ [y]).length = (L ++ l.take k).length + 1 := by rw [List.length_append]; rfl
        rw [HTS.out, ← List.append_assoc, hle, bvals_app (L ++ l.take k)]
        exact HO5.out
      · intro j hj
        rcases HLC.out with h | h
        · rw [h] at hj
          exact HNE.out j hj
        · rw [h, World.size_alloc] at hj
          have := Option.some.inj hj
          omega
      · rw [HG5.out.block w.heap.size (by simp; omega) (fun e => (HNE.out _ e.symm).2 rfl), Below.heap_alloc _ _ _ (by omega)]
        exact HB.out.2.2
    · have hkk : k = 16 := by omega
      subst hkk
      have hge : ¬ ((16 : Nat) : Int) < 16 := by omega
      have hl16 : l.take 16 = l := List.take_of_length_le (by rw [HL16.out]; exact Nat.le_refl _)
      rw [hl16] at HO
      clear hl16
      go_wp2_with fail
      go_ret
      exact ⟨_, rfl, HO.out, HB.out.1⟩
end Go.Proofs.YtafolokkjpbieaaDoor
namespace Go.Proofs.YtafolokkjpbieaaDoor
open Go.RowKit Sha Ots
set_option linter.unusedVariables false
set_option linter.unusedSimpArgs false
theorem own_row1r {w : World} {Y : Nat} {x : UInt8} (hY : w.heap[Y]? = some (.cells (bcells [x]) 5 (0, 0))) : w.ownsRow Y 5 1 (.slice (some ⟨Y, 0, none⟩) 1 1) 1 (bvals [x]) :=
  ⟨rfl, .inr ⟨Y, 1, bcells [x], rfl, Nat.le_refl _, hY, Nat.le_refl _, by decide, rfl, rfl⟩⟩
theorem rangeAt_row0 {z : World} {X : Nat} {F : List UInt8} {T : TypeId} {fr : Nat × Nat} (h : z.heap[X]? = some (.cells (bcells F) T fr)) : z.rangeAt X 0 (bvals F) := fun j v hv => by
  rw [Nat.zero_add, cell_of_row _ _ _ _ _ _ h]
  unfold bcells
  rw [List.getElem?_toArray]
  exact hv
theorem short_ref_own (F : List UInt8) (hF : F.length ≤ 100000) (b : Nat) (V : World) (v : Value) (ho : V.ownsRow b 5 1 v F.length (bvals F)) : Calls Tryd.prog 54 #[v] V fun e w' => e = .returned (.agg (bcells (sh F))) ∧ Below V.heap.size V w' := by
  obtain ⟨A, c, rfl, h1, h2, h3, h4⟩ := own_rd2 ho
  exact short_ref _ A c hF h1 h3 V h4

theorem rangeAt_far {z : World} {X Y : Nat} {cs : List Value} (h : z.rangeAt X 0 cs) (o : Nat) (vs : List Value) (hne : X ≠ Y) : (z.setCells Y o vs).rangeAt X 0 cs :=
  World.rangeAt_setCells_apart h _ _ _ (.inl hne)
set_option maxRecDepth 100000 in
set_option maxHeartbeats 4000000 in
theorem joined7_ref (a b : List UInt8) (ha : a.length = 16) (hb : b.length = 16) (w : World) :
    Calls Tryd.prog 41 #[.agg (bcells a), .agg (bcells b)] w fun e w' => e = .returned (.agg (bcells (jn a b))) ∧ Below w.heap.size w w' := by
  have hjn : jn a b = sh (([1] ++ a) ++ b) := by unfold jn; rw [List.append_assoc, List.singleton_append]
  have hsho : ∀ (g : Nat) (V : World) (v : Value), V.ownsRow g 5 1 v (([1] ++ a) ++ b).length (bvals (([1] ++ a) ++ b)) → Calls Tryd.prog 54 #[v] V fun e w' => e = .returned (.agg (bcells (jn a b))) ∧ Below V.heap.size V w' := fun g V v ho => by rw [hjn]; exact short_ref_own (([1] ++ a) ++ b) (by rw [List.length_append, List.length_append, ha, hb]; decide) g V v ho
  obtain ⟨F, hF⟩ : ∃ F, jn a b = F := ⟨_, rfl⟩
  have hF16 : F.length = 16 := by rw [← hF]; exact jn_len _ _
  rw [hF] at hsho ⊢
  have SHO := Lib.hid hsho
  have HSZ := Lib.hid (sz16 F hF16)
  have hso : (16 : Nat) = (bcells F).size := by rw [bcells_size, hF16]
  have HSO := Lib.hid hso
  have HA16 := Lib.hid ha
  have HB16 := Lib.hid hb
  have hia : (Tryd.prog.info? 23).map (·.size) = some (bvals a).length := by rw [bvals_len, ha]; kernel_rfl
  have hib : (Tryd.prog.info? 23).map (·.size) = some (bvals b).length := by rw [bvals_len, hb]; kernel_rfl
  have HIA := Lib.hid hia
  have HIB := Lib.hid hib
  have hu := Tryd.underlying23
  clear hsho hjn hF hF16 hso ha hb hia hib
  go_enter Tryd.func41, Tryd.ntmps41
  go_upto_region 1 with (fail)
  generalize hV : World.alloc (World.alloc (World.alloc w _) _) _ = V
  have hb0 : Below w.heap.size w V := by rw [← hV]; exact below3 _ _ _ _
  have hr0 : V.heap[w.heap.size]? = some (.cells (bcells a) 23 (0, 0)) := by rw [← hV]; exact heap3_first _ _ _ _
  have hr1 : V.heap[w.heap.size + 1]? = some (.cells (bcells b) 23 (0, 0)) := by rw [← hV]; exact heap3_mid _ _ _ _
  have hr2 : V.heap[w.heap.size + 2]? = some (.cells (bcells (List.replicate 16 0)) 23 (0, 0)) := by rw [← hV]; exact (heap3_last _ _ _ _).trans rfl
  have HB0 := Lib.hid hb0
  have HR0 := Lib.hid hr0
  have HR1 := Lib.hid hr1
  have HR2 := Lib.hid hr2
  have hS0 : V.drew.rangeAt w.heap.size 0 (bvals a) ∧ V.drew.rangeAt (w.heap.size + 1) 0 (bvals b) := ⟨rangeAt_on (rangeAt_row0 hr0) (Below.refl _ _).drew, rangeAt_on (rangeAt_row0 hr1) (Below.refl _ _).drew⟩
  clear hV hb0 hr0 hr1 hr2
  refine wp_region_held_drew (S := fun z => z.rangeAt w.heap.size 0 (bvals a) ∧ z.rangeAt (w.heap.size + 1) 0 (bvals b)) (by kernel_rfl) hS0 (fun hHeld => ?_)
  clear hS0
  obtain ⟨U, hU⟩ : ∃ U, V.drew = U := ⟨_, rfl⟩
  rw [hU] at hHeld ⊢
  have hbU : Below V.heap.size V U := by rw [← hU]; exact (Below.refl _ _).drew
  have HBU := Lib.hid (chain HB0.out hbU)
  have HRA := Lib.hid (row_on HR0.out hbU)
  have HRB := Lib.hid (row_on HR1.out hbU)
  have HRC := Lib.hid (row_on HR2.out hbU)
  have mkS : ∀ z, Below U.heap.size U z → z.rangeAt w.heap.size 0 (bvals a) ∧ z.rangeAt (w.heap.size + 1) 0 (bvals b) := fun z hz => ⟨rangeAt_row0 (row_on HRA.out hz), rangeAt_row0 (row_on HRB.out hz)⟩
  clear hU hbU HB0 HR0 HR1 HR2
  refine wpAnyH_take (i := 1) (oi := { dst := Option.some 6, op := Go.Op.load 23 (Go.Operand.tmp 2), type := 23, pos := "ref.go:41", after := #[], guard := Option.none }) (v := .agg (bvals a).toArray) rfl (by kernel_rfl) (by kernel_rfl) (by kernel_rfl) (fun _ _ _ h => h) (yieldsIf_load_mid (by rfl) _ _ rfl _ _ rfl (bvals a) _ (fun w hSw => hSw.1) hu rfl HIA.out) hHeld ?_
  try simp only [Act.put, List.setIfInBounds_toArray, List.set_cons_zero, List.set_cons_succ]
  refine wpAnyH_take (i := 3) (oi := { dst := Option.some 8, op := Go.Op.load 23 (Go.Operand.tmp 3), type := 23, pos := "ref.go:41", after := #[], guard := Option.none }) (v := .agg (bvals b).toArray) rfl (by kernel_rfl) (by kernel_rfl) (by kernel_rfl) (fun _ _ _ h => h) (yieldsIf_load_mid (by rfl) _ _ rfl _ _ rfl (bvals b) _ (fun w hSw => hSw.2) hu rfl HIB.out) hHeld ?_
  try simp only [Act.put, List.setIfInBounds_toArray, List.set_cons_zero, List.set_cons_succ]
  refine wpAnyH_ready (rs := [0]) (by kernel_rfl) (by simp) (AllReadyH.cons (o := { dst := Option.some 5, op := Go.Op.buildSlice 42 1 #[(0, Go.Operand.const (Go.Value.int Go.IntKind.u8 1))], type := 42, pos := "ref.go:41", after := #[], guard := Option.none }) rfl (fun K hK => ?_) AllReadyH.nil)
  go_simp
  generalize hz : World.alloc U _ = z0
  have hr0 : z0.heap[U.heap.size]? = some (.cells (bcells [1]) 5 (0, 0)) := by rw [← hz]; exact heap_alloc_new _ _
  have hb0 : Below U.heap.size U z0 := by rw [← hz]; exact below_new _ _
  clear hz
  refine hK.out _ _ (mkS _ hb0) (fun hHeld2 => ?_)
  clear hK K
  clear hHeld
  have hHeld := hHeld2
  clear hHeld2
  try simp only [Act.put, List.setIfInBounds_toArray, List.set_cons_zero, List.set_cons_succ]
  refine wpAnyH_ready (rs := [2]) (by kernel_rfl) (by simp) (AllReadyH.cons (o := { dst := Option.some 7, op := Go.Op.call { callee := Go.Callee.value (Go.Operand.func 55), args := #[Go.Operand.tmp 5, Go.Operand.tmp 6], argTypes := #[42, 23] }, type := 42, pos := "ref.go:41", after := #[{ on := 0, ground := Go.Ground.data }, { on := 1, ground := Go.Ground.data }], guard := Option.none }) rfl (fun K hK => ?_) AllReadyH.nil)
  go_simp
  refine (add_ref a [1] HA16.out (by decide) U.heap.size _ z0 hb0.size (own_row1r hr0)).mono ?_
  rintro e z1 ⟨v1, rfl, ho1, hg1⟩
  have hb1 : Below U.heap.size U z1 := hb0.trans hg1
  go_simp
  refine hK.out _ _ (mkS _ hb1) (fun hHeld2 => ?_)
  clear hK K
  clear hHeld
  have hHeld := hHeld2
  clear hHeld2
  try simp only [Act.put, List.setIfInBounds_toArray, List.set_cons_zero, List.set_cons_succ]
  refine wpAnyH_ready (rs := [4]) (by kernel_rfl) (by simp) (AllReadyH.cons (o := { dst := Option.some 9, op := Go.Op.call { callee := Go.Callee.value (Go.Operand.func 55), args := #[Go.Operand.tmp 7, Go.Operand.tmp 8], argTypes := #[42, 23] }, type := 42, pos := "ref.go:41", after := #[{ on := 2, ground := Go.Ground.data }, { on := 3, ground := Go.Ground.data }, { on := 2, ground := Go.Ground.chain }], guard := Option.none }) rfl (fun K hK => ?_) AllReadyH.nil)
  go_simp
  refine (add_ref b ([1] ++ a) HB16.out (by rw [List.length_append, HA16.out]; decide) U.heap.size v1 z1 hb1.size ho1).mono ?_
  rintro e z2 ⟨v2, rfl, ho2, hg2⟩
  have hb2 : Below U.heap.size U z2 := hb1.trans hg2
  go_simp
  refine hK.out _ _ (mkS _ hb2) (fun hHeld2 => ?_)
  clear hK K
  clear hHeld
  have hHeld := hHeld2
  clear hHeld2
  try simp only [Act.put, List.setIfInBounds_toArray, List.set_cons_zero, List.set_cons_succ]
  refine wpAnyH_ready (rs := [5]) (by kernel_rfl) (by simp) (AllReadyH.cons (o := { dst := Option.some 10, op := Go.Op.call { callee := Go.Callee.value (Go.Operand.func 54), args := #[Go.Operand.tmp 9], argTypes := #[42] }, type := 23, pos := "ref.go:41", after := #[{ on := 4, ground := Go.Ground.data }, { on := 4, ground := Go.Ground.chain }], guard := Option.none }) rfl (fun K hK => ?_) AllReadyH.nil)
  go_simp
  refine (SHO.out _ z2 v2 ho2).mono ?_
  rintro e z3 ⟨rfl, hb3⟩
  have hb4 : Below U.heap.size U z3 := hb2.trans (hb3.mono hb2.size)
  have HR3 := Lib.hid (row_on HRC.out hb4)
  go_simp
  refine hK.out _ _ (mkS _ hb4) (fun hHeld2 => ?_)
  clear hK K
  clear hHeld
  have hHeld := hHeld2
  clear hHeld2
  try simp only [Act.put, List.setIfInBounds_toArray, List.set_cons_zero, List.set_cons_succ]
  refine wpAnyH_ready (rs := [6]) (by kernel_rfl) (by simp) (AllReadyH.cons (o := { dst := Option.none, op := Go.Op.store 23 (Go.Operand.tmp 4) (Go.Operand.tmp 10), type := 0, pos := "ref.go:41", after := #[{ on := 5, ground := Go.Ground.data }, { on := 5, ground := Go.Ground.chain }, { on := 0, ground := Go.Ground.phase }, { on := 1, ground := Go.Ground.phase }, { on := 2, ground := Go.Ground.phase }, { on := 3, ground := Go.Ground.phase }, { on := 4, ground := Go.Ground.phase }, { on := 5, ground := Go.Ground.phase }], guard := Option.none }) rfl (fun K hK => ?_) AllReadyH.nil)
  try rw [if_pos (by rfl)]
  refine wp_store_mid 23 (.tmp 4) (.tmp 10) rfl (w.heap.size + 2) 0 (bcells F) rfl rfl (there_row HR3.out _ (by rw [← HSO.out, bcells_size]; exact Nat.le_refl _)) HSZ.out (bcells_one _) ?_
  have HR4 := Lib.hid (row_setCells HR3.out (cs := bcells F) (by rw [← HSO.out, bcells_size]; rfl))
  have HB4 := Lib.hid (below_setCells (bcells F).toList 0 _ (chain HBU.out hb4) (show w.heap.size ≤ w.heap.size + 2 by omega))
  refine hK.out _ _ ⟨rangeAt_far hHeld.1 _ _ (by omega), rangeAt_far hHeld.2 _ _ (by omega)⟩ (fun hHeld2 => ?_)
  clear hK K hHeld hHeld2
  try simp only [Act.put, List.setIfInBounds_toArray, List.set_cons_zero, List.set_cons_succ]
  refine wpAnyH_done (by kernel_rfl) ?_ _
  generalize World.setCells _ _ _ _ = z5 at HR4 HB4 ⊢
  clear hb0 hb1 hb2 hb3 hb4 ho1 ho2 hg1 hg2 hr0 mkS
  go_wp2_with fail
  refine bodyPost_ret (v := .agg (bcells F)) (results_cell_row rfl _ _ (w.heap.size + 2) 23 _ (0, 0) _ rfl HR4.out Tryd.underlying23 rfl HSZ.out) rfl ⟨rfl, HB4.out⟩
end Go.Proofs.YtafolokkjpbieaaDoor
