/-
  THE WALK over layer 6's alive. (The last region: written by wip/gen-onealive.py.)
-/
import Derived.Test.YtpacfbhofgbhkaaDoorOneH
import Derived.Test.YtpacfbhofgbhkaaDoorFastD
import Derived.Lib.SlBytesConst
namespace Go.Proofs.YtpacfbhofgbhkaaDoor
open Go.RowKit Sha Ots
set_option linter.unusedVariables false
set_option linter.unusedSimpArgs false
theorem conv_const6 (C : Array Value) (n : Nat) (V : World) : (convert 33 33 (.slice (some ⟨V.heap.size, 0, none⟩) n n)).run Tryd.prog (V.alloc (.cells C 5)) = .ok (.slice (some ⟨V.heap.size, 0, none⟩) n n) (V.alloc (.cells C 5 (C.size, C.size + 1))) :=
  Lib.run_convert_bytes_const V 33 5 C n n Tryd.underlying33 Tryd.underlying5
def abc : List UInt8 := [97, 98, 99]
theorem keepT {v z w : World} {S : Nat} {A : List Value} {a b : Addr} {x y : Value} (h : Below v.heap.size v z ∧ z.rangeAt S 0 A ∧ z.cell? a = some x ∧ z.cell? b = some y) (hb : Below z.heap.size z w) :
    Below v.heap.size v w ∧ w.rangeAt S 0 A ∧ w.cell? a = some x ∧ w.cell? b = some y := by
  obtain ⟨h1, h2, h3, h4⟩ := h
  refine ⟨chain h1 hb, rangeAt_on h2 hb, ?_, ?_⟩
  · rw [hb.cell (World.block_lt_of_cell? _ _ h3)]; exact h3
  · rw [hb.cell (World.block_lt_of_cell? _ _ h4)]; exact h4
theorem rangeAt_row {z : World} {X : Nat} {F : List UInt8} {T : TypeId} {fr : Nat × Nat} (h : z.heap[X]? = some (.cells (bcells F) T fr)) : z.rangeAt X 0 (bvals F) := fun j v hv => by
  rw [Nat.zero_add, cell_of_row _ _ _ _ _ _ h]
  unfold bcells
  simpa [bvals] using hv
set_option maxRecDepth 100000 in
set_option maxHeartbeats 4000000 in
theorem alive6_any (w : World) (env : DEnv w) :
    Calls Tryd.prog 15 #[] w fun e w' => e = .returned (.bool true) ∧ Below w.heap.size w w' := by
  have hda := fun (V : World) (g : Nat) (hb : Below w.heap.size w V) (hg : V.heap[g]? = some (.cells (bcells abc) 5 (3, 4))) =>
    (digits_any abc (some ⟨g, 0, none⟩) 3 (by decide) (by decide) (by decide) V (srcAt_row hg) (env.on hb) : Calls Tryd.prog 13 #[.slice (some ⟨g, 0, none⟩) 3 3] V fun e w' => ∃ X, e = .returned (.slice (some ⟨X, 0, none⟩) 35 35) ∧ V.heap.size ≤ X ∧ Ints (some ⟨X, 0, none⟩) (dig abc) w' ∧ Below V.heap.size V w')
  have hsi := fun (V : World) (g : Nat) (hb : Below w.heap.size w V) (hg : V.heap[g]? = some (.cells (bcells abc) 5 (3, 4))) =>
    (sign_any Fast.seed1 rfl abc (some ⟨g, 0, none⟩) 3 (by decide) (by decide) (by decide) V (srcAt_row hg) (env.on hb) : Calls Tryd.prog 10 #[.agg (bcells Fast.seed1), .slice (some ⟨g, 0, none⟩) 3 3] V fun e w' => ∃ X, e = .returned (.slice (some ⟨X, 0, none⟩) 35 35) ∧ V.heap.size ≤ X ∧ Shorts (some ⟨X, 0, none⟩) (sgn Fast.seed1 abc) w' ∧ Below V.heap.size V w')
  have hsl : (sgn Fast.seed1 abc).length = 35 := by unfold sgn sgD; rw [List.length_map, List.length_range]
  have hkey := key_sgn Fast.seed1 abc
  obtain ⟨SG, hSG⟩ : ∃ SG, sgn Fast.seed1 abc = SG := ⟨_, rfl⟩
  rw [hSG] at hsi hsl hkey
  have hre := fun (V : World) (g X : Nat) (hb : Below w.heap.size w V) (hg : V.heap[g]? = some (.cells (bcells abc) 5 (3, 4))) (hsh : Shorts (some ⟨X, 0, none⟩) SG V) =>
    recover_any abc (some ⟨g, 0, none⟩) 3 (by decide) (by decide) (by decide) SG (some ⟨X, 0, none⟩) 35 hsl V (srcAt_row hg) hsh (env.on hb)
  rw [hkey, hsl] at hre
  have hre2 : ∀ (V : World) (g X : Nat), Below w.heap.size w V → V.heap[g]? = some (.cells (bcells abc) 5 (3, 4)) → Shorts (some ⟨X, 0, none⟩) SG V → Calls Tryd.prog 11 #[.slice (some ⟨g, 0, none⟩) 3 3, .slice (some ⟨X, 0, none⟩) 35 35] V fun e w' => e = .returned (.tuple #[.agg (bcells (pub Fast.seed1)), .int .i64 0]) ∧ Below V.heap.size V w' := hre
  have hp1 := fun (V : World) (hb : Below w.heap.size w V) => public_any Fast.seed1 rfl V (env.on hb)
  have hp2 := fun (V : World) (hb : Below w.heap.size w V) => public_any Fast.seed2 rfl V (env.on hb)
  have hne := Fast.pub_ne
  have hk1 : (pub Fast.seed1).length = 16 := sh_len _
  have hk2 : (pub Fast.seed2).length = 16 := sh_len _
  have hd := dig_abc
  have hdl := dig_len abc
  obtain ⟨K, hK⟩ : ∃ K, pub Fast.seed1 = K := ⟨_, rfl⟩
  obtain ⟨K2, hK2⟩ : ∃ K2, pub Fast.seed2 = K2 := ⟨_, rfl⟩
  rw [hK] at hre2 hp1 hne hk1
  rw [hK2] at hp2 hne hk2
  have hq1 : ∀ w, (binOp .eql 25 (.agg (bvals K).toArray) (.agg (bvals K).toArray)).run Tryd.prog w = .ok (.bool true) w := fun w => by
    have h := eql_short K K hk1 hk1 w
    rw [show (K == K) = true by simp] at h
    exact h
  have hq2 : ∀ w, (binOp .neq 25 (.agg (bvals K).toArray) (.agg (bvals K2).toArray)).run Tryd.prog w = .ok (.bool true) w := fun w => by
    have h := neq_short K K2 hk1 hk2 w
    rw [hne] at h
    exact h
  have hs1 : Value.agg (bcells Fast.seed1) = .agg #[.int .u8 1, .int .u8 0, .int .u8 0, .int .u8 0, .int .u8 0, .int .u8 0, .int .u8 0, .int .u8 0, .int .u8 0, .int .u8 0, .int .u8 0, .int .u8 0, .int .u8 0, .int .u8 0, .int .u8 0, .int .u8 0] := rfl
  have hs2 : Value.agg (bcells Fast.seed2) = .agg #[.int .u8 2, .int .u8 0, .int .u8 0, .int .u8 0, .int .u8 0, .int .u8 0, .int .u8 0, .int .u8 0, .int .u8 0, .int .u8 0, .int .u8 0, .int .u8 0, .int .u8 0, .int .u8 0, .int .u8 0, .int .u8 0] := rfl
  rw [hs1] at hsi hp1
  rw [hs2] at hp2
  obtain ⟨DG, hDG⟩ : ∃ DG, dig abc = DG := ⟨_, rfl⟩
  have hda2 : DG.getD 0 0 = 11 ∧ DG.getD 1 0 = 10 ∧ DG.length = 35 := by rw [← hDG]; exact ⟨hd.1, hd.2, hdl⟩
  rw [hDG] at hda
  have DA := Lib.hid hda
  have SI := Lib.hid hsi
  have RE := Lib.hid hre2
  have P1 := Lib.hid hp1
  have P2 := Lib.hid hp2
  have Q1 := Lib.hid hq1
  have Q2 := Lib.hid hq2
  have HDG := Lib.hid hda2
  have HK1 := Lib.hid hk1
  have HSZ := Lib.hid (sz16 K hk1)
  have hso : (16 : Nat) = (bcells K).size := by rw [bcells_size, hk1]
  have HSO := Lib.hid hso
  have hcv := conv_const6
  clear hda hsi hsl hkey hSG hre hre2 hp1 hp2 hne hk1 hk2 hd hdl hK hK2 hq1 hq2 hs1 hs2 hDG hda2 hso env
  go_enter Tryd.func15, Tryd.ntmps15
  go_wp2_with fail
  refine (DA.out _ _ (below_new _ _) (heap_alloc_new _ _)).mono ?_
  rintro e w1 ⟨X1, rfl, hX1, hin, hb1⟩
  have hc0 := hin.at 0 (by rw [HDG.out.2.2]; decide)
  have hc1 := hin.at 1 (by rw [HDG.out.2.2]; decide)
  rw [HDG.out.1] at hc0
  rw [HDG.out.2.1] at hc1
  have HC1 := Lib.hid (And.intro hc0 hc1)
  have HB1 := Lib.hid ((below_new w _).trans (hb1.mono (by simp)))
  clear hX1 hin hb1 hc0 hc1
  go_wp2_with fail
  refine (SI.out _ _ (HB1.out.alloc HB1.out.size _) (heap_alloc_new _ _)).mono ?_
  rintro e w2 ⟨X2, rfl, hX2, hsh, hb2⟩
  have hbb := (below_new w1 _).trans (hb2.mono (by simp))
  have HSH := Lib.hid hsh
  have HB2 := Lib.hid (chain HB1.out hbb)
  have HC2 : RowKit.Hid (w2.cell? ⟨X1, 0, none⟩ = some (.int .i64 11) ∧ w2.cell? ⟨X1, 1, none⟩ = some (.int .i64 10)) := Lib.hid ⟨by rw [hbb.cell (World.block_lt_of_cell? _ _ HC1.out.1)]; exact HC1.out.1, by rw [hbb.cell (World.block_lt_of_cell? _ _ HC1.out.2)]; exact HC1.out.2⟩
  clear hX2 hsh hb2 hbb HC1 HB1
  go_wp2_with fail
  refine (RE.out _ _ X2 (HB2.out.alloc HB2.out.size _) (heap_alloc_new _ _) (HSH.out.on (below_new _ _))).mono ?_
  rintro e w3 ⟨rfl, hb3⟩
  have hbb := (below_new w2 _).trans (hb3.mono (by simp))
  have HB3 := Lib.hid (chain HB2.out hbb)
  have HC3 : RowKit.Hid (w3.cell? ⟨X1, 0, none⟩ = some (.int .i64 11) ∧ w3.cell? ⟨X1, 1, none⟩ = some (.int .i64 10)) := Lib.hid ⟨by rw [hbb.cell (World.block_lt_of_cell? _ _ HC2.out.1)]; exact HC2.out.1, by rw [hbb.cell (World.block_lt_of_cell? _ _ HC2.out.2)]; exact HC2.out.2⟩
  clear hb3 hbb HC2 HB2 HSH
  go_upto_region 4 with (refine wpList_store_row rfl 25 (.tmp 3) (.tmp 17) rfl w3.heap.size (bcells K) rfl rfl 25 _ (heap_alloc_new _ _) HSZ.out HSO.out (bcells_one _) ?_)
  rw [World.setRow_alloc_new]
  obtain ⟨KB, hKB⟩ : ∃ KB, w3.heap.size = KB := ⟨_, rfl⟩
  generalize hV : World.alloc w3 _ = V
  have hbb : Below w3.heap.size w3 V := by rw [← hV]; exact below_new _ _
  have HRK : RowKit.Hid (V.heap[KB]? = some (.cells (bcells K) 25 (0, 0))) := Lib.hid (by rw [← hV, ← hKB]; exact heap_alloc_new _ _)
  have HBV := Lib.hid (chain HB3.out hbb)
  have HCV : RowKit.Hid (V.cell? ⟨X1, 0, none⟩ = some (.int .i64 11) ∧ V.cell? ⟨X1, 1, none⟩ = some (.int .i64 10)) := Lib.hid ⟨by rw [hbb.cell (World.block_lt_of_cell? _ _ HC3.out.1)]; exact HC3.out.1, by rw [hbb.cell (World.block_lt_of_cell? _ _ HC3.out.2)]; exact HC3.out.2⟩
  try simp only [hKB]
  try simp only [Act.put]
  clear hV hbb HB3 HC3 hKB hcv
  have HS0 : RowKit.Hid (Below V.heap.size V V.drew ∧ V.drew.rangeAt KB 0 (bvals K) ∧ V.drew.cell? ⟨X1, 0, none⟩ = some (.int .i64 11) ∧ V.drew.cell? ⟨X1, 1, none⟩ = some (.int .i64 10)) := Lib.hid ⟨(Below.refl _ _).drew, rangeAt_row HRK.out, HCV.out.1, HCV.out.2⟩
  have PU1 := Lib.hid (fun (z : World) (hz : Below V.heap.size V z) => (P1.out z (chain HBV.out hz)).mono fun e w' h => (show e = .returned (.agg (bvals K).toArray) ∧ Below z.heap.size z w' from h))
  have PU2 := Lib.hid (fun (z : World) (hz : Below V.heap.size V z) => (P2.out z (chain HBV.out hz)).mono fun e w' h => (show e = .returned (.agg (bvals K2).toArray) ∧ Below z.heap.size z w' from h))
  have hq1 := Q1.out
  have hq2 := Q2.out
  have hu := Tryd.underlying25
  have hi : (Tryd.prog.info? 25).map (·.size) = some (bvals K).length := by rw [bvals_len, HK1.out]; kernel_rfl
  refine wp_region_held_drew (S := fun z => Below V.heap.size V z ∧ z.rangeAt KB 0 (bvals K) ∧ z.cell? ⟨X1, 0, none⟩ = some (.int .i64 11) ∧ z.cell? ⟨X1, 1, none⟩ = some (.int .i64 10)) (by kernel_rfl) HS0.out (fun hHeld => ?_)
  refine wpAnyH_take (i := 0) (oi := { dst := some 19, op := Go.Op.move (Go.Operand.tmp 1), type := 29, pos := "law.go:40", after := #[], guard := none }) (v := ?_) rfl (by kernel_rfl) (by kernel_rfl) (by kernel_rfl) (fun _ _ _ h => h) (Or.inl ⟨by rfl, ?_⟩) hHeld ?_
  rotate_left
  · intro w hSw
    clear hSw
    go_simp
    try with_reducible rfl
  try simp only [Act.put, List.setIfInBounds_toArray, List.set_cons_zero, List.set_cons_succ]
  refine wpAnyH_take (i := 1) (oi := { dst := some 20, op := Go.Op.call { callee := Go.Callee.builtin Go.Builtin.len, args := #[Go.Operand.tmp 19], argTypes := #[29] }, type := 3, pos := "law.go:40", after := #[{ on := 0, ground := Go.Ground.data }], guard := none }) (v := ?_) rfl (by kernel_rfl) (by kernel_rfl) (by kernel_rfl) (fun _ _ _ h => h) (Or.inl ⟨by rfl, ?_⟩) hHeld ?_
  rotate_left
  · intro w hSw
    clear hSw
    go_simp
    try with_reducible rfl
  try simp only [Act.put, List.setIfInBounds_toArray, List.set_cons_zero, List.set_cons_succ]
  refine wpAnyH_take (i := 2) (oi := { dst := some 21, op := Go.Op.binOp Go.BinOp.eql 3 (Go.Operand.tmp 20) (Go.Operand.const (Go.Value.int Go.IntKind.i64 35)) 3, type := 4, pos := "law.go:40", after := #[{ on := 1, ground := Go.Ground.data }], guard := none }) (v := ?_) rfl (by kernel_rfl) (by kernel_rfl) (by kernel_rfl) (fun _ _ _ h => h) (Or.inl ⟨by rfl, ?_⟩) hHeld ?_
  rotate_left
  · intro w hSw
    clear hSw
    go_simp
    try with_reducible rfl
  try simp only [Act.put, List.setIfInBounds_toArray, List.set_cons_zero, List.set_cons_succ]
  refine wpAnyH_take (i := 3) (oi := { dst := some 22, op := Go.Op.move (Go.Operand.tmp 21), type := 4, pos := "law.go:40", after := #[{ on := 2, ground := Go.Ground.data }], guard := none }) (v := ?_) rfl (by kernel_rfl) (by kernel_rfl) (by kernel_rfl) (fun _ _ _ h => h) (Or.inl ⟨by rfl, ?_⟩) hHeld ?_
  rotate_left
  · intro w hSw
    clear hSw
    go_simp
    try with_reducible rfl
  try simp only [Act.put, List.setIfInBounds_toArray, List.set_cons_zero, List.set_cons_succ]
  refine wpAnyH_take (i := 4) (oi := { dst := some 23, op := Go.Op.move (Go.Operand.tmp 1), type := 29, pos := "law.go:40", after := #[{ on := 3, ground := Go.Ground.guard }], guard := some (3, true) }) (v := ?_) rfl (by kernel_rfl) (by kernel_rfl) (by kernel_rfl) (fun _ _ _ h => h) (Or.inl ⟨by rfl, ?_⟩) hHeld ?_
  rotate_left
  · intro w hSw
    clear hSw
    go_simp
    try with_reducible rfl
  try simp only [Act.put, List.setIfInBounds_toArray, List.set_cons_zero, List.set_cons_succ]
  refine wpAnyH_take (i := 5) (oi := { dst := some 24, op := Go.Op.indexAddr 29 (Go.Operand.tmp 23) (Go.Operand.const (Go.Value.int Go.IntKind.i64 0)), type := 0, pos := "law.go:40", after := #[{ on := 4, ground := Go.Ground.data }, { on := 3, ground := Go.Ground.guard }], guard := some (3, true) }) (v := ?_) rfl (by kernel_rfl) (by kernel_rfl) (by kernel_rfl) (fun _ _ _ h => h) (Or.inl ⟨by rfl, ?_⟩) hHeld ?_
  rotate_left
  · intro w hSw
    clear hSw
    go_simp
    try with_reducible rfl
  try simp only [Act.put, List.setIfInBounds_toArray, List.set_cons_zero, List.set_cons_succ]
  refine wpAnyH_take (i := 6) (oi := { dst := some 25, op := Go.Op.load 3 (Go.Operand.tmp 24), type := 3, pos := "law.go:40", after := #[{ on := 5, ground := Go.Ground.data }, { on := 3, ground := Go.Ground.guard }], guard := some (3, true) }) (v := ?_) rfl (by kernel_rfl) (by kernel_rfl) (by kernel_rfl) (fun _ _ _ h => h) (Or.inl ⟨by rfl, ?_⟩) hHeld ?_
  rotate_left
  · intro w hSw
    have hfc0 := hSw.2.2.1
    clear hSw
    go_simp
    try with_reducible rfl
  try simp only [Act.put, List.setIfInBounds_toArray, List.set_cons_zero, List.set_cons_succ]
  refine wpAnyH_take (i := 7) (oi := { dst := some 26, op := Go.Op.binOp Go.BinOp.eql 3 (Go.Operand.tmp 25) (Go.Operand.const (Go.Value.int Go.IntKind.i64 11)) 3, type := 4, pos := "law.go:40", after := #[{ on := 6, ground := Go.Ground.data }, { on := 3, ground := Go.Ground.guard }], guard := some (3, true) }) (v := ?_) rfl (by kernel_rfl) (by kernel_rfl) (by kernel_rfl) (fun _ _ _ h => h) (Or.inl ⟨by rfl, ?_⟩) hHeld ?_
  rotate_left
  · intro w hSw
    clear hSw
    go_simp
    try with_reducible rfl
  try simp only [Act.put, List.setIfInBounds_toArray, List.set_cons_zero, List.set_cons_succ]
  refine wpAnyH_take (i := 8) (oi := { dst := some 27, op := Go.Op.pick (Go.Operand.tmp 22) (Go.Operand.tmp 26) (Go.Operand.const (Go.Value.bool false)), type := 4, pos := "law.go:40", after := #[{ on := 3, ground := Go.Ground.data }, { on := 7, ground := Go.Ground.data }], guard := none }) (v := ?_) rfl (by kernel_rfl) (by kernel_rfl) (by kernel_rfl) (fun _ _ _ h => h) (Or.inl ⟨by rfl, ?_⟩) hHeld ?_
  rotate_left
  · intro w hSw
    clear hSw
    go_simp
    try with_reducible rfl
  try simp only [Act.put, List.setIfInBounds_toArray, List.set_cons_zero, List.set_cons_succ]
  refine wpAnyH_take (i := 9) (oi := { dst := some 28, op := Go.Op.move (Go.Operand.tmp 27), type := 4, pos := "law.go:40", after := #[{ on := 8, ground := Go.Ground.data }, { on := 3, ground := Go.Ground.chain }], guard := none }) (v := ?_) rfl (by kernel_rfl) (by kernel_rfl) (by kernel_rfl) (fun _ _ _ h => h) (Or.inl ⟨by rfl, ?_⟩) hHeld ?_
  rotate_left
  · intro w hSw
    clear hSw
    go_simp
    try with_reducible rfl
  try simp only [Act.put, List.setIfInBounds_toArray, List.set_cons_zero, List.set_cons_succ]
  refine wpAnyH_take (i := 10) (oi := { dst := some 29, op := Go.Op.move (Go.Operand.tmp 1), type := 29, pos := "law.go:40", after := #[{ on := 9, ground := Go.Ground.guard }], guard := some (9, true) }) (v := ?_) rfl (by kernel_rfl) (by kernel_rfl) (by kernel_rfl) (fun _ _ _ h => h) (Or.inl ⟨by rfl, ?_⟩) hHeld ?_
  rotate_left
  · intro w hSw
    clear hSw
    go_simp
    try with_reducible rfl
  try simp only [Act.put, List.setIfInBounds_toArray, List.set_cons_zero, List.set_cons_succ]
  refine wpAnyH_take (i := 11) (oi := { dst := some 30, op := Go.Op.indexAddr 29 (Go.Operand.tmp 29) (Go.Operand.const (Go.Value.int Go.IntKind.i64 1)), type := 0, pos := "law.go:40", after := #[{ on := 10, ground := Go.Ground.data }, { on := 9, ground := Go.Ground.guard }], guard := some (9, true) }) (v := ?_) rfl (by kernel_rfl) (by kernel_rfl) (by kernel_rfl) (fun _ _ _ h => h) (Or.inl ⟨by rfl, ?_⟩) hHeld ?_
  rotate_left
  · intro w hSw
    clear hSw
    go_simp
    try with_reducible rfl
  try simp only [Act.put, List.setIfInBounds_toArray, List.set_cons_zero, List.set_cons_succ]
  refine wpAnyH_take (i := 12) (oi := { dst := some 31, op := Go.Op.load 3 (Go.Operand.tmp 30), type := 3, pos := "law.go:40", after := #[{ on := 11, ground := Go.Ground.data }, { on := 9, ground := Go.Ground.guard }], guard := some (9, true) }) (v := ?_) rfl (by kernel_rfl) (by kernel_rfl) (by kernel_rfl) (fun _ _ _ h => h) (Or.inl ⟨by rfl, ?_⟩) hHeld ?_
  rotate_left
  · intro w hSw
    have hfc0 := hSw.2.2.2
    clear hSw
    go_simp
    try with_reducible rfl
  try simp only [Act.put, List.setIfInBounds_toArray, List.set_cons_zero, List.set_cons_succ]
  refine wpAnyH_take (i := 13) (oi := { dst := some 32, op := Go.Op.binOp Go.BinOp.eql 3 (Go.Operand.tmp 31) (Go.Operand.const (Go.Value.int Go.IntKind.i64 10)) 3, type := 4, pos := "law.go:40", after := #[{ on := 12, ground := Go.Ground.data }, { on := 9, ground := Go.Ground.guard }], guard := some (9, true) }) (v := ?_) rfl (by kernel_rfl) (by kernel_rfl) (by kernel_rfl) (fun _ _ _ h => h) (Or.inl ⟨by rfl, ?_⟩) hHeld ?_
  rotate_left
  · intro w hSw
    clear hSw
    go_simp
    try with_reducible rfl
  try simp only [Act.put, List.setIfInBounds_toArray, List.set_cons_zero, List.set_cons_succ]
  refine wpAnyH_take (i := 14) (oi := { dst := some 33, op := Go.Op.pick (Go.Operand.tmp 28) (Go.Operand.tmp 32) (Go.Operand.const (Go.Value.bool false)), type := 4, pos := "law.go:40", after := #[{ on := 9, ground := Go.Ground.data }, { on := 13, ground := Go.Ground.data }], guard := none }) (v := ?_) rfl (by kernel_rfl) (by kernel_rfl) (by kernel_rfl) (fun _ _ _ h => h) (Or.inl ⟨by rfl, ?_⟩) hHeld ?_
  rotate_left
  · intro w hSw
    clear hSw
    go_simp
    try with_reducible rfl
  try simp only [Act.put, List.setIfInBounds_toArray, List.set_cons_zero, List.set_cons_succ]
  refine wpAnyH_take (i := 15) (oi := { dst := some 34, op := Go.Op.move (Go.Operand.tmp 33), type := 4, pos := "law.go:40", after := #[{ on := 14, ground := Go.Ground.data }, { on := 9, ground := Go.Ground.chain }], guard := none }) (v := ?_) rfl (by kernel_rfl) (by kernel_rfl) (by kernel_rfl) (fun _ _ _ h => h) (Or.inl ⟨by rfl, ?_⟩) hHeld ?_
  rotate_left
  · intro w hSw
    clear hSw
    go_simp
    try with_reducible rfl
  try simp only [Act.put, List.setIfInBounds_toArray, List.set_cons_zero, List.set_cons_succ]
  refine wpAnyH_take (i := 16) (oi := { dst := some 35, op := Go.Op.move (Go.Operand.tmp 2), type := 22, pos := "law.go:40", after := #[{ on := 15, ground := Go.Ground.guard }], guard := some (15, true) }) (v := ?_) rfl (by kernel_rfl) (by kernel_rfl) (by kernel_rfl) (fun _ _ _ h => h) (Or.inl ⟨by rfl, ?_⟩) hHeld ?_
  rotate_left
  · intro w hSw
    clear hSw
    go_simp
    try with_reducible rfl
  try simp only [Act.put, List.setIfInBounds_toArray, List.set_cons_zero, List.set_cons_succ]
  refine wpAnyH_take (i := 17) (oi := { dst := some 36, op := Go.Op.call { callee := Go.Callee.builtin Go.Builtin.len, args := #[Go.Operand.tmp 35], argTypes := #[22] }, type := 3, pos := "law.go:40", after := #[{ on := 16, ground := Go.Ground.data }, { on := 15, ground := Go.Ground.guard }], guard := some (15, true) }) (v := ?_) rfl (by kernel_rfl) (by kernel_rfl) (by kernel_rfl) (fun _ _ _ h => h) (Or.inl ⟨by rfl, ?_⟩) hHeld ?_
  rotate_left
  · intro w hSw
    clear hSw
    go_simp
    try with_reducible rfl
  try simp only [Act.put, List.setIfInBounds_toArray, List.set_cons_zero, List.set_cons_succ]
  refine wpAnyH_take (i := 18) (oi := { dst := some 37, op := Go.Op.binOp Go.BinOp.eql 3 (Go.Operand.tmp 36) (Go.Operand.const (Go.Value.int Go.IntKind.i64 35)) 3, type := 4, pos := "law.go:40", after := #[{ on := 17, ground := Go.Ground.data }, { on := 15, ground := Go.Ground.guard }], guard := some (15, true) }) (v := ?_) rfl (by kernel_rfl) (by kernel_rfl) (by kernel_rfl) (fun _ _ _ h => h) (Or.inl ⟨by rfl, ?_⟩) hHeld ?_
  rotate_left
  · intro w hSw
    clear hSw
    go_simp
    try with_reducible rfl
  try simp only [Act.put, List.setIfInBounds_toArray, List.set_cons_zero, List.set_cons_succ]
  refine wpAnyH_take (i := 19) (oi := { dst := some 38, op := Go.Op.pick (Go.Operand.tmp 34) (Go.Operand.tmp 37) (Go.Operand.const (Go.Value.bool false)), type := 4, pos := "law.go:40", after := #[{ on := 15, ground := Go.Ground.data }, { on := 18, ground := Go.Ground.data }], guard := none }) (v := ?_) rfl (by kernel_rfl) (by kernel_rfl) (by kernel_rfl) (fun _ _ _ h => h) (Or.inl ⟨by rfl, ?_⟩) hHeld ?_
  rotate_left
  · intro w hSw
    clear hSw
    go_simp
    try with_reducible rfl
  try simp only [Act.put, List.setIfInBounds_toArray, List.set_cons_zero, List.set_cons_succ]
  refine wpAnyH_take (i := 20) (oi := { dst := some 39, op := Go.Op.move (Go.Operand.tmp 38), type := 4, pos := "law.go:40", after := #[{ on := 19, ground := Go.Ground.data }, { on := 15, ground := Go.Ground.chain }], guard := none }) (v := ?_) rfl (by kernel_rfl) (by kernel_rfl) (by kernel_rfl) (fun _ _ _ h => h) (Or.inl ⟨by rfl, ?_⟩) hHeld ?_
  rotate_left
  · intro w hSw
    clear hSw
    go_simp
    try with_reducible rfl
  try simp only [Act.put, List.setIfInBounds_toArray, List.set_cons_zero, List.set_cons_succ]
  refine wpAnyH_take (i := 21) (oi := { dst := some 40, op := Go.Op.move (Go.Operand.tmp 4), type := 26, pos := "law.go:40", after := #[{ on := 20, ground := Go.Ground.guard }], guard := some (20, true) }) (v := ?_) rfl (by kernel_rfl) (by kernel_rfl) (by kernel_rfl) (fun _ _ _ h => h) (Or.inl ⟨by rfl, ?_⟩) hHeld ?_
  rotate_left
  · intro w hSw
    clear hSw
    go_simp
    try with_reducible rfl
  try simp only [Act.put, List.setIfInBounds_toArray, List.set_cons_zero, List.set_cons_succ]
  refine wpAnyH_take (i := 22) (oi := { dst := some 41, op := Go.Op.binOp Go.BinOp.eql 26 (Go.Operand.tmp 40) (Go.Operand.const (Go.Value.int Go.IntKind.i64 0)) 26, type := 4, pos := "law.go:40", after := #[{ on := 21, ground := Go.Ground.data }, { on := 20, ground := Go.Ground.guard }], guard := some (20, true) }) (v := ?_) rfl (by kernel_rfl) (by kernel_rfl) (by kernel_rfl) (fun _ _ _ h => h) (Or.inl ⟨by rfl, ?_⟩) hHeld ?_
  rotate_left
  · intro w hSw
    clear hSw
    go_simp
    try with_reducible rfl
  try simp only [Act.put, List.setIfInBounds_toArray, List.set_cons_zero, List.set_cons_succ]
  refine wpAnyH_take (i := 23) (oi := { dst := some 42, op := Go.Op.pick (Go.Operand.tmp 39) (Go.Operand.tmp 41) (Go.Operand.const (Go.Value.bool false)), type := 4, pos := "law.go:40", after := #[{ on := 20, ground := Go.Ground.data }, { on := 22, ground := Go.Ground.data }], guard := none }) (v := ?_) rfl (by kernel_rfl) (by kernel_rfl) (by kernel_rfl) (fun _ _ _ h => h) (Or.inl ⟨by rfl, ?_⟩) hHeld ?_
  rotate_left
  · intro w hSw
    clear hSw
    go_simp
    try with_reducible rfl
  try simp only [Act.put, List.setIfInBounds_toArray, List.set_cons_zero, List.set_cons_succ]
  refine wpAnyH_take (i := 24) (oi := { dst := some 43, op := Go.Op.move (Go.Operand.tmp 42), type := 4, pos := "law.go:40", after := #[{ on := 23, ground := Go.Ground.data }, { on := 20, ground := Go.Ground.chain }], guard := none }) (v := ?_) rfl (by kernel_rfl) (by kernel_rfl) (by kernel_rfl) (fun _ _ _ h => h) (Or.inl ⟨by rfl, ?_⟩) hHeld ?_
  rotate_left
  · intro w hSw
    clear hSw
    go_simp
    try with_reducible rfl
  try simp only [Act.put, List.setIfInBounds_toArray, List.set_cons_zero, List.set_cons_succ]
  refine wpAnyH_take (i := 25) (oi := { dst := some 44, op := Go.Op.load 25 (Go.Operand.tmp 3), type := 25, pos := "law.go:40", after := #[{ on := 24, ground := Go.Ground.guard }], guard := some (24, true) }) (v := .agg (bvals K).toArray) rfl (by kernel_rfl) (by kernel_rfl) (by kernel_rfl) (fun _ _ _ h => h) (yieldsIf_load_mid (by rfl) _ _ rfl _ _ rfl (bvals K) _ (fun w hSw => hSw.2.1) hu rfl hi) hHeld ?_
  try simp only [Act.put, List.setIfInBounds_toArray, List.set_cons_zero, List.set_cons_succ]
  refine wpAnyH_take (i := 26) (oi := { dst := some 45, op := Go.Op.build 25 #[(0, Go.Operand.const (Go.Value.int Go.IntKind.u8 1))], type := 25, pos := "law.go:40", after := #[{ on := 24, ground := Go.Ground.guard }], guard := some (24, true) }) (v := ?_) rfl (by kernel_rfl) (by kernel_rfl) (by kernel_rfl) (fun _ _ _ h => h) (Or.inl ⟨by rfl, ?_⟩) hHeld ?_
  rotate_left
  · intro w hSw
    clear hSw
    go_simp
    try with_reducible rfl
  try simp only [Act.put, List.setIfInBounds_toArray, List.set_cons_zero, List.set_cons_succ]
  refine wpAnyH_ready (rs := [27]) (by kernel_rfl) (by simp) (AllReadyH.cons (o := { dst := some 46, op := Go.Op.call { callee := Go.Callee.value (Go.Operand.func 17), args := #[Go.Operand.tmp 45], argTypes := #[25] }, type := 25, pos := "law.go:40", after := #[{ on := 26, ground := Go.Ground.data }, { on := 24, ground := Go.Ground.chain }, { on := 24, ground := Go.Ground.guard }], guard := some (24, true) }) rfl (fun K hK => ?_) AllReadyH.nil)
  go_simp
  refine (PU1.out _ hHeld.1).mono ?_
  rintro e w8 ⟨rfl, hb8⟩
  go_simp
  refine hK.out _ _ (keepT hHeld hb8) (fun hHeld2 => ?_)
  clear hK K hHeld hb8
  have hHeld := hHeld2
  clear hHeld2
  try simp only [Act.put, List.setIfInBounds_toArray, List.set_cons_zero, List.set_cons_succ]
  refine wpAnyH_take (i := 28) (oi := { dst := some 47, op := Go.Op.binOp Go.BinOp.eql 25 (Go.Operand.tmp 44) (Go.Operand.tmp 46) 25, type := 4, pos := "law.go:40", after := #[{ on := 25, ground := Go.Ground.data }, { on := 27, ground := Go.Ground.data }, { on := 24, ground := Go.Ground.guard }], guard := some (24, true) }) (v := ?_) rfl (by kernel_rfl) (by kernel_rfl) (by kernel_rfl) (fun _ _ _ h => h) (Or.inl ⟨by rfl, ?_⟩) hHeld ?_
  rotate_left
  · intro w hSw
    clear hSw
    go_simp
    try with_reducible rfl
  try simp only [Act.put, List.setIfInBounds_toArray, List.set_cons_zero, List.set_cons_succ]
  refine wpAnyH_take (i := 29) (oi := { dst := some 48, op := Go.Op.pick (Go.Operand.tmp 43) (Go.Operand.tmp 47) (Go.Operand.const (Go.Value.bool false)), type := 4, pos := "law.go:40", after := #[{ on := 24, ground := Go.Ground.data }, { on := 28, ground := Go.Ground.data }], guard := none }) (v := ?_) rfl (by kernel_rfl) (by kernel_rfl) (by kernel_rfl) (fun _ _ _ h => h) (Or.inl ⟨by rfl, ?_⟩) hHeld ?_
  rotate_left
  · intro w hSw
    clear hSw
    go_simp
    try with_reducible rfl
  try simp only [Act.put, List.setIfInBounds_toArray, List.set_cons_zero, List.set_cons_succ]
  refine wpAnyH_take (i := 30) (oi := { dst := some 49, op := Go.Op.move (Go.Operand.tmp 48), type := 4, pos := "law.go:40", after := #[{ on := 29, ground := Go.Ground.data }, { on := 27, ground := Go.Ground.chain }], guard := none }) (v := ?_) rfl (by kernel_rfl) (by kernel_rfl) (by kernel_rfl) (fun _ _ _ h => h) (Or.inl ⟨by rfl, ?_⟩) hHeld ?_
  rotate_left
  · intro w hSw
    clear hSw
    go_simp
    try with_reducible rfl
  try simp only [Act.put, List.setIfInBounds_toArray, List.set_cons_zero, List.set_cons_succ]
  refine wpAnyH_take (i := 31) (oi := { dst := some 50, op := Go.Op.load 25 (Go.Operand.tmp 3), type := 25, pos := "law.go:40", after := #[{ on := 30, ground := Go.Ground.guard }], guard := some (30, true) }) (v := .agg (bvals K).toArray) rfl (by kernel_rfl) (by kernel_rfl) (by kernel_rfl) (fun _ _ _ h => h) (yieldsIf_load_mid (by rfl) _ _ rfl _ _ rfl (bvals K) _ (fun w hSw => hSw.2.1) hu rfl hi) hHeld ?_
  try simp only [Act.put, List.setIfInBounds_toArray, List.set_cons_zero, List.set_cons_succ]
  refine wpAnyH_take (i := 32) (oi := { dst := some 51, op := Go.Op.build 25 #[(0, Go.Operand.const (Go.Value.int Go.IntKind.u8 2))], type := 25, pos := "law.go:40", after := #[{ on := 30, ground := Go.Ground.guard }], guard := some (30, true) }) (v := ?_) rfl (by kernel_rfl) (by kernel_rfl) (by kernel_rfl) (fun _ _ _ h => h) (Or.inl ⟨by rfl, ?_⟩) hHeld ?_
  rotate_left
  · intro w hSw
    clear hSw
    go_simp
    try with_reducible rfl
  try simp only [Act.put, List.setIfInBounds_toArray, List.set_cons_zero, List.set_cons_succ]
  refine wpAnyH_ready (rs := [33]) (by kernel_rfl) (by simp) (AllReadyH.cons (o := { dst := some 52, op := Go.Op.call { callee := Go.Callee.value (Go.Operand.func 17), args := #[Go.Operand.tmp 51], argTypes := #[25] }, type := 25, pos := "law.go:40", after := #[{ on := 32, ground := Go.Ground.data }, { on := 30, ground := Go.Ground.chain }, { on := 30, ground := Go.Ground.guard }], guard := some (30, true) }) rfl (fun K hK => ?_) AllReadyH.nil)
  go_simp
  refine (PU2.out _ hHeld.1).mono ?_
  rintro e w9 ⟨rfl, hb8⟩
  go_simp
  refine hK.out _ _ (keepT hHeld hb8) (fun hHeld2 => ?_)
  clear hK K hHeld hb8
  have hHeld := hHeld2
  clear hHeld2
  try simp only [Act.put, List.setIfInBounds_toArray, List.set_cons_zero, List.set_cons_succ]
  refine wpAnyH_take (i := 34) (oi := { dst := some 53, op := Go.Op.binOp Go.BinOp.neq 25 (Go.Operand.tmp 50) (Go.Operand.tmp 52) 25, type := 4, pos := "law.go:40", after := #[{ on := 31, ground := Go.Ground.data }, { on := 33, ground := Go.Ground.data }, { on := 30, ground := Go.Ground.guard }], guard := some (30, true) }) (v := ?_) rfl (by kernel_rfl) (by kernel_rfl) (by kernel_rfl) (fun _ _ _ h => h) (Or.inl ⟨by rfl, ?_⟩) hHeld ?_
  rotate_left
  · intro w hSw
    clear hSw
    go_simp
    try with_reducible rfl
  try simp only [Act.put, List.setIfInBounds_toArray, List.set_cons_zero, List.set_cons_succ]
  refine wpAnyH_take (i := 35) (oi := { dst := some 54, op := Go.Op.pick (Go.Operand.tmp 49) (Go.Operand.tmp 53) (Go.Operand.const (Go.Value.bool false)), type := 4, pos := "law.go:40", after := #[{ on := 30, ground := Go.Ground.data }, { on := 34, ground := Go.Ground.data }], guard := none }) (v := ?_) rfl (by kernel_rfl) (by kernel_rfl) (by kernel_rfl) (fun _ _ _ h => h) (Or.inl ⟨by rfl, ?_⟩) hHeld ?_
  rotate_left
  · intro w hSw
    clear hSw
    go_simp
    try with_reducible rfl
  try simp only [Act.put, List.setIfInBounds_toArray, List.set_cons_zero, List.set_cons_succ]
  refine wpAnyH_take (i := 36) (oi := { dst := some 0, op := Go.Op.assign (Go.Operand.tmp 54), type := 4, pos := "law.go:40", after := #[{ on := 35, ground := Go.Ground.data }, { on := 33, ground := Go.Ground.chain }, { on := 0, ground := Go.Ground.phase }, { on := 1, ground := Go.Ground.phase }, { on := 2, ground := Go.Ground.phase }, { on := 3, ground := Go.Ground.phase }, { on := 4, ground := Go.Ground.phase }, { on := 5, ground := Go.Ground.phase }, { on := 6, ground := Go.Ground.phase }, { on := 7, ground := Go.Ground.phase }, { on := 8, ground := Go.Ground.phase }, { on := 9, ground := Go.Ground.phase }, { on := 10, ground := Go.Ground.phase }, { on := 11, ground := Go.Ground.phase }, { on := 12, ground := Go.Ground.phase }, { on := 13, ground := Go.Ground.phase }, { on := 14, ground := Go.Ground.phase }, { on := 15, ground := Go.Ground.phase }, { on := 16, ground := Go.Ground.phase }, { on := 17, ground := Go.Ground.phase }, { on := 18, ground := Go.Ground.phase }, { on := 19, ground := Go.Ground.phase }, { on := 20, ground := Go.Ground.phase }, { on := 21, ground := Go.Ground.phase }, { on := 22, ground := Go.Ground.phase }, { on := 23, ground := Go.Ground.phase }, { on := 24, ground := Go.Ground.phase }, { on := 25, ground := Go.Ground.phase }, { on := 26, ground := Go.Ground.phase }, { on := 27, ground := Go.Ground.phase }, { on := 28, ground := Go.Ground.phase }, { on := 29, ground := Go.Ground.phase }, { on := 30, ground := Go.Ground.phase }, { on := 31, ground := Go.Ground.phase }, { on := 32, ground := Go.Ground.phase }, { on := 33, ground := Go.Ground.phase }, { on := 34, ground := Go.Ground.phase }, { on := 35, ground := Go.Ground.phase }], guard := none }) (v := ?_) rfl (by kernel_rfl) (by kernel_rfl) (by kernel_rfl) (fun _ _ _ h => h) (Or.inl ⟨by rfl, ?_⟩) hHeld ?_
  rotate_left
  · intro w hSw
    clear hSw
    go_simp
    try with_reducible rfl
  try simp only [Act.put, List.setIfInBounds_toArray, List.set_cons_zero, List.set_cons_succ]
  refine wpAnyH_done (by kernel_rfl) ?_ _
  go_wp2_with fail
  go_ret
  exact ⟨rfl, chain HBV.out hHeld.1⟩
end Go.Proofs.YtpacfbhofgbhkaaDoor
