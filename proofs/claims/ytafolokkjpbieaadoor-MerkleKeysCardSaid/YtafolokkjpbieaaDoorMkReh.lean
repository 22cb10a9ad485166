import Derived.Test.YtafolokkjpbieaaDoorMkRabcd
import Derived.Test.YtafolokkjpbieaaDoorMkDJ
import Derived.Test.YtafolokkjpbieaaDoorOneRE
namespace Go.Proofs.YtafolokkjpbieaaDoor
open Go.RowKit Sha Ots
set_option linter.unusedVariables false
set_option linter.unusedSimpArgs false
set_option maxRecDepth 100000 in
set_option maxHeartbeats 4000000 in
theorem seed7_ref (l : List UInt8) (hl : l.length = 16) (i : Nat) (hi : i < 256) (w : World) :
    Calls Tryd.prog 38 #[.agg (bcells l), .int .i64 (i : Int)] w fun e w' => e = .returned (.agg (bcells (msd l i))) ∧ Below w.heap.size w w' := by
  have hsho : ∀ (g : Nat) (V : World) (v : Value), V.ownsRow g 5 1 v (l ++ [UInt8.ofNat i, 254, 0]).length (bvals (l ++ [UInt8.ofNat i, 254, 0])) → Calls Tryd.prog 54 #[v] V fun e w' => e = .returned (.agg (bcells (msd l i))) ∧ Below V.heap.size V w' := fun g V v ho => short_ref_own _ (by rw [List.length_append, hl]; show 16 + 3 ≤ 100000; decide) g V v ho
  have hadd : ∀ (V : World), Calls Tryd.prog 55 #[.slice none 0 0, .agg (bcells l)] V (AddPost V.heap.size [] l V) := fun V => add_ref l [] hl (by decide) V.heap.size _ V (Nat.le_refl _) ⟨rfl, Or.inl ⟨rfl, rfl⟩⟩
  obtain ⟨F, hF⟩ : ∃ F, msd l i = F := ⟨_, rfl⟩
  have hF16 : F.length = 16 := by rw [← hF]; exact msd_len _ _
  rw [hF] at hsho ⊢
  have hwi := u8_wrap i hi
  obtain ⟨a, ha⟩ : ∃ a, UInt8.ofNat i = a := ⟨_, rfl⟩
  rw [ha] at hwi hsho
  have SHO := Lib.hid hsho
  have HAD := Lib.hid hadd
  have HSZL := Lib.hid (sz16 l hl)
  have HSZ := Lib.hid (sz16 F hF16)
  have hso : (16 : Nat) = (bcells F).size := by rw [bcells_size, hF16]
  have HSO := Lib.hid hso
  have HL := Lib.hid hl
  clear hsho hadd hF hF16 hi ha hso hl
  go_enter Tryd.func38, Tryd.ntmps38
  go_upto_region 1 with (fail)
  generalize hV : World.alloc (World.alloc w _) _ = V
  have HB0 : RowKit.Hid (Below w.heap.size w V) := Lib.hid (by rw [← hV]; exact (below_new _ _).alloc (by simp) _)
  have HR0 : RowKit.Hid (V.heap[w.heap.size]? = some (.cells (bcells l) 23 (0, 0))) := Lib.hid (by rw [← hV]; exact heap_alloc2_old _ _ _)
  have HR1 : RowKit.Hid (V.heap[w.heap.size + 1]? = some (.cells (bcells (List.replicate 16 0)) 23 (0, 0))) := Lib.hid (by rw [← hV]; exact (heap_alloc2_new _ _ _).trans rfl)
  clear hV
  go_wp2_with (refine wpList_load_row rfl 23 (.tmp 2) rfl w.heap.size rfl 23 (bcells l) (0, 0) _ HR0.out Tryd.underlying23 rfl HSZL.out ?_)
  refine (HAD.out V).mono ?_
  rintro e w1 ⟨v1, rfl, ho1, hb1⟩
  rw [List.nil_append, HL.out] at ho1
  have HO1 := Lib.hid ho1
  have HB1 := Lib.hid hb1
  clear ho1 hb1
  go_wp2_with (at_builtin; go_loud (refine append_src rfl (.tmp 6) (.tmp 9) rfl V.heap.size _ 16 (bvals l) rfl (HO1.out.alloc _) (some ⟨w1.heap.size, 0, none⟩) [a, 254, 0] 3 3 rfl rfl (fun e => by cases e) (srcAt_row (heap_alloc_new w1 _)) (by decide) (by have := HB1.out.size; rw [World.size_alloc]; omega) ?_); intro v2 w3 ho2 hg2; have HO2 := Lib.hid ho2; have HG2 := Lib.hid hg2; clear ho2 hg2)
  have hb3 : Below V.heap.size V w3 := (HB1.out.alloc HB1.out.size _).grown HG2.out (by have := HB1.out.size; rw [World.size_alloc]; omega) (fun j hj => (own_ge HO1.out hj).1)
  have hod : w3.ownsRow V.heap.size 5 1 v2 (l ++ [a, 254, 0]).length (bvals (l ++ [a, 254, 0])) := by
    rw [bvals_app, List.length_append, HL.out]
    exact HO2.out
  have HR3 := Lib.hid (row_on HR1.out hb3)
  have HB3 := Lib.hid (chain HB0.out hb3)
  have HO3 := Lib.hid hod
  clear hb3 hod HO1 HG2 HR0 HR1 HB0 HB1 HO2
  refine (SHO.out _ _ _ HO3.out).mono ?_
  rintro e w4 ⟨rfl, hb4⟩
  have HR4 := Lib.hid (row_on HR3.out hb4)
  have HB4 := Lib.hid (chain HB3.out hb4)
  clear hb4 HR3 HB3 HO3
  go_wp2_with (refine wpList_store_row rfl 23 (.tmp 4) (.tmp 11) rfl (w.heap.size + 1) (bcells F) rfl rfl 23 _ HR4.out HSZ.out HSO.out (bcells_one _) ?_)
  refine bodyPost_ret (v := .agg (bcells F)) (results_cell_row rfl _ _ (w.heap.size + 1) 23 _ (0, 0) _ rfl (setRow_heap _ _ _ _ _ _ HR4.out) Tryd.underlying23 rfl HSZ.out) rfl ⟨rfl, ?_⟩
  exact below_row HB4.out (by omega) _

set_option maxRecDepth 100000 in
set_option maxHeartbeats 4000000 in
theorem node_ref (seed : List UInt8) (hs : seed.length = 16) : ∀ (lv k : Nat), lv ≤ 4 → (k + 1) * 2 ^ lv ≤ 256 → ∀ (w : World),
    Calls Tryd.prog 35 #[.agg (bcells seed), .int .i64 (lv : Int), .int .i64 (k : Int)] w fun e w' => e = .returned (.agg (bcells (node seed lv k))) ∧ Below w.heap.size w w'
  | 0, k, _, hk, w => by
    rw [Nat.pow_zero, Nat.mul_one] at hk
    have hso := fun (V : World) => seed7_ref seed hs k (by omega) V
    have hpu := fun (V : World) => public_ref (msd seed k) (msd_len seed k) V
    have hnd : node seed 0 k = pub (msd seed k) := rfl
    rw [hnd]
    obtain ⟨M, hM⟩ : ∃ M, msd seed k = M := ⟨_, rfl⟩
    rw [hM] at hso hpu ⊢
    have hF16 : (pub M).length = 16 := by unfold pub; exact sh_len _
    obtain ⟨F, hF⟩ : ∃ F, pub M = F := ⟨_, rfl⟩
    rw [hF] at hpu hF16 ⊢
    have SO := Lib.hid hso
    have PU := Lib.hid hpu
    have HSZL := Lib.hid (sz16 seed hs)
    have HSZ := Lib.hid (sz16 F hF16)
    have hso2 : (16 : Nat) = (bcells F).size := by rw [bcells_size, hF16]
    have HSO := Lib.hid hso2
    clear hso hpu hnd hM hF16 hF hso2 hs hk
    rw [show ((0 : Nat) : Int) = 0 by rfl]
    go_enter Tryd.func35, Tryd.ntmps35
    go_upto_region 1 with (fail)
    generalize hV : World.alloc (World.alloc w _) _ = V
    have HB0 : RowKit.Hid (Below w.heap.size w V) := Lib.hid (by rw [← hV]; exact (below_new _ _).alloc (by simp) _)
    have HR0 : RowKit.Hid (V.heap[w.heap.size]? = some (.cells (bcells seed) 23 (0, 0))) := Lib.hid (by rw [← hV]; exact heap_alloc2_old _ _ _)
    have HR1 : RowKit.Hid (V.heap[w.heap.size + 1]? = some (.cells (bcells (List.replicate 16 0)) 23 (0, 0))) := Lib.hid (by rw [← hV]; exact (heap_alloc2_new _ _ _).trans rfl)
    clear hV
    go_wp2_with (refine wpList_load_row rfl 23 (.tmp 3) rfl w.heap.size rfl 23 (bcells seed) (0, 0) _ HR0.out Tryd.underlying23 rfl HSZL.out ?_)
    refine (SO.out V).mono ?_
    rintro e w1 ⟨rfl, hb1⟩
    have HR2 := Lib.hid (row_on HR1.out hb1)
    have HB2 := Lib.hid (chain HB0.out hb1)
    clear hb1 HR0 HR1 HB0
    go_wp2_with fail
    refine (PU.out w1).mono ?_
    rintro e w4 ⟨rfl, hb4⟩
    have HR4 := Lib.hid (row_on HR2.out hb4)
    have HB4 := Lib.hid (chain HB2.out hb4)
    clear hb4 HR2 HB2
    go_wp2_with (refine wpList_store_row rfl 23 (.tmp 6) (.tmp 12) rfl (w.heap.size + 1) (bcells F) rfl rfl 23 _ HR4.out HSZ.out HSO.out (bcells_one _) ?_)
    refine bodyPost_ret (v := .agg (bcells F)) (results_cell_row rfl _ _ (w.heap.size + 1) 23 _ (0, 0) _ rfl (setRow_heap _ _ _ _ _ _ HR4.out) Tryd.underlying23 rfl HSZ.out) rfl ⟨rfl, ?_⟩
    exact below_row HB4.out (by omega) _
  | lv + 1, k, hlv, hk, w => by
    have hp : 2 ^ (lv + 1) = 2 ^ lv + 2 ^ lv := by rw [Nat.pow_succ]; omega
    have hkp : (k + 1) * 2 ^ (lv + 1) = (2 * k + 1 + 1) * 2 ^ lv := by rw [Nat.pow_succ, Nat.mul_comm (2 ^ lv) 2, ← Nat.mul_assoc]; congr 1; omega
    have hle1 : (2 * k + 1) * 2 ^ lv ≤ (2 * k + 1 + 1) * 2 ^ lv := Nat.mul_le_mul_right _ (by omega)
    have hk255 : k + 1 ≤ 256 := by
      have h1 : (k + 1) * 1 ≤ (k + 1) * 2 ^ (lv + 1) := Nat.mul_le_mul_left _ (Nat.two_pow_pos _)
      omega
    have hna := fun (V : World) => node_ref seed hs lv (2 * k) (by omega) (by omega) V
    have hnb := fun (V : World) => node_ref seed hs lv (2 * k + 1) (by omega) (by omega) V
    have hjo := fun (V : World) => joined7_ref (node seed lv (2 * k)) (node seed lv (2 * k + 1)) (node_len _ _ _) (node_len _ _ _) V
    have hnd : node seed (lv + 1) k = jn (node seed lv (2 * k)) (node seed lv (2 * k + 1)) := rfl
    rw [hnd]
    have hF16 : (jn (node seed lv (2 * k)) (node seed lv (2 * k + 1))).length = 16 := jn_len _ _
    obtain ⟨F, hF⟩ : ∃ F, jn (node seed lv (2 * k)) (node seed lv (2 * k + 1)) = F := ⟨_, rfl⟩
    rw [hF] at hjo hF16 ⊢
    obtain ⟨NX, hNX⟩ : ∃ NX, node seed lv (2 * k) = NX := ⟨_, rfl⟩
    obtain ⟨NY, hNY⟩ : ∃ NY, node seed lv (2 * k + 1) = NY := ⟨_, rfl⟩
    rw [hNX] at hna hjo
    rw [hNY] at hnb hjo
    have w1 : IntKind.i64.wrap (((lv + 1 : Nat) : Int) - 1) = (lv : Int) := by rw [IntWalk.i64_in _ (by omega)]; omega
    have w2 : IntKind.i64.wrap (2 * (k : Int)) = ((2 * k : Nat) : Int) := by rw [IntWalk.i64_in _ (by omega)]; omega
    have w3 : IntKind.i64.wrap (((2 * k : Nat) : Int) + 1) = ((2 * k + 1 : Nat) : Int) := by rw [IntWalk.i64_in _ (by omega)]; omega
    have hne : (((lv + 1 : Nat) : Int) == 0) = false := by simp; omega
    obtain ⟨L1, hL1⟩ : ∃ L1 : Int, ((lv + 1 : Nat) : Int) = L1 := ⟨_, rfl⟩
    obtain ⟨L0, hL0⟩ : ∃ L0 : Int, (lv : Int) = L0 := ⟨_, rfl⟩
    obtain ⟨K0, hK0⟩ : ∃ K0 : Int, (k : Int) = K0 := ⟨_, rfl⟩
    obtain ⟨K2, hK2⟩ : ∃ K2 : Int, ((2 * k : Nat) : Int) = K2 := ⟨_, rfl⟩
    obtain ⟨K3, hK3⟩ : ∃ K3 : Int, ((2 * k + 1 : Nat) : Int) = K3 := ⟨_, rfl⟩
    rw [hL1] at w1 hne ⊢
    rw [hL0] at w1 hna hnb
    rw [hK0] at w2 ⊢
    rw [hK2] at w2 w3 hna
    rw [hK3] at w3 hnb
    have NA := Lib.hid hna
    have NB := Lib.hid hnb
    have JO := Lib.hid hjo
    have HSZ := Lib.hid (sz16 F hF16)
    have hso2 : (16 : Nat) = (bcells F).size := by rw [bcells_size, hF16]
    have HSO := Lib.hid hso2
    have his : (Tryd.prog.info? 23).map (·.size) = some (bvals seed).length := by rw [bvals_len, hs]; kernel_rfl
    have HIS := Lib.hid his
    have hu := Tryd.underlying23
    clear hp hkp hle1 hk255 hna hnb hjo hnd hF16 hF hNX hNY hL1 hL0 hK0 hK2 hK3 hso2 his hs hlv hk
    go_enter Tryd.func35, Tryd.ntmps35
    go_upto_region 1 with (fail)
    generalize hV : World.alloc (World.alloc w _) _ = V
    have hr0 : V.heap[w.heap.size]? = some (.cells (bcells seed) 23 (0, 0)) := by rw [← hV]; exact heap_alloc2_old _ _ _
    have HB0 : RowKit.Hid (Below w.heap.size w V) := Lib.hid (by rw [← hV]; exact (below_new _ _).alloc (by simp) _)
    have HR0 := Lib.hid hr0
    have HR1 : RowKit.Hid (V.heap[w.heap.size + 1]? = some (.cells (bcells (List.replicate 16 0)) 23 (0, 0))) := Lib.hid (by rw [← hV]; exact (heap_alloc2_new _ _ _).trans rfl)
    clear hV hr0
    go_wp2_with fail
    obtain ⟨U, hU⟩ : ∃ U, V.drew = U := ⟨_, rfl⟩
    have hS0 : V.drew.rangeAt w.heap.size 0 (bvals seed) := rangeAt_on (rangeAt_row0 HR0.out) (Below.refl _ _).drew
    refine wp_region_held_drew (S := fun z => z.rangeAt w.heap.size 0 (bvals seed)) (by kernel_rfl) hS0 (fun hHeld => ?_)
    rw [hU] at hHeld ⊢
    have hbU : Below V.heap.size V U := by rw [← hU]; exact (Below.refl _ _).drew
    have HBU := Lib.hid (chain HB0.out hbU)
    have HRA := Lib.hid (row_on HR0.out hbU)
    have HRC := Lib.hid (row_on HR1.out hbU)
    have mkS : ∀ z, Below U.heap.size U z → z.rangeAt w.heap.size 0 (bvals seed) := fun z hz => rangeAt_row0 (row_on HRA.out hz)
    clear hS0 hU hbU HB0 HR0 HR1
    refine wpAnyH_take (i := 0) (oi := { dst := Option.some 13, op := Go.Op.load 23 (Go.Operand.tmp 3), type := 23, pos := "ref.go:48", after := #[], guard := Option.none }) (v := .agg (bvals seed).toArray) rfl (by kernel_rfl) (by kernel_rfl) (by kernel_rfl) (fun _ _ _ h => h) (yieldsIf_load_mid (by rfl) _ _ rfl _ _ rfl (bvals seed) _ (fun w hSw => hSw) hu rfl HIS.out) hHeld ?_
    try simp only [Act.put, List.setIfInBounds_toArray, List.set_cons_zero, List.set_cons_succ]
    refine wpAnyH_take (i := 1) (oi := { dst := Option.some 14, op := Go.Op.move (Go.Operand.tmp 1), type := 3, pos := "ref.go:48", after := #[], guard := Option.none }) (v := ?_) rfl (by kernel_rfl) (by kernel_rfl) (by kernel_rfl) (fun _ _ _ h => h) (Or.inl ⟨by rfl, ?_⟩) hHeld ?_
    rotate_left
    · intro w hSw
      clear hSw
      go_simp
      try with_reducible rfl
    try simp only [Act.put, List.setIfInBounds_toArray, List.set_cons_zero, List.set_cons_succ]
    refine wpAnyH_take (i := 2) (oi := { dst := Option.some 15, op := Go.Op.binOp Go.BinOp.sub 3 (Go.Operand.tmp 14) (Go.Operand.const (Go.Value.int Go.IntKind.i64 1)) 3, type := 3, pos := "ref.go:48", after := #[{ on := 1, ground := Go.Ground.data }], guard := Option.none }) (v := ?_) rfl (by kernel_rfl) (by kernel_rfl) (by kernel_rfl) (fun _ _ _ h => h) (Or.inl ⟨by rfl, ?_⟩) hHeld ?_
    rotate_left
    · intro w hSw
      clear hSw
      go_simp
      try with_reducible rfl
    try simp only [Act.put, List.setIfInBounds_toArray, List.set_cons_zero, List.set_cons_succ]
    refine wpAnyH_take (i := 3) (oi := { dst := Option.some 16, op := Go.Op.move (Go.Operand.tmp 2), type := 3, pos := "ref.go:48", after := #[], guard := Option.none }) (v := ?_) rfl (by kernel_rfl) (by kernel_rfl) (by kernel_rfl) (fun _ _ _ h => h) (Or.inl ⟨by rfl, ?_⟩) hHeld ?_
    rotate_left
    · intro w hSw
      clear hSw
      go_simp
      try with_reducible rfl
    try simp only [Act.put, List.setIfInBounds_toArray, List.set_cons_zero, List.set_cons_succ]
    refine wpAnyH_take (i := 4) (oi := { dst := Option.some 17, op := Go.Op.binOp Go.BinOp.mul 3 (Go.Operand.const (Go.Value.int Go.IntKind.i64 2)) (Go.Operand.tmp 16) 3, type := 3, pos := "ref.go:48", after := #[{ on := 3, ground := Go.Ground.data }], guard := Option.none }) (v := ?_) rfl (by kernel_rfl) (by kernel_rfl) (by kernel_rfl) (fun _ _ _ h => h) (Or.inl ⟨by rfl, ?_⟩) hHeld ?_
    rotate_left
    · intro w hSw
      clear hSw
      go_simp
      try with_reducible rfl
    try simp only [Act.put, List.setIfInBounds_toArray, List.set_cons_zero, List.set_cons_succ]
    refine wpAnyH_take (i := 6) (oi := { dst := Option.some 19, op := Go.Op.load 23 (Go.Operand.tmp 3), type := 23, pos := "ref.go:48", after := #[], guard := Option.none }) (v := .agg (bvals seed).toArray) rfl (by kernel_rfl) (by kernel_rfl) (by kernel_rfl) (fun _ _ _ h => h) (yieldsIf_load_mid (by rfl) _ _ rfl _ _ rfl (bvals seed) _ (fun w hSw => hSw) hu rfl HIS.out) hHeld ?_
    try simp only [Act.put, List.setIfInBounds_toArray, List.set_cons_zero, List.set_cons_succ]
    refine wpAnyH_take (i := 7) (oi := { dst := Option.some 20, op := Go.Op.move (Go.Operand.tmp 1), type := 3, pos := "ref.go:48", after := #[], guard := Option.none }) (v := ?_) rfl (by kernel_rfl) (by kernel_rfl) (by kernel_rfl) (fun _ _ _ h => h) (Or.inl ⟨by rfl, ?_⟩) hHeld ?_
    rotate_left
    · intro w hSw
      clear hSw
      go_simp
      try with_reducible rfl
    try simp only [Act.put, List.setIfInBounds_toArray, List.set_cons_zero, List.set_cons_succ]
    refine wpAnyH_take (i := 8) (oi := { dst := Option.some 21, op := Go.Op.binOp Go.BinOp.sub 3 (Go.Operand.tmp 20) (Go.Operand.const (Go.Value.int Go.IntKind.i64 1)) 3, type := 3, pos := "ref.go:48", after := #[{ on := 7, ground := Go.Ground.data }], guard := Option.none }) (v := ?_) rfl (by kernel_rfl) (by kernel_rfl) (by kernel_rfl) (fun _ _ _ h => h) (Or.inl ⟨by rfl, ?_⟩) hHeld ?_
    rotate_left
    · intro w hSw
      clear hSw
      go_simp
      try with_reducible rfl
    try simp only [Act.put, List.setIfInBounds_toArray, List.set_cons_zero, List.set_cons_succ]
    refine wpAnyH_take (i := 9) (oi := { dst := Option.some 22, op := Go.Op.move (Go.Operand.tmp 2), type := 3, pos := "ref.go:48", after := #[], guard := Option.none }) (v := ?_) rfl (by kernel_rfl) (by kernel_rfl) (by kernel_rfl) (fun _ _ _ h => h) (Or.inl ⟨by rfl, ?_⟩) hHeld ?_
    rotate_left
    · intro w hSw
      clear hSw
      go_simp
      try with_reducible rfl
    try simp only [Act.put, List.setIfInBounds_toArray, List.set_cons_zero, List.set_cons_succ]
    refine wpAnyH_take (i := 10) (oi := { dst := Option.some 23, op := Go.Op.binOp Go.BinOp.mul 3 (Go.Operand.const (Go.Value.int Go.IntKind.i64 2)) (Go.Operand.tmp 22) 3, type := 3, pos := "ref.go:48", after := #[{ on := 9, ground := Go.Ground.data }], guard := Option.none }) (v := ?_) rfl (by kernel_rfl) (by kernel_rfl) (by kernel_rfl) (fun _ _ _ h => h) (Or.inl ⟨by rfl, ?_⟩) hHeld ?_
    rotate_left
    · intro w hSw
      clear hSw
      go_simp
      try with_reducible rfl
    try simp only [Act.put, List.setIfInBounds_toArray, List.set_cons_zero, List.set_cons_succ]
    refine wpAnyH_take (i := 11) (oi := { dst := Option.some 24, op := Go.Op.binOp Go.BinOp.add 3 (Go.Operand.tmp 23) (Go.Operand.const (Go.Value.int Go.IntKind.i64 1)) 3, type := 3, pos := "ref.go:48", after := #[{ on := 10, ground := Go.Ground.data }], guard := Option.none }) (v := ?_) rfl (by kernel_rfl) (by kernel_rfl) (by kernel_rfl) (fun _ _ _ h => h) (Or.inl ⟨by rfl, ?_⟩) hHeld ?_
    rotate_left
    · intro w hSw
      clear hSw
      go_simp
      try with_reducible rfl
    try simp only [Act.put, List.setIfInBounds_toArray, List.set_cons_zero, List.set_cons_succ]
    refine wpAnyH_ready (rs := [5]) (by kernel_rfl) (by simp) (AllReadyH.cons (o := { dst := Option.some 18, op := Go.Op.call { callee := Go.Callee.value (Go.Operand.func 35), args := #[Go.Operand.tmp 13, Go.Operand.tmp 15, Go.Operand.tmp 17], argTypes := #[23, 3, 3] }, type := 23, pos := "ref.go:48", after := #[{ on := 0, ground := Go.Ground.data }, { on := 2, ground := Go.Ground.data }, { on := 4, ground := Go.Ground.data }], guard := Option.none }) rfl (fun K hK => ?_) AllReadyH.nil)
    go_simp
    refine (NA.out _).mono ?_
    rintro e z1 ⟨rfl, hb1⟩
    go_simp
    refine hK.out _ _ (mkS _ hb1) (fun hHeld2 => ?_)
    clear hK K
    clear hHeld
    have hHeld := hHeld2
    clear hHeld2
    try simp only [Act.put, List.setIfInBounds_toArray, List.set_cons_zero, List.set_cons_succ]
    refine wpAnyH_ready (rs := [12]) (by kernel_rfl) (by simp) (AllReadyH.cons (o := { dst := Option.some 25, op := Go.Op.call { callee := Go.Callee.value (Go.Operand.func 35), args := #[Go.Operand.tmp 19, Go.Operand.tmp 21, Go.Operand.tmp 24], argTypes := #[23, 3, 3] }, type := 23, pos := "ref.go:48", after := #[{ on := 6, ground := Go.Ground.data }, { on := 8, ground := Go.Ground.data }, { on := 11, ground := Go.Ground.data }, { on := 5, ground := Go.Ground.chain }], guard := Option.none }) rfl (fun K hK => ?_) AllReadyH.nil)
    go_simp
    refine (NB.out _).mono ?_
    rintro e z2 ⟨rfl, hb2⟩
    have hb3 : Below U.heap.size U z2 := chain hb1 hb2
    go_simp
    refine hK.out _ _ (mkS _ hb3) (fun hHeld2 => ?_)
    clear hK K
    clear hHeld
    have hHeld := hHeld2
    clear hHeld2
    try simp only [Act.put, List.setIfInBounds_toArray, List.set_cons_zero, List.set_cons_succ]
    refine wpAnyH_ready (rs := [13]) (by kernel_rfl) (by simp) (AllReadyH.cons (o := { dst := Option.some 26, op := Go.Op.call { callee := Go.Callee.value (Go.Operand.func 41), args := #[Go.Operand.tmp 18, Go.Operand.tmp 25], argTypes := #[23, 23] }, type := 23, pos := "ref.go:48", after := #[{ on := 5, ground := Go.Ground.data }, { on := 12, ground := Go.Ground.data }, { on := 12, ground := Go.Ground.chain }], guard := Option.none }) rfl (fun K hK => ?_) AllReadyH.nil)
    go_simp
    refine (JO.out _).mono ?_
    rintro e z3 ⟨rfl, hb4⟩
    have hb5 : Below U.heap.size U z3 := chain hb3 hb4
    have HR3 := Lib.hid (row_on HRC.out hb5)
    go_simp
    refine hK.out _ _ (mkS _ hb5) (fun hHeld2 => ?_)
    clear hK K
    clear hHeld
    have hHeld := hHeld2
    clear hHeld2
    try simp only [Act.put, List.setIfInBounds_toArray, List.set_cons_zero, List.set_cons_succ]
    refine wpAnyH_ready (rs := [14]) (by kernel_rfl) (by simp) (AllReadyH.cons (o := { dst := Option.none, op := Go.Op.store 23 (Go.Operand.tmp 6) (Go.Operand.tmp 26), type := 0, pos := "ref.go:48", after := #[{ on := 13, ground := Go.Ground.data }, { on := 13, ground := Go.Ground.chain }, { on := 0, ground := Go.Ground.phase }, { on := 1, ground := Go.Ground.phase }, { on := 2, ground := Go.Ground.phase }, { on := 3, ground := Go.Ground.phase }, { on := 4, ground := Go.Ground.phase }, { on := 5, ground := Go.Ground.phase }, { on := 6, ground := Go.Ground.phase }, { on := 7, ground := Go.Ground.phase }, { on := 8, ground := Go.Ground.phase }, { on := 9, ground := Go.Ground.phase }, { on := 10, ground := Go.Ground.phase }, { on := 11, ground := Go.Ground.phase }, { on := 12, ground := Go.Ground.phase }, { on := 13, ground := Go.Ground.phase }], guard := Option.none }) rfl (fun K hK => ?_) AllReadyH.nil)
    try rw [if_pos (by rfl)]
    refine wp_store_mid 23 (.tmp 6) (.tmp 26) rfl (w.heap.size + 1) 0 (bcells F) rfl rfl (there_row HR3.out _ (by rw [← HSO.out, bcells_size]; exact Nat.le_refl _)) HSZ.out (bcells_one _) ?_
    have HR4 := Lib.hid (row_setCells HR3.out (cs := bcells F) (by rw [← HSO.out, bcells_size]; rfl))
    have HB4 := Lib.hid (below_setCells (bcells F).toList 0 _ (chain HBU.out hb5) (show w.heap.size ≤ w.heap.size + 1 by omega))
    refine hK.out _ _ (rangeAt_far hHeld _ _ (by omega)) (fun hHeld2 => ?_)
    clear hK K hHeld hHeld2
    try simp only [Act.put, List.setIfInBounds_toArray, List.set_cons_zero, List.set_cons_succ]
    refine wpAnyH_done (by kernel_rfl) ?_ _
    generalize World.setCells _ _ _ _ = z5 at HR4 HB4 ⊢
    clear hb1 hb2 hb3 hb4 hb5 mkS
    go_wp2_with fail
    refine bodyPost_ret (v := .agg (bcells F)) (results_cell_row rfl _ _ (w.heap.size + 1) 23 _ (0, 0) _ rfl HR4.out Tryd.underlying23 rfl HSZ.out) rfl ⟨rfl, HB4.out⟩
end Go.Proofs.YtafolokkjpbieaaDoor
namespace Go.Proofs.YtafolokkjpbieaaDoor
open Go.RowKit Sha Ots
set_option linter.unusedVariables false
set_option linter.unusedSimpArgs false
set_option maxRecDepth 100000 in
set_option maxHeartbeats 2000000 in
theorem key_ref_bad (seed : List UInt8) (h : Int) (hh : ¬ (0 ≤ h ∧ h ≤ 4)) (w : World) :
    Calls Tryd.prog 15 #[.agg (bcells seed), .int .i64 h] w fun e w' => e = .returned (.tuple #[.agg (pkc (List.replicate 16 0) 0), .int .i64 2]) ∧ Below w.heap.size w w' := by
  have hz16 : (List.replicate 16 (0 : UInt8)).length = 16 := rfl
  have hZ0 : pkc (List.replicate 16 (0 : UInt8)) 0 = #[.int .u8 0, .int .u8 0, .int .u8 0, .int .u8 0, .int .u8 0, .int .u8 0, .int .u8 0, .int .u8 0, .int .u8 0, .int .u8 0, .int .u8 0, .int .u8 0, .int .u8 0, .int .u8 0, .int .u8 0, .int .u8 0, .int .i64 0] := rfl
  have hs := sz17 _ 0 hz16
  have hs2 := pkc_size _ 0 hz16
  have ho := pkc_one (List.replicate 16 (0 : UInt8)) 0
  obtain ⟨Z, hZ⟩ : ∃ Z, pkc (List.replicate 16 (0 : UInt8)) 0 = Z := ⟨_, rfl⟩
  rw [hZ] at hs hs2 ho hZ0 ⊢
  have HSZ := Lib.hid hs
  have HZ0 := Lib.hid hZ0
  have HSO : RowKit.Hid ((17 : Nat) = Z.size) := Lib.hid hs2.symm
  have HO := Lib.hid ho
  clear hs hs2 ho hZ hZ0 hz16
  have hp : h < 0 ∨ (¬ h < 0 ∧ 4 < h) := by omega
  rcases hp with hp | ⟨hp, hp2⟩
  all_goals
    clear hh
    go_enter Tryd.func15, Tryd.ntmps15
    go_upto_region 1 with (fail)
    generalize hV : World.alloc (World.alloc w _) _ = V
    have HB1 : RowKit.Hid (Below w.heap.size w V) := Lib.hid (by rw [← hV]; exact (below_new _ _).alloc (by simp) _)
    have HR1 : RowKit.Hid (V.heap[w.heap.size + 1]? = some (.cells #[.int .u8 0, .int .u8 0, .int .u8 0, .int .u8 0, .int .u8 0, .int .u8 0, .int .u8 0, .int .u8 0, .int .u8 0, .int .u8 0, .int .u8 0, .int .u8 0, .int .u8 0, .int .u8 0, .int .u8 0, .int .u8 0, .int .i64 0] 25 (0, 0))) := Lib.hid (by rw [← hV]; exact (heap_alloc2_new _ _ _).trans rfl)
    clear hV
    go_wp2_with (refine wpList_store_row rfl 25 (.tmp 4) (.tmp 12) rfl (w.heap.size + 1) Z rfl (by rw [HZ0.out]; rfl) 25 _ HR1.out HSZ.out HSO.out HO.out ?_)
    refine bodyPost_ret (v := .tuple #[.agg Z, .int .i64 2]) (results_twoS rfl _ _ (w.heap.size + 1) 25 _ (0, 0) _ rfl rfl (setRow_heap _ _ _ _ _ _ HR1.out) Tryd.underlying25 HSZ.out) rfl ⟨rfl, ?_⟩
    exact below_row HB1.out (by omega) _
set_option maxRecDepth 100000 in
set_option maxHeartbeats 2000000 in
theorem key_ref_yes (seed : List UInt8) (hs : seed.length = 16) (h : Nat) (hh : h ≤ 4) (w : World) :
    Calls Tryd.prog 15 #[.agg (bcells seed), .int .i64 (h : Int)] w fun e w' => e = .returned (.tuple #[.agg (pkc (node seed h 0) (h : Int)), .int .i64 0]) ∧ Below w.heap.size w w' := by
  have h16 : 2 ^ h ≤ 16 := by
    have := Nat.pow_le_pow_right (show 0 < 2 by decide) hh
    simpa using this
  have hR16 : (node seed h 0).length = 16 := node_len _ _ _
  have hno : ∀ V : World, Calls Tryd.prog 35 #[.agg (bcells seed), .int .i64 (h : Int), .int .i64 0] V fun e w' => e = .returned (.agg (bvals (node seed h 0)).toArray) ∧ Below V.heap.size V w' := fun V => node_ref seed hs h 0 hh (by omega) V
  obtain ⟨R, hR⟩ : ∃ R, node seed h 0 = R := ⟨_, rfl⟩
  rw [hR] at hR16 hno ⊢
  have NO := Lib.hid hno
  have HSZ0 := Lib.hid (sz16 seed hs)
  have hr17 : (Tryd.prog.info? 25).map (·.size) = some (pkc R (h : Int)).size := sz17 R _ hR16
  have hp17 := pkc_size R (h : Int) hR16
  have hone := pkc_one R (h : Int)
  have HR16 := Lib.hid hR16
  have hbl : (bvals R).length = 16 := by rw [bvals_len, hR16]
  have hk0 : ¬ (h : Int) < 0 := by omega
  have hk5 : ¬ (4 : Int) < (h : Int) := by omega
  obtain ⟨hI, hHI⟩ : ∃ hI : Int, (h : Int) = hI := ⟨_, rfl⟩
  rw [hHI] at NO hr17 hp17 hone hk0 hk5 ⊢
  have HS17 := Lib.hid hr17
  have HSO : RowKit.Hid ((17 : Nat) = (pkc R hI).size) := Lib.hid hp17.symm
  have HO := Lib.hid hone
  have hfs := foldset_size (bvals R) 0 #[.int .u8 0, .int .u8 0, .int .u8 0, .int .u8 0, .int .u8 0, .int .u8 0, .int .u8 0, .int .u8 0, .int .u8 0, .int .u8 0, .int .u8 0, .int .u8 0, .int .u8 0, .int .u8 0, .int .u8 0, .int .u8 0, .int .i64 0]
  clear hno hR hR16 hr17 hp17 hone hHI hs hh h16
  go_enter Tryd.func15, Tryd.ntmps15
  go_upto_region 1 with (fail)
  generalize hV : World.alloc (World.alloc w _) _ = V
  have HB1 : RowKit.Hid (Below w.heap.size w V) := Lib.hid (by rw [← hV]; exact (below_new _ _).alloc (by simp) _)
  have HR0 : RowKit.Hid (V.heap[w.heap.size]? = some (.cells (bcells seed) 23 (0, 0))) := Lib.hid (by rw [← hV]; exact heap_alloc2_old _ _ _)
  have HR1 : RowKit.Hid (V.heap[w.heap.size + 1]? = some (.cells #[.int .u8 0, .int .u8 0, .int .u8 0, .int .u8 0, .int .u8 0, .int .u8 0, .int .u8 0, .int .u8 0, .int .u8 0, .int .u8 0, .int .u8 0, .int .u8 0, .int .u8 0, .int .u8 0, .int .u8 0, .int .u8 0, .int .i64 0] 25 (0, 0))) := Lib.hid (by rw [← hV]; exact (heap_alloc2_new _ _ _).trans rfl)
  clear hV
  go_wp2_with (refine wpList_load_row rfl 23 (.tmp 2) rfl w.heap.size rfl 23 (bcells seed) (0, 0) _ HR0.out Tryd.underlying23 rfl HSZ0.out ?_)
  refine (NO.out _).mono ?_
  rintro e w2 ⟨rfl, hb2⟩
  have HR := Lib.hid (row_on HR1.out hb2)
  have HB := Lib.hid (chain HB1.out hb2)
  clear hb2 HR0 HR1 HB1
  go_wp2_with (refine wpList_store_row rfl 25 (.tmp 4) (.tmp 17) rfl (w.heap.size + 1) (pkc R hI) rfl (congrArg Value.agg (build17 R HR16.out hI)) 25 _ HR.out HS17.out HSO.out HO.out ?_)
  refine bodyPost_ret (v := .tuple #[.agg (pkc R hI), .int .i64 0]) (results_twoS rfl _ _ (w.heap.size + 1) 25 _ (0, 0) _ rfl rfl (setRow_heap _ _ _ _ _ _ HR.out) Tryd.underlying25 HS17.out) rfl ⟨rfl, ?_⟩
  exact below_row HB.out (by omega) _
set_option maxRecDepth 100000 in
set_option maxHeartbeats 4000000 in
theorem sign_ref_bad (seed : List UInt8) (h n : Int) (M : Value) (hh : ¬ (0 ≤ h ∧ h ≤ 4 ∧ 0 ≤ n ∧ n < ((2 ^ h.toNat : Nat) : Int))) (w : World) :
    Calls Tryd.prog 16 #[.agg (bcells seed), .int .i64 h, .int .i64 n, M] w fun e w' => e = .returned (.tuple #[.agg #[.int .i64 0, .slice none 0 0, .slice none 0 0], .int .i64 2]) ∧ Below w.heap.size w w' := by
  by_cases hc : 0 ≤ h ∧ h ≤ 4 ∧ 0 ≤ n
  · obtain ⟨k, rfl⟩ : ∃ k : Nat, h = (k : Int) := ⟨h.toNat, by omega⟩
    have hk4 : k ≤ 4 := by omega
    have hn0 : ¬ n < 0 := by omega
    have hnp : ((2 ^ k : Nat) : Int) ≤ n := by
      have h1 : ¬ n < ((2 ^ k : Nat) : Int) := fun h => hh ⟨hc.1, hc.2.1, hc.2.2, h⟩
      omega
    have PW := Lib.hid (fun (V : World) => power_ref k hk4 V)
    have hk0 : ¬ (k : Int) < 0 := by omega
    have hk5 : ¬ (4 : Int) < (k : Int) := by omega
    obtain ⟨p, hp⟩ : ∃ p : Int, ((2 ^ k : Nat) : Int) = p := ⟨_, rfl⟩
    obtain ⟨ki, hki⟩ : ∃ ki : Int, (k : Int) = ki := ⟨_, rfl⟩
    rw [hp] at hnp PW
    rw [hki] at PW hk0 hk5 ⊢
    clear hh hc hk4 hp hki
    go_enter Tryd.func16, Tryd.ntmps16
    go_wp2_with fail
    refine (PW.out _).mono ?_
    rintro e w1 ⟨rfl, hb1⟩
    have HR2 := Lib.hid ((hb1.block (w.heap.size + 1) (by simp)).trans (heap_alloc2_new _ _ _))
    have HB2 := Lib.hid (chain ((below_new w _).trans ((below_new _ _).mono (by simp))) hb1)
    clear hb1
    have hlt2 := (Array.getElem?_eq_some_iff.1 HR2.out).1
    obtain ⟨⟨hf0, hf1, hf2⟩, hc0, hc1, hc2⟩ := facts3 HR2.out
    go_wp2_with fail
    refine bodyPost_ret (v := .tuple #[.agg #[.int .i64 0, .slice none 0 0, .slice none 0 0], .int .i64 2]) (results_twoS rfl _ _ (w.heap.size + 1) 31 _ (0, 0) _ rfl rfl (put3 HR2.out _ _ _) Tryd.underlying31 (sz3 _ _ _)) rfl ⟨rfl, ?_⟩
    exact below_put3 HB2.out (by omega) _ _ _
  · have hp : h < 0 ∨ (¬ h < 0 ∧ 4 < h) ∨ (¬ h < 0 ∧ ¬ 4 < h ∧ n < 0) := by omega
    rcases hp with hp | ⟨hp, hp2⟩ | ⟨hp, hp2, hp3⟩
    all_goals
      clear hh hc
      go_enter Tryd.func16, Tryd.ntmps16
      go_upto_region 1 with (fail)
      generalize hV : World.alloc (World.alloc w _) _ = V
      have HB2 : RowKit.Hid (Below w.heap.size w V) := Lib.hid (by rw [← hV]; exact (below_new _ _).alloc (by simp) _)
      have HR2 : RowKit.Hid (V.heap[w.heap.size + 1]? = some (.cells #[.int .i64 0, .slice none 0 0, .slice none 0 0] 31 (0, 0))) := Lib.hid (by rw [← hV]; exact (heap_alloc2_new _ _ _).trans rfl)
      clear hV
      have hlt2 := (Array.getElem?_eq_some_iff.1 HR2.out).1
      obtain ⟨⟨hf0, hf1, hf2⟩, hc0, hc1, hc2⟩ := facts3 HR2.out
      go_wp2_with fail
      refine bodyPost_ret (v := .tuple #[.agg #[.int .i64 0, .slice none 0 0, .slice none 0 0], .int .i64 2]) (results_twoS rfl _ _ (w.heap.size + 1) 31 _ (0, 0) _ rfl rfl (put3 HR2.out _ _ _) Tryd.underlying31 (sz3 _ _ _)) rfl ⟨rfl, ?_⟩
      exact below_put3 HB2.out (by omega) _ _ _
theorem own_sliceS7 {w : World} {b n : Nat} {v : Value} {xs : List Value} (h : w.ownsRow b 23 16 v n xs) : ∃ A cap, v = .slice A n cap := by
  obtain ⟨h1, ⟨rfl, rfl⟩ | ⟨g, cap, cur, rfl, h3, h4, _⟩⟩ := h
  · exact ⟨none, 0, rfl⟩
  · exact ⟨_, cap, rfl⟩
theorem shorts_put3z {V : World} {A : Option Addr} {ls : List (List UInt8)} {G : Nat} {T : TypeId} {fr : Nat × Nat} (h : Shorts A ls V) (hr : V.heap[G]? = some (.cells #[.int .i64 0, .slice none 0 0, .slice none 0 0] T fr)) (a b c : Value) : Shorts A ls (((V.setCell ⟨G, 0, none⟩ a).setCell ⟨G, 1, none⟩ b).setCell ⟨G, 2, none⟩ c) := by
  cases ls with
  | nil => exact ⟨fun i l hi => by simp at hi, fun l hl => by simp at hl⟩
  | cons l r =>
    refine shorts_put3 h (fun X o e hX => ?_) _ _ _
    subst hX
    obtain ⟨g, o2, e2, hrg⟩ := h.row 0 l rfl
    rw [e] at e2
    obtain ⟨rfl, rfl⟩ : X = g ∧ o = o2 := by
      have h3 := Option.some.inj e2
      exact ⟨congrArg Addr.block h3, congrArg Addr.off h3⟩
    have hl := h.len l (by simp)
    cases l with
    | nil => cases hl
    | cons x y =>
      have h1 := hrg 0 (.int .u8 (x.toNat : Int)) rfl
      rw [cell_of_row _ _ _ _ _ _ hr] at h1
      have ho : o = 0 ∨ o = 1 ∨ o = 2 ∨ 3 ≤ o := by omega
      rcases ho with rfl | rfl | rfl | ho
      · simp at h1
      · simp at h1
      · simp at h1
      · rw [Array.getElem?_eq_none (by simp; omega)] at h1
        cases h1
/-- a signature in the making: its path so far -/
structure SX (W3 : World) (nI : Int) (CV : Value) (PA : Option Addr) (pc k : Nat) (F : List UInt8) (V : World) : Prop where
  bs : Below W3.heap.size W3 V
  rg : V.heap[W3.heap.size]? = some (.cells #[.int .i64 nI, CV, .slice PA k pc] 31 (0, 0))
  own : V.ownsRow (W3.heap.size + 1) 23 16 (.slice PA k pc) k (bvals F)
theorem SX.on {W3 V U : World} {nI : Int} {CV : Value} {PA : Option Addr} {pc k : Nat} {F : List UInt8} (h : SX W3 nI CV PA pc k F V) (hb : Below V.heap.size V U) : SX W3 nI CV PA pc k F U :=
  ⟨chain h.bs hb, row_on h.rg hb, own_onS h.own hb⟩
def SignPost (n : Int) (h : Nat) (SG PT : List (List UInt8)) (w : World) (e : Ending) (w' : World) : Prop := ∃ B cb PA pc, e = .returned (.tuple #[.agg #[.int .i64 n, .slice B 35 cb, .slice PA h pc], .int .i64 0]) ∧ Shorts B SG w' ∧ Shorts PA PT w' ∧ Below w.heap.size w w'
set_option maxRecDepth 100000 in
set_option maxHeartbeats 4000000 in
theorem sign_ref_yes (seed : List UInt8) (hs : seed.length = 16) (h n : Nat) (hh : h ≤ 4) (hn : n < 2 ^ h) (l : List UInt8) (A : Option Addr) (c : Nat) (hl : l.length ≤ 100000) (hc : l.length ≤ c) (hA : A = none → c = 0) (w : World) (hsrc : SrcAt A l w) :
    Calls Tryd.prog 16 #[.agg (bcells seed), .int .i64 (h : Int), .int .i64 (n : Int), .slice A l.length c] w (SignPost (n : Int) h (sgn (msd seed n) l) (pth seed 0 n h) w) := by
  have hn16 : n < 16 := by
    have := Nat.pow_le_pow_right (show 0 < 2 by decide) hh
    have h16 : 2 ^ 4 = 16 := rfl
    omega
  have PW := Lib.hid (fun (V : World) => power_ref h hh V)
  have hnp : ¬ ((2 ^ h : Nat) : Int) ≤ (n : Int) := by omega
  have hso := fun (V : World) => seed7_ref seed hs n (by omega) V
  have hsi := fun (V : World) (hb : Below w.heap.size w V) => sign_ref (msd seed n) (msd_len seed n) l A c hl hc hA V (hsrc.on hb)
  obtain ⟨D, hD⟩ : ∃ D : Nat → Nat, ∀ k, D k = n / 2 ^ k := ⟨_, fun _ => rfl⟩
  have hD0 : D 0 = n := by rw [hD, Nat.pow_zero, Nat.div_one]
  have hDl : ∀ k, D k ≤ 15 := fun k => by rw [hD]; have := Nat.div_le_self n (2 ^ k); omega
  have hDs : ∀ k, (D k : Int) / 2 = (D (k + 1) : Int) := fun k => by
    have e2 : D k / 2 = D (k + 1) := by rw [hD, hD, Nat.pow_succ, Nat.div_div_eq_div_mul]
    rw [← e2]
    omega
  have hno : ∀ (k : Nat), k < h → ∀ (j : Int), j = ((sib (D k) : Nat) : Int) → ∀ V : World, Calls Tryd.prog 35 #[.agg (bvals seed).toArray, .int .i64 (k : Int), .int .i64 j] V fun e w' => e = .returned (.agg (bcells (node seed k (sib (D k))))) ∧ Below V.heap.size V w' := fun k hk j hj V => by
    subst hj
    refine node_ref seed hs k (sib (D k)) (by omega) ?_ V
    have h1 : sib (D k) + 1 ≤ 17 := by have := hDl k; unfold sib; split <;> omega
    have h2 : 2 ^ k ≤ 8 := by
      have := Nat.pow_le_pow_right (show 0 < 2 by decide) (show k ≤ 3 by omega)
      simpa using this
    have h3 := Nat.mul_le_mul h1 h2
    omega
  have hpf : ∀ k, (pth seed 0 n (k + 1)).flatten = (pth seed 0 n k).flatten ++ node seed k (sib (D k)) := fun k => by
    rw [pth_snoc, flatten_snoc, Nat.zero_add, hD]
  have hpm : ∀ p ∈ pth seed 0 n h, p.length = 16 := pth_mem seed h 0 n
  have hpl : (pth seed 0 n h).length = h := pth_length seed h 0 n
  have hnl : ∀ k, (node seed k (sib (D k))).length = 16 := fun k => node_len seed _ _
  have hp0 : (pth seed 0 n 0).flatten = [] := rfl
  obtain ⟨PTH, hPTH⟩ : ∃ PTH, pth seed 0 n = PTH := ⟨_, rfl⟩
  rw [hPTH] at hpf hpm hpl hp0 ⊢
  obtain ⟨ND, hND⟩ : ∃ ND : Nat → List UInt8, ∀ k, node seed k (sib (D k)) = ND k := ⟨_, fun _ => rfl⟩
  simp only [hND] at hno hpf hnl
  obtain ⟨PF, hPF⟩ : ∃ PF : Nat → List UInt8, ∀ k, (PTH k).flatten = PF k := ⟨_, fun _ => rfl⟩
  simp only [hPF] at hpf hp0
  obtain ⟨SG, hSG⟩ : ∃ SG, sgn (msd seed n) l = SG := ⟨_, rfl⟩
  rw [hSG] at hsi ⊢
  have hm16 := msd_len seed n
  obtain ⟨MS, hMS⟩ : ∃ MS, msd seed n = MS := ⟨_, rfl⟩
  rw [hMS] at hso hsi hm16
  have hse : ∀ k, (D k % 2 = 0 → (D k : Int) + 1 = ((sib (D k) : Nat) : Int)) ∧ (¬ D k % 2 = 0 → (D k : Int) - 1 = ((sib (D k) : Nat) : Int)) := fun k => by
    unfold sib
    constructor
    · intro h
      rw [if_neg (by omega)]
      omega
    · intro h
      rw [if_pos (by omega)]
      omega
  have hk0 : ¬ (h : Int) < 0 := by omega
  have hk5 : ¬ (4 : Int) < (h : Int) := by omega
  have hn0 : ¬ (n : Int) < 0 := by omega
  obtain ⟨p, hp⟩ : ∃ p : Int, ((2 ^ h : Nat) : Int) = p := ⟨_, rfl⟩
  rw [hp] at hnp PW
  obtain ⟨nI, hNI⟩ : ∃ nI : Int, (n : Int) = nI := ⟨_, rfl⟩
  rw [hNI] at hnp hso hn0 ⊢
  have HNI := Lib.hid hNI
  obtain ⟨m, hm⟩ : ∃ m, l.length = m := ⟨_, rfl⟩
  rw [hm] at hsi ⊢
  have SO := Lib.hid hso
  have SI := Lib.hid hsi
  have NOA := Lib.hid hno
  have HPF := Lib.hid hpf
  have HPFE := Lib.hid hPF
  have HPM := Lib.hid hpm
  have HPL := Lib.hid hpl
  have HNL := Lib.hid hnl
  have HP0 := Lib.hid hp0
  have HSE := Lib.hid hse
  have HD0 := Lib.hid hD0
  have HDS := Lib.hid hDs
  have HDL := Lib.hid hDl
  have HSZ0 := Lib.hid (sz16 seed hs)
  have HH := Lib.hid hh
  have his : (Tryd.prog.info? 23).map (·.size) = some (bvals seed).length := by rw [bvals_len, hs]; kernel_rfl
  have HIS := Lib.hid his
  have hSZM := Lib.hid (sz16 MS hm16)
  clear hso hsi hno hpf hPF hpm hpl hnl hp0 hse hD hD0 hDs hDl hPTH hND hSG hm16 hMS hp hNI hm his hn16 hs hn hl hc hA hsrc hh
  go_enter Tryd.func16, Tryd.ntmps16
  go_wp2_with fail
  refine (PW.out _).mono ?_
  rintro e w1 ⟨rfl, hb1⟩
  have HR0 := Lib.hid ((hb1.block w.heap.size (by simp; omega)).trans (heap_alloc2_old _ _ _))
  have HR1 := Lib.hid ((hb1.block (w.heap.size + 1) (by simp)).trans (heap_alloc2_new _ _ _))
  have HB1 := Lib.hid (chain ((below_new w _).trans ((below_new _ _).mono (by simp))) hb1)
  clear hb1
  go_wp2_with (refine wpList_load_row rfl 23 (.tmp 4) rfl w.heap.size rfl 23 (bcells seed) (0, 0) _ HR0.out Tryd.underlying23 rfl HSZ0.out ?_)
  refine (SO.out _).mono ?_
  rintro e w2 ⟨rfl, hb2⟩
  have HR02 := Lib.hid (row_on HR0.out hb2)
  have HR12 := Lib.hid (row_on HR1.out hb2)
  have HB2 := Lib.hid (chain HB1.out hb2)
  clear hb2 HR0 HR1 HB1
  go_wp2_with fail
  refine (SI.out _ HB2.out).mono ?_
  rintro e W3 ⟨B, cb, rfl, hsg, hb3⟩
  have HR03 := Lib.hid (row_on HR02.out hb3)
  have HR13 := Lib.hid (row_on HR12.out hb3)
  have HB3 := Lib.hid (chain HB2.out hb3)
  have HSG := Lib.hid hsg
  clear hb3 hsg HR02 HR12 HB2
  go_upto_region 4 with (fail)
  generalize hV : World.alloc W3 _ = V
  have HSX0 : RowKit.Hid (SX W3 nI (.slice B 35 cb) none 0 0 (PF 0) V) := Lib.hid ⟨by rw [← hV]; exact below_new _ _, by rw [← hV]; exact heap_alloc_new _ _, by rw [HP0.out]; exact ⟨rfl, Or.inl ⟨rfl, rfl⟩⟩⟩
  clear hV
  obtain ⟨CV, hCV⟩ : ∃ CV, Value.slice B 35 cb = CV := ⟨_, rfl⟩
  rw [hCV] at HSX0
  have HCV := Lib.hid hCV
  clear hCV
  go_wp2_with fail
  go_loopw [11, 12, 13] (fun nn ix _ wr => ∃ (k : Nat) (PA0 : Option Addr) (pc0 : Nat), k ≤ h ∧ ix = .int .i64 (k : Int) ∧ nn = .int .i64 (D k : Int) ∧ RowKit.Hid (SX W3 nI CV PA0 pc0 k (PF k) wr)) (fun _ ix _ _ => h - (intOf ix).toNat)
  case atStart => exact ⟨0, none, 0, by omega, rfl, by rw [HD0.out, HNI.out], HSX0⟩
  case round =>
    clear HSX0
    obtain ⟨k, PA0, pc0, hk, rfl, rfl, HSX⟩ := hrel
    by_cases hlt : k < h
    · have hki : (k : Int) < (h : Int) := by omega
      have hh4 := HH.out
      have hdl := HDL.out k
      have HDK := Lib.hid (HDS.out k)
      have hseq := HSE.out k
      have hnoa := NOA.out k hlt
      have HLT := Lib.hid hlt
      have hc16 := HNL.out k
      have hpfk := HPF.out k
      obtain ⟨C, hC⟩ : ∃ C, ND k = C := ⟨_, rfl⟩
      rw [hC] at hnoa hc16 hpfk
      have HC16 := Lib.hid hc16
      have HPF := Lib.hid hpfk
      obtain ⟨dk, hdk⟩ : ∃ dk, D k = dk := ⟨_, rfl⟩
      rw [hdk] at hdl hseq hnoa HDK ⊢
      by_cases he : dk % 2 = 0
      · have hi : (dk : Int) % 2 = 0 := by omega
        have hno1 := hnoa _ (hseq.1 he)
        have NO := Lib.hid hno1
        clear hno1 hnoa hseq hc16 hpfk hC hdk he hlt
        go_wp2_with fail
        obtain ⟨U, hU⟩ : ∃ U, wr.drew = U := ⟨_, rfl⟩
        have hbU : Below wr.heap.size wr U := by rw [← hU]; exact (Below.refl _ _).drew
        have HSU := Lib.hid (HSX.out.on hbU)
        have mkS : ∀ z, Below W3.heap.size W3 z → z.rangeAt w.heap.size 0 (bvals seed) := fun z hz => rangeAt_row0 (row_on HR03.out hz)
        have hS0 : wr.drew.rangeAt w.heap.size 0 (bvals seed) := by rw [hU]; exact mkS _ HSU.out.bs
        clear hbU HSX
        refine wp_region_held_drew (S := fun z => z.rangeAt w.heap.size 0 (bvals seed)) (by kernel_rfl) hS0 (fun hHeld => ?_)
        rw [hU] at hHeld ⊢
        clear hS0 hU
        refine wpAnyH_take (i := 0) (oi := { dst := Option.some 51, op := Go.Op.fieldAddr 31 (Go.Operand.tmp 10) 2, type := 0, pos := "ref.go:71", after := #[], guard := Option.none }) (v := ?_) rfl (by kernel_rfl) (by kernel_rfl) (by kernel_rfl) (fun _ _ _ h => h) (Or.inl ⟨by rfl, ?_⟩) hHeld ?_
        rotate_left
        · intro w hSw
          clear hSw
          go_simp
          try with_reducible rfl
        try simp only [Act.put, List.setIfInBounds_toArray, List.set_cons_zero, List.set_cons_succ]
        refine wpAnyH_take (i := 2) (oi := { dst := Option.some 53, op := Go.Op.load 23 (Go.Operand.tmp 4), type := 23, pos := "ref.go:71", after := #[], guard := Option.none }) (v := .agg (bvals seed).toArray) rfl (by kernel_rfl) (by kernel_rfl) (by kernel_rfl) (fun _ _ _ h => h) (yieldsIf_load_mid (by rfl) _ _ rfl _ _ rfl (bvals seed) _ (fun w hSw => hSw) Tryd.underlying23 rfl HIS.out) hHeld ?_
        try simp only [Act.put, List.setIfInBounds_toArray, List.set_cons_zero, List.set_cons_succ]
        refine wpAnyH_take (i := 3) (oi := { dst := Option.some 54, op := Go.Op.move (Go.Operand.tmp 12), type := 3, pos := "ref.go:71", after := #[], guard := Option.none }) (v := ?_) rfl (by kernel_rfl) (by kernel_rfl) (by kernel_rfl) (fun _ _ _ h => h) (Or.inl ⟨by rfl, ?_⟩) hHeld ?_
        rotate_left
        · intro w hSw
          clear hSw
          go_simp
          try with_reducible rfl
        try simp only [Act.put, List.setIfInBounds_toArray, List.set_cons_zero, List.set_cons_succ]
        refine wpAnyH_take (i := 4) (oi := { dst := Option.some 55, op := Go.Op.move (Go.Operand.tmp 13), type := 3, pos := "ref.go:71", after := #[], guard := Option.none }) (v := ?_) rfl (by kernel_rfl) (by kernel_rfl) (by kernel_rfl) (fun _ _ _ h => h) (Or.inl ⟨by rfl, ?_⟩) hHeld ?_
        rotate_left
        · intro w hSw
          clear hSw
          go_simp
          try with_reducible rfl
        try simp only [Act.put, List.setIfInBounds_toArray, List.set_cons_zero, List.set_cons_succ]
        refine wpAnyH_ready (rs := [1, 5]) (by kernel_rfl) (by simp) (AllReadyH.cons (o := { dst := Option.some 52, op := Go.Op.load 29 (Go.Operand.tmp 51), type := 29, pos := "ref.go:71", after := #[{ on := 0, ground := Go.Ground.data }], guard := Option.none }) rfl (fun K hK => ?_) (AllReadyH.cons (o := { dst := Option.some 56, op := Go.Op.call { callee := Go.Callee.value (Go.Operand.func 35), args := #[Go.Operand.tmp 53, Go.Operand.tmp 54, Go.Operand.tmp 55], argTypes := #[23, 3, 3] }, type := 23, pos := "ref.go:71", after := #[{ on := 2, ground := Go.Ground.data }, { on := 3, ground := Go.Ground.data }, { on := 4, ground := Go.Ground.data }], guard := Option.none }) rfl (fun K hK => ?_) AllReadyH.nil))
        · have hq2 := (facts3 (row_on HSU.out.rg (Below.refl _ _))).2.2.2
          go_simp
          clear hq2
          refine hK.out _ _ (mkS _ (chain HSU.out.bs (Below.refl _ _))) (fun hHeld2 => ?_)
          clear hK K hHeld
          have hHeld := hHeld2
          clear hHeld2
          try simp only [Act.put, List.setIfInBounds_toArray, List.set_cons_zero, List.set_cons_succ]
          refine wpAnyH_ready (rs := [5]) (by kernel_rfl) (by simp) (AllReadyH.cons (o := { dst := Option.some 56, op := Go.Op.call { callee := Go.Callee.value (Go.Operand.func 35), args := #[Go.Operand.tmp 53, Go.Operand.tmp 54, Go.Operand.tmp 55], argTypes := #[23, 3, 3] }, type := 23, pos := "ref.go:71", after := #[{ on := 2, ground := Go.Ground.data }, { on := 3, ground := Go.Ground.data }, { on := 4, ground := Go.Ground.data }], guard := Option.none }) rfl (fun K hK => ?_) AllReadyH.nil)
          go_simp
          refine (NO.out _).mono ?_
          rintro e z5 ⟨rfl, hz5⟩
          have b5 : Below U.heap.size U z5 := hz5
          clear hz5
          go_simp
          refine hK.out _ _ (mkS _ (chain HSU.out.bs b5)) (fun hHeld2 => ?_)
          clear hK K hHeld
          have hHeld := hHeld2
          clear hHeld2
          try simp only [Act.put, List.setIfInBounds_toArray, List.set_cons_zero, List.set_cons_succ]
          refine wpAnyH_ready (rs := [6]) (by kernel_rfl) (by simp) (AllReadyH.cons (o := { dst := Option.some 57, op := Go.Op.buildSlice 29 1 #[(0, Go.Operand.tmp 56)], type := 29, pos := "ref.go:71", after := #[{ on := 5, ground := Go.Ground.data }], guard := Option.none }) rfl (fun K hK => ?_) AllReadyH.nil)
          have hbs : (bcells C).size = 16 := by rw [bcells_size, HC16.out]
          go_simp
          clear hbs
          generalize hq : World.alloc z5 _ = z6
          have r6 : z6.heap[z5.heap.size]? = some (.cells (bcells C) 23 (0, 0)) := by rw [← hq]; exact fill_short C HC16.out z5
          have b6 : Below U.heap.size U z6 := b5.trans ((show Below z5.heap.size z5 z6 by rw [← hq]; exact below_new _ _).mono b5.size)
          clear hq
          refine hK.out _ _ (mkS _ (chain HSU.out.bs b6)) (fun hHeld2 => ?_)
          clear hK K hHeld
          have hHeld := hHeld2
          clear hHeld2
          try simp only [Act.put, List.setIfInBounds_toArray, List.set_cons_zero, List.set_cons_succ]
          refine wpAnyH_ready (rs := [7]) (by kernel_rfl) (by simp) (AllReadyH.cons (o := { dst := Option.some 58, op := Go.Op.call { callee := Go.Callee.builtin Go.Builtin.append, args := #[Go.Operand.tmp 52, Go.Operand.tmp 57], argTypes := #[29, 29] }, type := 29, pos := "ref.go:71", after := #[{ on := 1, ground := Go.Ground.data }, { on := 6, ground := Go.Ground.data }, { on := 5, ground := Go.Ground.chain }], guard := Option.none }) rfl (fun K hK => ?_) AllReadyH.nil)
          try rw [if_pos (by rfl)]
          refine wp_append_shorts (.tmp 52) (.tmp 57) rfl (W3.heap.size + 1) _ _ _ rfl (own_onS HSU.out.own b6) ⟨z5.heap.size, 0, none⟩ 1 1 C rfl (by rw [HC16.out]) (row_bvals r6) (by omega) (by have h1 := (Array.getElem?_eq_some_iff.1 HSU.out.rg).1; have h2 := b6.size; omega) ?_
          intro v7 z7 o7 g7
          obtain ⟨A7, c7, rfl⟩ := own_sliceS7 o7
          have lt7 := HSU.out.own.lt
          have bs7 : Below W3.heap.size W3 z7 := (chain HSU.out.bs b6).grown g7 (chain HSU.out.bs b6).size (fun j hj => by have := (lt7 j hj).1; omega)
          have rg7 : z7.heap[W3.heap.size]? = some (.cells #[.int .i64 nI, CV, .slice PA0 k pc0] 31 (0, 0)) := (g7.block _ (Array.getElem?_eq_some_iff.1 (row_on HSU.out.rg b6)).1 (fun e => by have := (lt7 _ e.symm).1; omega)).trans (row_on HSU.out.rg b6)
          have HS7 : RowKit.Hid (SX W3 nI CV A7 c7 (k + 1) (PF (k + 1)) (z7.setCell ⟨W3.heap.size, 2, none⟩ (.slice A7 (k + 1) c7))) := Lib.hid ⟨bs7.setCell (Nat.le_refl _) _, heap_setCell_same _ _ _ _ _ _ rg7, ownsRow_setCell_other (a := ⟨W3.heap.size, 2, none⟩) (by rw [HPF.out, bvals_app]; exact o7) (fun e => by have h1 := (o7.lt _ e).1; simp at h1; omega) _⟩
          have RG7 := Lib.hid rg7
          clear g7 o7 lt7 rg7
          refine hK.out _ _ (mkS _ (bs7)) (fun hHeld2 => ?_)
          clear hK K hHeld
          have hHeld := hHeld2
          clear hHeld2
          try simp only [Act.put, List.setIfInBounds_toArray, List.set_cons_zero, List.set_cons_succ]
          refine wpAnyH_take (i := 8) (oi := { dst := Option.some 59, op := Go.Op.fieldAddr 31 (Go.Operand.tmp 10) 2, type := 0, pos := "ref.go:71", after := #[{ on := 0, ground := Go.Ground.phase }, { on := 1, ground := Go.Ground.phase }, { on := 2, ground := Go.Ground.phase }, { on := 3, ground := Go.Ground.phase }, { on := 4, ground := Go.Ground.phase }, { on := 5, ground := Go.Ground.phase }, { on := 6, ground := Go.Ground.phase }, { on := 7, ground := Go.Ground.phase }], guard := Option.none }) (v := ?_) rfl (by kernel_rfl) (by kernel_rfl) (by kernel_rfl) (fun _ _ _ h => h) (Or.inl ⟨by rfl, ?_⟩) hHeld ?_
          rotate_left
          · intro w hSw
            clear hSw
            go_simp
            try with_reducible rfl
          try simp only [Act.put, List.setIfInBounds_toArray, List.set_cons_zero, List.set_cons_succ]
          refine wpAnyH_ready (rs := [9]) (by kernel_rfl) (by simp) (AllReadyH.cons (o := { dst := Option.none, op := Go.Op.store 29 (Go.Operand.tmp 59) (Go.Operand.tmp 58), type := 0, pos := "ref.go:71", after := #[{ on := 8, ground := Go.Ground.data }, { on := 7, ground := Go.Ground.data }, { on := 7, ground := Go.Ground.chain }, { on := 0, ground := Go.Ground.phase }, { on := 1, ground := Go.Ground.phase }, { on := 2, ground := Go.Ground.phase }, { on := 3, ground := Go.Ground.phase }, { on := 4, ground := Go.Ground.phase }, { on := 5, ground := Go.Ground.phase }, { on := 6, ground := Go.Ground.phase }, { on := 7, ground := Go.Ground.phase }], guard := Option.none }) rfl (fun K hK => ?_) AllReadyH.nil)
          obtain ⟨⟨_, _, hf7⟩, _, _, hc7⟩ := facts3 RG7.out
          have hl7 := (Array.getElem?_eq_some_iff.1 RG7.out).1
          go_simp
          clear hf7 hc7 hl7
          have HS9 := HS7
          refine hK.out _ _ (mkS _ HS7.out.bs) (fun hHeld2 => ?_)
          clear hK K hHeld hHeld2
          try simp only [Act.put, List.setIfInBounds_toArray, List.set_cons_zero, List.set_cons_succ]
          refine wpAnyH_done (by kernel_rfl) ?_ _
          generalize World.setCell _ _ _ = z9 at HS9 ⊢
          clear mkS
          go_wp2_with fail
          exact ⟨⟨k + 1, _, _, by have := HLT.out; omega, by go_num, congrArg (Value.int .i64) HDK.out, HS9⟩, by have := HLT.out; simp [intOf]; omega⟩
        · go_simp
          refine (NO.out _).mono ?_
          rintro e z5 ⟨rfl, hz5⟩
          have b5 : Below U.heap.size U z5 := hz5
          clear hz5
          go_simp
          refine hK.out _ _ (mkS _ (chain HSU.out.bs b5)) (fun hHeld2 => ?_)
          clear hK K hHeld
          have hHeld := hHeld2
          clear hHeld2
          try simp only [Act.put, List.setIfInBounds_toArray, List.set_cons_zero, List.set_cons_succ]
          refine wpAnyH_ready (rs := [1, 6]) (by kernel_rfl) (by simp) (AllReadyH.cons (o := { dst := Option.some 52, op := Go.Op.load 29 (Go.Operand.tmp 51), type := 29, pos := "ref.go:71", after := #[{ on := 0, ground := Go.Ground.data }], guard := Option.none }) rfl (fun K hK => ?_) (AllReadyH.cons (o := { dst := Option.some 57, op := Go.Op.buildSlice 29 1 #[(0, Go.Operand.tmp 56)], type := 29, pos := "ref.go:71", after := #[{ on := 5, ground := Go.Ground.data }], guard := Option.none }) rfl (fun K hK => ?_) AllReadyH.nil))
          · have hq2 := (facts3 (row_on HSU.out.rg b5)).2.2.2
            go_simp
            clear hq2
            refine hK.out _ _ (mkS _ (chain HSU.out.bs b5)) (fun hHeld2 => ?_)
            clear hK K hHeld
            have hHeld := hHeld2
            clear hHeld2
            try simp only [Act.put, List.setIfInBounds_toArray, List.set_cons_zero, List.set_cons_succ]
            refine wpAnyH_ready (rs := [6]) (by kernel_rfl) (by simp) (AllReadyH.cons (o := { dst := Option.some 57, op := Go.Op.buildSlice 29 1 #[(0, Go.Operand.tmp 56)], type := 29, pos := "ref.go:71", after := #[{ on := 5, ground := Go.Ground.data }], guard := Option.none }) rfl (fun K hK => ?_) AllReadyH.nil)
            have hbs : (bcells C).size = 16 := by rw [bcells_size, HC16.out]
            go_simp
            clear hbs
            generalize hq : World.alloc z5 _ = z6
            have r6 : z6.heap[z5.heap.size]? = some (.cells (bcells C) 23 (0, 0)) := by rw [← hq]; exact fill_short C HC16.out z5
            have b6 : Below U.heap.size U z6 := b5.trans ((show Below z5.heap.size z5 z6 by rw [← hq]; exact below_new _ _).mono b5.size)
            clear hq
            refine hK.out _ _ (mkS _ (chain HSU.out.bs b6)) (fun hHeld2 => ?_)
            clear hK K hHeld
            have hHeld := hHeld2
            clear hHeld2
            try simp only [Act.put, List.setIfInBounds_toArray, List.set_cons_zero, List.set_cons_succ]
            refine wpAnyH_ready (rs := [7]) (by kernel_rfl) (by simp) (AllReadyH.cons (o := { dst := Option.some 58, op := Go.Op.call { callee := Go.Callee.builtin Go.Builtin.append, args := #[Go.Operand.tmp 52, Go.Operand.tmp 57], argTypes := #[29, 29] }, type := 29, pos := "ref.go:71", after := #[{ on := 1, ground := Go.Ground.data }, { on := 6, ground := Go.Ground.data }, { on := 5, ground := Go.Ground.chain }], guard := Option.none }) rfl (fun K hK => ?_) AllReadyH.nil)
            try rw [if_pos (by rfl)]
            refine wp_append_shorts (.tmp 52) (.tmp 57) rfl (W3.heap.size + 1) _ _ _ rfl (own_onS HSU.out.own b6) ⟨z5.heap.size, 0, none⟩ 1 1 C rfl (by rw [HC16.out]) (row_bvals r6) (by omega) (by have h1 := (Array.getElem?_eq_some_iff.1 HSU.out.rg).1; have h2 := b6.size; omega) ?_
            intro v7 z7 o7 g7
            obtain ⟨A7, c7, rfl⟩ := own_sliceS7 o7
            have lt7 := HSU.out.own.lt
            have bs7 : Below W3.heap.size W3 z7 := (chain HSU.out.bs b6).grown g7 (chain HSU.out.bs b6).size (fun j hj => by have := (lt7 j hj).1; omega)
            have rg7 : z7.heap[W3.heap.size]? = some (.cells #[.int .i64 nI, CV, .slice PA0 k pc0] 31 (0, 0)) := (g7.block _ (Array.getElem?_eq_some_iff.1 (row_on HSU.out.rg b6)).1 (fun e => by have := (lt7 _ e.symm).1; omega)).trans (row_on HSU.out.rg b6)
            have HS7 : RowKit.Hid (SX W3 nI CV A7 c7 (k + 1) (PF (k + 1)) (z7.setCell ⟨W3.heap.size, 2, none⟩ (.slice A7 (k + 1) c7))) := Lib.hid ⟨bs7.setCell (Nat.le_refl _) _, heap_setCell_same _ _ _ _ _ _ rg7, ownsRow_setCell_other (a := ⟨W3.heap.size, 2, none⟩) (by rw [HPF.out, bvals_app]; exact o7) (fun e => by have h1 := (o7.lt _ e).1; simp at h1; omega) _⟩
            have RG7 := Lib.hid rg7
            clear g7 o7 lt7 rg7
            refine hK.out _ _ (mkS _ (bs7)) (fun hHeld2 => ?_)
            clear hK K hHeld
            have hHeld := hHeld2
            clear hHeld2
            try simp only [Act.put, List.setIfInBounds_toArray, List.set_cons_zero, List.set_cons_succ]
            refine wpAnyH_take (i := 8) (oi := { dst := Option.some 59, op := Go.Op.fieldAddr 31 (Go.Operand.tmp 10) 2, type := 0, pos := "ref.go:71", after := #[{ on := 0, ground := Go.Ground.phase }, { on := 1, ground := Go.Ground.phase }, { on := 2, ground := Go.Ground.phase }, { on := 3, ground := Go.Ground.phase }, { on := 4, ground := Go.Ground.phase }, { on := 5, ground := Go.Ground.phase }, { on := 6, ground := Go.Ground.phase }, { on := 7, ground := Go.Ground.phase }], guard := Option.none }) (v := ?_) rfl (by kernel_rfl) (by kernel_rfl) (by kernel_rfl) (fun _ _ _ h => h) (Or.inl ⟨by rfl, ?_⟩) hHeld ?_
            rotate_left
            · intro w hSw
              clear hSw
              go_simp
              try with_reducible rfl
            try simp only [Act.put, List.setIfInBounds_toArray, List.set_cons_zero, List.set_cons_succ]
            refine wpAnyH_ready (rs := [9]) (by kernel_rfl) (by simp) (AllReadyH.cons (o := { dst := Option.none, op := Go.Op.store 29 (Go.Operand.tmp 59) (Go.Operand.tmp 58), type := 0, pos := "ref.go:71", after := #[{ on := 8, ground := Go.Ground.data }, { on := 7, ground := Go.Ground.data }, { on := 7, ground := Go.Ground.chain }, { on := 0, ground := Go.Ground.phase }, { on := 1, ground := Go.Ground.phase }, { on := 2, ground := Go.Ground.phase }, { on := 3, ground := Go.Ground.phase }, { on := 4, ground := Go.Ground.phase }, { on := 5, ground := Go.Ground.phase }, { on := 6, ground := Go.Ground.phase }, { on := 7, ground := Go.Ground.phase }], guard := Option.none }) rfl (fun K hK => ?_) AllReadyH.nil)
            obtain ⟨⟨_, _, hf7⟩, _, _, hc7⟩ := facts3 RG7.out
            have hl7 := (Array.getElem?_eq_some_iff.1 RG7.out).1
            go_simp
            clear hf7 hc7 hl7
            have HS9 := HS7
            refine hK.out _ _ (mkS _ HS7.out.bs) (fun hHeld2 => ?_)
            clear hK K hHeld hHeld2
            try simp only [Act.put, List.setIfInBounds_toArray, List.set_cons_zero, List.set_cons_succ]
            refine wpAnyH_done (by kernel_rfl) ?_ _
            generalize World.setCell _ _ _ = z9 at HS9 ⊢
            clear mkS
            go_wp2_with fail
            exact ⟨⟨k + 1, _, _, by have := HLT.out; omega, by go_num, congrArg (Value.int .i64) HDK.out, HS9⟩, by have := HLT.out; simp [intOf]; omega⟩
          · have hbs : (bcells C).size = 16 := by rw [bcells_size, HC16.out]
            go_simp
            clear hbs
            generalize hq : World.alloc z5 _ = z6
            have r6 : z6.heap[z5.heap.size]? = some (.cells (bcells C) 23 (0, 0)) := by rw [← hq]; exact fill_short C HC16.out z5
            have b6 : Below U.heap.size U z6 := b5.trans ((show Below z5.heap.size z5 z6 by rw [← hq]; exact below_new _ _).mono b5.size)
            clear hq
            refine hK.out _ _ (mkS _ (chain HSU.out.bs b6)) (fun hHeld2 => ?_)
            clear hK K hHeld
            have hHeld := hHeld2
            clear hHeld2
            try simp only [Act.put, List.setIfInBounds_toArray, List.set_cons_zero, List.set_cons_succ]
            refine wpAnyH_ready (rs := [1]) (by kernel_rfl) (by simp) (AllReadyH.cons (o := { dst := Option.some 52, op := Go.Op.load 29 (Go.Operand.tmp 51), type := 29, pos := "ref.go:71", after := #[{ on := 0, ground := Go.Ground.data }], guard := Option.none }) rfl (fun K hK => ?_) AllReadyH.nil)
            have hq2 := (facts3 (row_on HSU.out.rg b6)).2.2.2
            go_simp
            clear hq2
            refine hK.out _ _ (mkS _ (chain HSU.out.bs b6)) (fun hHeld2 => ?_)
            clear hK K hHeld
            have hHeld := hHeld2
            clear hHeld2
            try simp only [Act.put, List.setIfInBounds_toArray, List.set_cons_zero, List.set_cons_succ]
            refine wpAnyH_ready (rs := [7]) (by kernel_rfl) (by simp) (AllReadyH.cons (o := { dst := Option.some 58, op := Go.Op.call { callee := Go.Callee.builtin Go.Builtin.append, args := #[Go.Operand.tmp 52, Go.Operand.tmp 57], argTypes := #[29, 29] }, type := 29, pos := "ref.go:71", after := #[{ on := 1, ground := Go.Ground.data }, { on := 6, ground := Go.Ground.data }, { on := 5, ground := Go.Ground.chain }], guard := Option.none }) rfl (fun K hK => ?_) AllReadyH.nil)
            try rw [if_pos (by rfl)]
            refine wp_append_shorts (.tmp 52) (.tmp 57) rfl (W3.heap.size + 1) _ _ _ rfl (own_onS HSU.out.own b6) ⟨z5.heap.size, 0, none⟩ 1 1 C rfl (by rw [HC16.out]) (row_bvals r6) (by omega) (by have h1 := (Array.getElem?_eq_some_iff.1 HSU.out.rg).1; have h2 := b6.size; omega) ?_
            intro v7 z7 o7 g7
            obtain ⟨A7, c7, rfl⟩ := own_sliceS7 o7
            have lt7 := HSU.out.own.lt
            have bs7 : Below W3.heap.size W3 z7 := (chain HSU.out.bs b6).grown g7 (chain HSU.out.bs b6).size (fun j hj => by have := (lt7 j hj).1; omega)
            have rg7 : z7.heap[W3.heap.size]? = some (.cells #[.int .i64 nI, CV, .slice PA0 k pc0] 31 (0, 0)) := (g7.block _ (Array.getElem?_eq_some_iff.1 (row_on HSU.out.rg b6)).1 (fun e => by have := (lt7 _ e.symm).1; omega)).trans (row_on HSU.out.rg b6)
            have HS7 : RowKit.Hid (SX W3 nI CV A7 c7 (k + 1) (PF (k + 1)) (z7.setCell ⟨W3.heap.size, 2, none⟩ (.slice A7 (k + 1) c7))) := Lib.hid ⟨bs7.setCell (Nat.le_refl _) _, heap_setCell_same _ _ _ _ _ _ rg7, ownsRow_setCell_other (a := ⟨W3.heap.size, 2, none⟩) (by rw [HPF.out, bvals_app]; exact o7) (fun e => by have h1 := (o7.lt _ e).1; simp at h1; omega) _⟩
            have RG7 := Lib.hid rg7
            clear g7 o7 lt7 rg7
            refine hK.out _ _ (mkS _ (bs7)) (fun hHeld2 => ?_)
            clear hK K hHeld
            have hHeld := hHeld2
            clear hHeld2
            try simp only [Act.put, List.setIfInBounds_toArray, List.set_cons_zero, List.set_cons_succ]
            refine wpAnyH_take (i := 8) (oi := { dst := Option.some 59, op := Go.Op.fieldAddr 31 (Go.Operand.tmp 10) 2, type := 0, pos := "ref.go:71", after := #[{ on := 0, ground := Go.Ground.phase }, { on := 1, ground := Go.Ground.phase }, { on := 2, ground := Go.Ground.phase }, { on := 3, ground := Go.Ground.phase }, { on := 4, ground := Go.Ground.phase }, { on := 5, ground := Go.Ground.phase }, { on := 6, ground := Go.Ground.phase }, { on := 7, ground := Go.Ground.phase }], guard := Option.none }) (v := ?_) rfl (by kernel_rfl) (by kernel_rfl) (by kernel_rfl) (fun _ _ _ h => h) (Or.inl ⟨by rfl, ?_⟩) hHeld ?_
            rotate_left
            · intro w hSw
              clear hSw
              go_simp
              try with_reducible rfl
            try simp only [Act.put, List.setIfInBounds_toArray, List.set_cons_zero, List.set_cons_succ]
            refine wpAnyH_ready (rs := [9]) (by kernel_rfl) (by simp) (AllReadyH.cons (o := { dst := Option.none, op := Go.Op.store 29 (Go.Operand.tmp 59) (Go.Operand.tmp 58), type := 0, pos := "ref.go:71", after := #[{ on := 8, ground := Go.Ground.data }, { on := 7, ground := Go.Ground.data }, { on := 7, ground := Go.Ground.chain }, { on := 0, ground := Go.Ground.phase }, { on := 1, ground := Go.Ground.phase }, { on := 2, ground := Go.Ground.phase }, { on := 3, ground := Go.Ground.phase }, { on := 4, ground := Go.Ground.phase }, { on := 5, ground := Go.Ground.phase }, { on := 6, ground := Go.Ground.phase }, { on := 7, ground := Go.Ground.phase }], guard := Option.none }) rfl (fun K hK => ?_) AllReadyH.nil)
            obtain ⟨⟨_, _, hf7⟩, _, _, hc7⟩ := facts3 RG7.out
            have hl7 := (Array.getElem?_eq_some_iff.1 RG7.out).1
            go_simp
            clear hf7 hc7 hl7
            have HS9 := HS7
            refine hK.out _ _ (mkS _ HS7.out.bs) (fun hHeld2 => ?_)
            clear hK K hHeld hHeld2
            try simp only [Act.put, List.setIfInBounds_toArray, List.set_cons_zero, List.set_cons_succ]
            refine wpAnyH_done (by kernel_rfl) ?_ _
            generalize World.setCell _ _ _ = z9 at HS9 ⊢
            clear mkS
            go_wp2_with fail
            exact ⟨⟨k + 1, _, _, by have := HLT.out; omega, by go_num, congrArg (Value.int .i64) HDK.out, HS9⟩, by have := HLT.out; simp [intOf]; omega⟩
      · have hi : (dk : Int) % 2 = 1 := by omega
        have hno1 := hnoa _ (hseq.2 he)
        have hd1 : 1 ≤ dk := by omega
        have hd2 : (1 : Int) ≤ (dk : Int) := by omega
        have NO := Lib.hid hno1
        clear hno1 hnoa hseq hc16 hpfk hC hdk he hlt
        go_wp2_with fail
        obtain ⟨U, hU⟩ : ∃ U, wr.drew = U := ⟨_, rfl⟩
        have hbU : Below wr.heap.size wr U := by rw [← hU]; exact (Below.refl _ _).drew
        have HSU := Lib.hid (HSX.out.on hbU)
        have mkS : ∀ z, Below W3.heap.size W3 z → z.rangeAt w.heap.size 0 (bvals seed) := fun z hz => rangeAt_row0 (row_on HR03.out hz)
        have hS0 : wr.drew.rangeAt w.heap.size 0 (bvals seed) := by rw [hU]; exact mkS _ HSU.out.bs
        clear hbU HSX
        refine wp_region_held_drew (S := fun z => z.rangeAt w.heap.size 0 (bvals seed)) (by kernel_rfl) hS0 (fun hHeld => ?_)
        rw [hU] at hHeld ⊢
        clear hS0 hU
        refine wpAnyH_take (i := 0) (oi := { dst := Option.some 51, op := Go.Op.fieldAddr 31 (Go.Operand.tmp 10) 2, type := 0, pos := "ref.go:71", after := #[], guard := Option.none }) (v := ?_) rfl (by kernel_rfl) (by kernel_rfl) (by kernel_rfl) (fun _ _ _ h => h) (Or.inl ⟨by rfl, ?_⟩) hHeld ?_
        rotate_left
        · intro w hSw
          clear hSw
          go_simp
          try with_reducible rfl
        try simp only [Act.put, List.setIfInBounds_toArray, List.set_cons_zero, List.set_cons_succ]
        refine wpAnyH_take (i := 2) (oi := { dst := Option.some 53, op := Go.Op.load 23 (Go.Operand.tmp 4), type := 23, pos := "ref.go:71", after := #[], guard := Option.none }) (v := .agg (bvals seed).toArray) rfl (by kernel_rfl) (by kernel_rfl) (by kernel_rfl) (fun _ _ _ h => h) (yieldsIf_load_mid (by rfl) _ _ rfl _ _ rfl (bvals seed) _ (fun w hSw => hSw) Tryd.underlying23 rfl HIS.out) hHeld ?_
        try simp only [Act.put, List.setIfInBounds_toArray, List.set_cons_zero, List.set_cons_succ]
        refine wpAnyH_take (i := 3) (oi := { dst := Option.some 54, op := Go.Op.move (Go.Operand.tmp 12), type := 3, pos := "ref.go:71", after := #[], guard := Option.none }) (v := ?_) rfl (by kernel_rfl) (by kernel_rfl) (by kernel_rfl) (fun _ _ _ h => h) (Or.inl ⟨by rfl, ?_⟩) hHeld ?_
        rotate_left
        · intro w hSw
          clear hSw
          go_simp
          try with_reducible rfl
        try simp only [Act.put, List.setIfInBounds_toArray, List.set_cons_zero, List.set_cons_succ]
        refine wpAnyH_take (i := 4) (oi := { dst := Option.some 55, op := Go.Op.move (Go.Operand.tmp 13), type := 3, pos := "ref.go:71", after := #[], guard := Option.none }) (v := ?_) rfl (by kernel_rfl) (by kernel_rfl) (by kernel_rfl) (fun _ _ _ h => h) (Or.inl ⟨by rfl, ?_⟩) hHeld ?_
        rotate_left
        · intro w hSw
          clear hSw
          go_simp
          try with_reducible rfl
        try simp only [Act.put, List.setIfInBounds_toArray, List.set_cons_zero, List.set_cons_succ]
        refine wpAnyH_ready (rs := [1, 5]) (by kernel_rfl) (by simp) (AllReadyH.cons (o := { dst := Option.some 52, op := Go.Op.load 29 (Go.Operand.tmp 51), type := 29, pos := "ref.go:71", after := #[{ on := 0, ground := Go.Ground.data }], guard := Option.none }) rfl (fun K hK => ?_) (AllReadyH.cons (o := { dst := Option.some 56, op := Go.Op.call { callee := Go.Callee.value (Go.Operand.func 35), args := #[Go.Operand.tmp 53, Go.Operand.tmp 54, Go.Operand.tmp 55], argTypes := #[23, 3, 3] }, type := 23, pos := "ref.go:71", after := #[{ on := 2, ground := Go.Ground.data }, { on := 3, ground := Go.Ground.data }, { on := 4, ground := Go.Ground.data }], guard := Option.none }) rfl (fun K hK => ?_) AllReadyH.nil))
        · have hq2 := (facts3 (row_on HSU.out.rg (Below.refl _ _))).2.2.2
          go_simp
          clear hq2
          refine hK.out _ _ (mkS _ (chain HSU.out.bs (Below.refl _ _))) (fun hHeld2 => ?_)
          clear hK K hHeld
          have hHeld := hHeld2
          clear hHeld2
          try simp only [Act.put, List.setIfInBounds_toArray, List.set_cons_zero, List.set_cons_succ]
          refine wpAnyH_ready (rs := [5]) (by kernel_rfl) (by simp) (AllReadyH.cons (o := { dst := Option.some 56, op := Go.Op.call { callee := Go.Callee.value (Go.Operand.func 35), args := #[Go.Operand.tmp 53, Go.Operand.tmp 54, Go.Operand.tmp 55], argTypes := #[23, 3, 3] }, type := 23, pos := "ref.go:71", after := #[{ on := 2, ground := Go.Ground.data }, { on := 3, ground := Go.Ground.data }, { on := 4, ground := Go.Ground.data }], guard := Option.none }) rfl (fun K hK => ?_) AllReadyH.nil)
          go_simp
          refine (NO.out _).mono ?_
          rintro e z5 ⟨rfl, hz5⟩
          have b5 : Below U.heap.size U z5 := hz5
          clear hz5
          go_simp
          refine hK.out _ _ (mkS _ (chain HSU.out.bs b5)) (fun hHeld2 => ?_)
          clear hK K hHeld
          have hHeld := hHeld2
          clear hHeld2
          try simp only [Act.put, List.setIfInBounds_toArray, List.set_cons_zero, List.set_cons_succ]
          refine wpAnyH_ready (rs := [6]) (by kernel_rfl) (by simp) (AllReadyH.cons (o := { dst := Option.some 57, op := Go.Op.buildSlice 29 1 #[(0, Go.Operand.tmp 56)], type := 29, pos := "ref.go:71", after := #[{ on := 5, ground := Go.Ground.data }], guard := Option.none }) rfl (fun K hK => ?_) AllReadyH.nil)
          have hbs : (bcells C).size = 16 := by rw [bcells_size, HC16.out]
          go_simp
          clear hbs
          generalize hq : World.alloc z5 _ = z6
          have r6 : z6.heap[z5.heap.size]? = some (.cells (bcells C) 23 (0, 0)) := by rw [← hq]; exact fill_short C HC16.out z5
          have b6 : Below U.heap.size U z6 := b5.trans ((show Below z5.heap.size z5 z6 by rw [← hq]; exact below_new _ _).mono b5.size)
          clear hq
          refine hK.out _ _ (mkS _ (chain HSU.out.bs b6)) (fun hHeld2 => ?_)
          clear hK K hHeld
          have hHeld := hHeld2
          clear hHeld2
          try simp only [Act.put, List.setIfInBounds_toArray, List.set_cons_zero, List.set_cons_succ]
          refine wpAnyH_ready (rs := [7]) (by kernel_rfl) (by simp) (AllReadyH.cons (o := { dst := Option.some 58, op := Go.Op.call { callee := Go.Callee.builtin Go.Builtin.append, args := #[Go.Operand.tmp 52, Go.Operand.tmp 57], argTypes := #[29, 29] }, type := 29, pos := "ref.go:71", after := #[{ on := 1, ground := Go.Ground.data }, { on := 6, ground := Go.Ground.data }, { on := 5, ground := Go.Ground.chain }], guard := Option.none }) rfl (fun K hK => ?_) AllReadyH.nil)
          try rw [if_pos (by rfl)]
          refine wp_append_shorts (.tmp 52) (.tmp 57) rfl (W3.heap.size + 1) _ _ _ rfl (own_onS HSU.out.own b6) ⟨z5.heap.size, 0, none⟩ 1 1 C rfl (by rw [HC16.out]) (row_bvals r6) (by omega) (by have h1 := (Array.getElem?_eq_some_iff.1 HSU.out.rg).1; have h2 := b6.size; omega) ?_
          intro v7 z7 o7 g7
          obtain ⟨A7, c7, rfl⟩ := own_sliceS7 o7
          have lt7 := HSU.out.own.lt
          have bs7 : Below W3.heap.size W3 z7 := (chain HSU.out.bs b6).grown g7 (chain HSU.out.bs b6).size (fun j hj => by have := (lt7 j hj).1; omega)
          have rg7 : z7.heap[W3.heap.size]? = some (.cells #[.int .i64 nI, CV, .slice PA0 k pc0] 31 (0, 0)) := (g7.block _ (Array.getElem?_eq_some_iff.1 (row_on HSU.out.rg b6)).1 (fun e => by have := (lt7 _ e.symm).1; omega)).trans (row_on HSU.out.rg b6)
          have HS7 : RowKit.Hid (SX W3 nI CV A7 c7 (k + 1) (PF (k + 1)) (z7.setCell ⟨W3.heap.size, 2, none⟩ (.slice A7 (k + 1) c7))) := Lib.hid ⟨bs7.setCell (Nat.le_refl _) _, heap_setCell_same _ _ _ _ _ _ rg7, ownsRow_setCell_other (a := ⟨W3.heap.size, 2, none⟩) (by rw [HPF.out, bvals_app]; exact o7) (fun e => by have h1 := (o7.lt _ e).1; simp at h1; omega) _⟩
          have RG7 := Lib.hid rg7
          clear g7 o7 lt7 rg7
          refine hK.out _ _ (mkS _ (bs7)) (fun hHeld2 => ?_)
          clear hK K hHeld
          have hHeld := hHeld2
          clear hHeld2
          try simp only [Act.put, List.setIfInBounds_toArray, List.set_cons_zero, List.set_cons_succ]
          refine wpAnyH_take (i := 8) (oi := { dst := Option.some 59, op := Go.Op.fieldAddr 31 (Go.Operand.tmp 10) 2, type := 0, pos := "ref.go:71", after := #[{ on := 0, ground := Go.Ground.phase }, { on := 1, ground := Go.Ground.phase }, { on := 2, ground := Go.Ground.phase }, { on := 3, ground := Go.Ground.phase }, { on := 4, ground := Go.Ground.phase }, { on := 5, ground := Go.Ground.phase }, { on := 6, ground := Go.Ground.phase }, { on := 7, ground := Go.Ground.phase }], guard := Option.none }) (v := ?_) rfl (by kernel_rfl) (by kernel_rfl) (by kernel_rfl) (fun _ _ _ h => h) (Or.inl ⟨by rfl, ?_⟩) hHeld ?_
          rotate_left
          · intro w hSw
            clear hSw
            go_simp
            try with_reducible rfl
          try simp only [Act.put, List.setIfInBounds_toArray, List.set_cons_zero, List.set_cons_succ]
          refine wpAnyH_ready (rs := [9]) (by kernel_rfl) (by simp) (AllReadyH.cons (o := { dst := Option.none, op := Go.Op.store 29 (Go.Operand.tmp 59) (Go.Operand.tmp 58), type := 0, pos := "ref.go:71", after := #[{ on := 8, ground := Go.Ground.data }, { on := 7, ground := Go.Ground.data }, { on := 7, ground := Go.Ground.chain }, { on := 0, ground := Go.Ground.phase }, { on := 1, ground := Go.Ground.phase }, { on := 2, ground := Go.Ground.phase }, { on := 3, ground := Go.Ground.phase }, { on := 4, ground := Go.Ground.phase }, { on := 5, ground := Go.Ground.phase }, { on := 6, ground := Go.Ground.phase }, { on := 7, ground := Go.Ground.phase }], guard := Option.none }) rfl (fun K hK => ?_) AllReadyH.nil)
          obtain ⟨⟨_, _, hf7⟩, _, _, hc7⟩ := facts3 RG7.out
          have hl7 := (Array.getElem?_eq_some_iff.1 RG7.out).1
          go_simp
          clear hf7 hc7 hl7
          have HS9 := HS7
          refine hK.out _ _ (mkS _ HS7.out.bs) (fun hHeld2 => ?_)
          clear hK K hHeld hHeld2
          try simp only [Act.put, List.setIfInBounds_toArray, List.set_cons_zero, List.set_cons_succ]
          refine wpAnyH_done (by kernel_rfl) ?_ _
          generalize World.setCell _ _ _ = z9 at HS9 ⊢
          clear mkS
          go_wp2_with fail
          exact ⟨⟨k + 1, _, _, by have := HLT.out; omega, by go_num, congrArg (Value.int .i64) HDK.out, HS9⟩, by have := HLT.out; simp [intOf]; omega⟩
        · go_simp
          refine (NO.out _).mono ?_
          rintro e z5 ⟨rfl, hz5⟩
          have b5 : Below U.heap.size U z5 := hz5
          clear hz5
          go_simp
          refine hK.out _ _ (mkS _ (chain HSU.out.bs b5)) (fun hHeld2 => ?_)
          clear hK K hHeld
          have hHeld := hHeld2
          clear hHeld2
          try simp only [Act.put, List.setIfInBounds_toArray, List.set_cons_zero, List.set_cons_succ]
          refine wpAnyH_ready (rs := [1, 6]) (by kernel_rfl) (by simp) (AllReadyH.cons (o := { dst := Option.some 52, op := Go.Op.load 29 (Go.Operand.tmp 51), type := 29, pos := "ref.go:71", after := #[{ on := 0, ground := Go.Ground.data }], guard := Option.none }) rfl (fun K hK => ?_) (AllReadyH.cons (o := { dst := Option.some 57, op := Go.Op.buildSlice 29 1 #[(0, Go.Operand.tmp 56)], type := 29, pos := "ref.go:71", after := #[{ on := 5, ground := Go.Ground.data }], guard := Option.none }) rfl (fun K hK => ?_) AllReadyH.nil))
          · have hq2 := (facts3 (row_on HSU.out.rg b5)).2.2.2
            go_simp
            clear hq2
            refine hK.out _ _ (mkS _ (chain HSU.out.bs b5)) (fun hHeld2 => ?_)
            clear hK K hHeld
            have hHeld := hHeld2
            clear hHeld2
            try simp only [Act.put, List.setIfInBounds_toArray, List.set_cons_zero, List.set_cons_succ]
            refine wpAnyH_ready (rs := [6]) (by kernel_rfl) (by simp) (AllReadyH.cons (o := { dst := Option.some 57, op := Go.Op.buildSlice 29 1 #[(0, Go.Operand.tmp 56)], type := 29, pos := "ref.go:71", after := #[{ on := 5, ground := Go.Ground.data }], guard := Option.none }) rfl (fun K hK => ?_) AllReadyH.nil)
            have hbs : (bcells C).size = 16 := by rw [bcells_size, HC16.out]
            go_simp
            clear hbs
            generalize hq : World.alloc z5 _ = z6
            have r6 : z6.heap[z5.heap.size]? = some (.cells (bcells C) 23 (0, 0)) := by rw [← hq]; exact fill_short C HC16.out z5
            have b6 : Below U.heap.size U z6 := b5.trans ((show Below z5.heap.size z5 z6 by rw [← hq]; exact below_new _ _).mono b5.size)
            clear hq
            refine hK.out _ _ (mkS _ (chain HSU.out.bs b6)) (fun hHeld2 => ?_)
            clear hK K hHeld
            have hHeld := hHeld2
            clear hHeld2
            try simp only [Act.put, List.setIfInBounds_toArray, List.set_cons_zero, List.set_cons_succ]
            refine wpAnyH_ready (rs := [7]) (by kernel_rfl) (by simp) (AllReadyH.cons (o := { dst := Option.some 58, op := Go.Op.call { callee := Go.Callee.builtin Go.Builtin.append, args := #[Go.Operand.tmp 52, Go.Operand.tmp 57], argTypes := #[29, 29] }, type := 29, pos := "ref.go:71", after := #[{ on := 1, ground := Go.Ground.data }, { on := 6, ground := Go.Ground.data }, { on := 5, ground := Go.Ground.chain }], guard := Option.none }) rfl (fun K hK => ?_) AllReadyH.nil)
            try rw [if_pos (by rfl)]
            refine wp_append_shorts (.tmp 52) (.tmp 57) rfl (W3.heap.size + 1) _ _ _ rfl (own_onS HSU.out.own b6) ⟨z5.heap.size, 0, none⟩ 1 1 C rfl (by rw [HC16.out]) (row_bvals r6) (by omega) (by have h1 := (Array.getElem?_eq_some_iff.1 HSU.out.rg).1; have h2 := b6.size; omega) ?_
            intro v7 z7 o7 g7
            obtain ⟨A7, c7, rfl⟩ := own_sliceS7 o7
            have lt7 := HSU.out.own.lt
            have bs7 : Below W3.heap.size W3 z7 := (chain HSU.out.bs b6).grown g7 (chain HSU.out.bs b6).size (fun j hj => by have := (lt7 j hj).1; omega)
            have rg7 : z7.heap[W3.heap.size]? = some (.cells #[.int .i64 nI, CV, .slice PA0 k pc0] 31 (0, 0)) := (g7.block _ (Array.getElem?_eq_some_iff.1 (row_on HSU.out.rg b6)).1 (fun e => by have := (lt7 _ e.symm).1; omega)).trans (row_on HSU.out.rg b6)
            have HS7 : RowKit.Hid (SX W3 nI CV A7 c7 (k + 1) (PF (k + 1)) (z7.setCell ⟨W3.heap.size, 2, none⟩ (.slice A7 (k + 1) c7))) := Lib.hid ⟨bs7.setCell (Nat.le_refl _) _, heap_setCell_same _ _ _ _ _ _ rg7, ownsRow_setCell_other (a := ⟨W3.heap.size, 2, none⟩) (by rw [HPF.out, bvals_app]; exact o7) (fun e => by have h1 := (o7.lt _ e).1; simp at h1; omega) _⟩
            have RG7 := Lib.hid rg7
            clear g7 o7 lt7 rg7
            refine hK.out _ _ (mkS _ (bs7)) (fun hHeld2 => ?_)
            clear hK K hHeld
            have hHeld := hHeld2
            clear hHeld2
            try simp only [Act.put, List.setIfInBounds_toArray, List.set_cons_zero, List.set_cons_succ]
            refine wpAnyH_take (i := 8) (oi := { dst := Option.some 59, op := Go.Op.fieldAddr 31 (Go.Operand.tmp 10) 2, type := 0, pos := "ref.go:71", after := #[{ on := 0, ground := Go.Ground.phase }, { on := 1, ground := Go.Ground.phase }, { on := 2, ground := Go.Ground.phase }, { on := 3, ground := Go.Ground.phase }, { on := 4, ground := Go.Ground.phase }, { on := 5, ground := Go.Ground.phase }, { on := 6, ground := Go.Ground.phase }, { on := 7, ground := Go.Ground.phase }], guard := Option.none }) (v := ?_) rfl (by kernel_rfl) (by kernel_rfl) (by kernel_rfl) (fun _ _ _ h => h) (Or.inl ⟨by rfl, ?_⟩) hHeld ?_
            rotate_left
            · intro w hSw
              clear hSw
              go_simp
              try with_reducible rfl
            try simp only [Act.put, List.setIfInBounds_toArray, List.set_cons_zero, List.set_cons_succ]
            refine wpAnyH_ready (rs := [9]) (by kernel_rfl) (by simp) (AllReadyH.cons (o := { dst := Option.none, op := Go.Op.store 29 (Go.Operand.tmp 59) (Go.Operand.tmp 58), type := 0, pos := "ref.go:71", after := #[{ on := 8, ground := Go.Ground.data }, { on := 7, ground := Go.Ground.data }, { on := 7, ground := Go.Ground.chain }, { on := 0, ground := Go.Ground.phase }, { on := 1, ground := Go.Ground.phase }, { on := 2, ground := Go.Ground.phase }, { on := 3, ground := Go.Ground.phase }, { on := 4, ground := Go.Ground.phase }, { on := 5, ground := Go.Ground.phase }, { on := 6, ground := Go.Ground.phase }, { on := 7, ground := Go.Ground.phase }], guard := Option.none }) rfl (fun K hK => ?_) AllReadyH.nil)
            obtain ⟨⟨_, _, hf7⟩, _, _, hc7⟩ := facts3 RG7.out
            have hl7 := (Array.getElem?_eq_some_iff.1 RG7.out).1
            go_simp
            clear hf7 hc7 hl7
            have HS9 := HS7
            refine hK.out _ _ (mkS _ HS7.out.bs) (fun hHeld2 => ?_)
            clear hK K hHeld hHeld2
            try simp only [Act.put, List.setIfInBounds_toArray, List.set_cons_zero, List.set_cons_succ]
            refine wpAnyH_done (by kernel_rfl) ?_ _
            generalize World.setCell _ _ _ = z9 at HS9 ⊢
            clear mkS
            go_wp2_with fail
            exact ⟨⟨k + 1, _, _, by have := HLT.out; omega, by go_num, congrArg (Value.int .i64) HDK.out, HS9⟩, by have := HLT.out; simp [intOf]; omega⟩
          · have hbs : (bcells C).size = 16 := by rw [bcells_size, HC16.out]
            go_simp
            clear hbs
            generalize hq : World.alloc z5 _ = z6
            have r6 : z6.heap[z5.heap.size]? = some (.cells (bcells C) 23 (0, 0)) := by rw [← hq]; exact fill_short C HC16.out z5
            have b6 : Below U.heap.size U z6 := b5.trans ((show Below z5.heap.size z5 z6 by rw [← hq]; exact below_new _ _).mono b5.size)
            clear hq
            refine hK.out _ _ (mkS _ (chain HSU.out.bs b6)) (fun hHeld2 => ?_)
            clear hK K hHeld
            have hHeld := hHeld2
            clear hHeld2
            try simp only [Act.put, List.setIfInBounds_toArray, List.set_cons_zero, List.set_cons_succ]
            refine wpAnyH_ready (rs := [1]) (by kernel_rfl) (by simp) (AllReadyH.cons (o := { dst := Option.some 52, op := Go.Op.load 29 (Go.Operand.tmp 51), type := 29, pos := "ref.go:71", after := #[{ on := 0, ground := Go.Ground.data }], guard := Option.none }) rfl (fun K hK => ?_) AllReadyH.nil)
            have hq2 := (facts3 (row_on HSU.out.rg b6)).2.2.2
            go_simp
            clear hq2
            refine hK.out _ _ (mkS _ (chain HSU.out.bs b6)) (fun hHeld2 => ?_)
            clear hK K hHeld
            have hHeld := hHeld2
            clear hHeld2
            try simp only [Act.put, List.setIfInBounds_toArray, List.set_cons_zero, List.set_cons_succ]
            refine wpAnyH_ready (rs := [7]) (by kernel_rfl) (by simp) (AllReadyH.cons (o := { dst := Option.some 58, op := Go.Op.call { callee := Go.Callee.builtin Go.Builtin.append, args := #[Go.Operand.tmp 52, Go.Operand.tmp 57], argTypes := #[29, 29] }, type := 29, pos := "ref.go:71", after := #[{ on := 1, ground := Go.Ground.data }, { on := 6, ground := Go.Ground.data }, { on := 5, ground := Go.Ground.chain }], guard := Option.none }) rfl (fun K hK => ?_) AllReadyH.nil)
            try rw [if_pos (by rfl)]
            refine wp_append_shorts (.tmp 52) (.tmp 57) rfl (W3.heap.size + 1) _ _ _ rfl (own_onS HSU.out.own b6) ⟨z5.heap.size, 0, none⟩ 1 1 C rfl (by rw [HC16.out]) (row_bvals r6) (by omega) (by have h1 := (Array.getElem?_eq_some_iff.1 HSU.out.rg).1; have h2 := b6.size; omega) ?_
            intro v7 z7 o7 g7
            obtain ⟨A7, c7, rfl⟩ := own_sliceS7 o7
            have lt7 := HSU.out.own.lt
            have bs7 : Below W3.heap.size W3 z7 := (chain HSU.out.bs b6).grown g7 (chain HSU.out.bs b6).size (fun j hj => by have := (lt7 j hj).1; omega)
            have rg7 : z7.heap[W3.heap.size]? = some (.cells #[.int .i64 nI, CV, .slice PA0 k pc0] 31 (0, 0)) := (g7.block _ (Array.getElem?_eq_some_iff.1 (row_on HSU.out.rg b6)).1 (fun e => by have := (lt7 _ e.symm).1; omega)).trans (row_on HSU.out.rg b6)
            have HS7 : RowKit.Hid (SX W3 nI CV A7 c7 (k + 1) (PF (k + 1)) (z7.setCell ⟨W3.heap.size, 2, none⟩ (.slice A7 (k + 1) c7))) := Lib.hid ⟨bs7.setCell (Nat.le_refl _) _, heap_setCell_same _ _ _ _ _ _ rg7, ownsRow_setCell_other (a := ⟨W3.heap.size, 2, none⟩) (by rw [HPF.out, bvals_app]; exact o7) (fun e => by have h1 := (o7.lt _ e).1; simp at h1; omega) _⟩
            have RG7 := Lib.hid rg7
            clear g7 o7 lt7 rg7
            refine hK.out _ _ (mkS _ (bs7)) (fun hHeld2 => ?_)
            clear hK K hHeld
            have hHeld := hHeld2
            clear hHeld2
            try simp only [Act.put, List.setIfInBounds_toArray, List.set_cons_zero, List.set_cons_succ]
            refine wpAnyH_take (i := 8) (oi := { dst := Option.some 59, op := Go.Op.fieldAddr 31 (Go.Operand.tmp 10) 2, type := 0, pos := "ref.go:71", after := #[{ on := 0, ground := Go.Ground.phase }, { on := 1, ground := Go.Ground.phase }, { on := 2, ground := Go.Ground.phase }, { on := 3, ground := Go.Ground.phase }, { on := 4, ground := Go.Ground.phase }, { on := 5, ground := Go.Ground.phase }, { on := 6, ground := Go.Ground.phase }, { on := 7, ground := Go.Ground.phase }], guard := Option.none }) (v := ?_) rfl (by kernel_rfl) (by kernel_rfl) (by kernel_rfl) (fun _ _ _ h => h) (Or.inl ⟨by rfl, ?_⟩) hHeld ?_
            rotate_left
            · intro w hSw
              clear hSw
              go_simp
              try with_reducible rfl
            try simp only [Act.put, List.setIfInBounds_toArray, List.set_cons_zero, List.set_cons_succ]
            refine wpAnyH_ready (rs := [9]) (by kernel_rfl) (by simp) (AllReadyH.cons (o := { dst := Option.none, op := Go.Op.store 29 (Go.Operand.tmp 59) (Go.Operand.tmp 58), type := 0, pos := "ref.go:71", after := #[{ on := 8, ground := Go.Ground.data }, { on := 7, ground := Go.Ground.data }, { on := 7, ground := Go.Ground.chain }, { on := 0, ground := Go.Ground.phase }, { on := 1, ground := Go.Ground.phase }, { on := 2, ground := Go.Ground.phase }, { on := 3, ground := Go.Ground.phase }, { on := 4, ground := Go.Ground.phase }, { on := 5, ground := Go.Ground.phase }, { on := 6, ground := Go.Ground.phase }, { on := 7, ground := Go.Ground.phase }], guard := Option.none }) rfl (fun K hK => ?_) AllReadyH.nil)
            obtain ⟨⟨_, _, hf7⟩, _, _, hc7⟩ := facts3 RG7.out
            have hl7 := (Array.getElem?_eq_some_iff.1 RG7.out).1
            go_simp
            clear hf7 hc7 hl7
            have HS9 := HS7
            refine hK.out _ _ (mkS _ HS7.out.bs) (fun hHeld2 => ?_)
            clear hK K hHeld hHeld2
            try simp only [Act.put, List.setIfInBounds_toArray, List.set_cons_zero, List.set_cons_succ]
            refine wpAnyH_done (by kernel_rfl) ?_ _
            generalize World.setCell _ _ _ = z9 at HS9 ⊢
            clear mkS
            go_wp2_with fail
            exact ⟨⟨k + 1, _, _, by have := HLT.out; omega, by go_num, congrArg (Value.int .i64) HDK.out, HS9⟩, by have := HLT.out; simp [intOf]; omega⟩
    · have hkk : k = h := by omega
      have hge : ¬ (k : Int) < (h : Int) := by omega
      obtain ⟨A', c', hv, _, _, hsp⟩ := shorts_own (ls := PTH h) HPM.out (by rw [HPL.out, HPFE.out]; rw [hkk] at HSX; exact HSX.out.own)
      have HSP := Lib.hid hsp
      have HSGV := Lib.hid (HSG.out.on HSX.out.bs)
      have HRR := Lib.hid (row_on HR13.out HSX.out.bs)
      have hlt6 := (Array.getElem?_eq_some_iff.1 HRR.out).1
      have hlt7 := (Array.getElem?_eq_some_iff.1 HSX.out.rg).1
      have hw3 := (Array.getElem?_eq_some_iff.1 HR13.out).1
      have hown := HSX.out.own.lt
      have HOWN := Lib.hid hown
      have HHV := Lib.hid hv
      have HKK := Lib.hid hkk
      obtain ⟨⟨hf0, hf1, hf2⟩, hc0, hc1, hc2⟩ := facts3 HRR.out
      have hrg := HSX.out.rg
      rw [← HCV.out] at hrg
      obtain ⟨_, hd0, hd1, hd2⟩ := facts3 hrg
      clear hkk hv hsp hown hrg hlt
      go_wp2_with fail
      have hkh := HKK.out
      refine bodyPost_ret (v := .tuple #[.agg #[.int .i64 nI, .slice B 35 cb, .slice PA0 k pc0], .int .i64 0]) (results_twoS rfl _ _ (w.heap.size + 1) 31 _ (0, 0) _ rfl rfl (put3 HRR.out _ _ _) Tryd.underlying31 (sz3 _ _ _)) rfl ⟨B, cb, PA0, pc0, by rw [hkh], ?_, ?_, ?_⟩
      · exact shorts_put3z HSGV.out HRR.out _ _ _
      · have hv2 := HHV.out
        rw [HPL.out] at hv2
        obtain ⟨e1, _, _⟩ := Value.slice.inj hv2
        rw [e1]
        refine shorts_put3 HSP.out (fun g o e => ?_) _ _ _
        rw [← e1] at e
        have := (HOWN.out g (by rw [e]; rfl)).1
        omega
      · exact below_put3 (chain HB3.out HSX.out.bs) (by omega) _ _ _
end Go.Proofs.YtafolokkjpbieaaDoor
