/-
  MerkleNames' helpers: up (its region: written by wip/gen-mknames.py), pub.
-/
import Derived.Test.YtafolokkjpbieaaDoorMkP
namespace Go.Proofs.YtafolokkjpbieaaDoor
open Go.RowKit Sha Ots
set_option linter.unusedVariables false
set_option linter.unusedSimpArgs false
theorem wp_append_u87 {w : World} {o : Oper} {a : Act} {K : Act → World → Prop} {Q : Exit → Act → World → Prop} (s x : Operand)
    (ho : o.op = .call { callee := .builtin .append, args := #[s, x], argTypes := #[42, 42] }) (base : Nat) (v : Value) (n : Nat) (xs : List Value) (hs : a.eval s = v) (hown : w.ownsRow base 5 1 v n xs)
    (ad : Addr) (m c : Nat) (L : List UInt8) (hx : a.eval x = .slice (some ad) m c) (hm : L.length = m) (hc : ∀ j u, (bvals L)[j]? = some u → w.cell? (ad.add j) = some u) (h63 : n + m ≤ 1000000) (hbase : base ≤ w.heap.size)
    (h : ∀ v' w', w'.ownsRow base 5 1 v' (n + m) (xs ++ bvals L) → w.grownBy w' v.ownBlock → K (a.put o.dst v') w') : o.wp Tryd.prog a w K Q := by
  obtain ⟨i0, hi, hz0, hz1, hz2⟩ := info_parts Tryd.info_byte
  exact wp_append_own _ s x 42 ho base 5 i0 (.int .u8 0) 1 1 Tryd.underlying42 hi hz0 hz1 hz2 rfl (by decide) v n xs hs hown ad m c (bvals L) hx (by rw [bvals_len, hm, Nat.mul_one]) hc (fun u hu => by
    unfold bvals at hu
    obtain ⟨x, _, rfl⟩ := List.mem_map.1 hu
    rfl) (by unfold maxLen; omega) (by omega) hbase (fun v' w' h1 h2 _ => h v' w' h1 h2)
theorem own_row1 {w : World} {Y : Nat} {x : UInt8} (hY : w.heap[Y]? = some (.cells (bcells [x]) 5 (0, 0))) : w.ownsRow Y 5 1 (.slice (some ⟨Y, 0, none⟩) 1 1) 1 (bvals [x]) :=
  ⟨rfl, .inr ⟨Y, 1, bcells [x], rfl, Nat.le_refl _, hY, Nat.le_refl _, by decide, rfl, rfl⟩⟩
set_option maxRecDepth 100000 in
set_option maxHeartbeats 2000000 in
theorem up_any (x y : List UInt8) (hx : x.length = 16) (hy : y.length = 16) (w : World) (env : DEnv w) :
    Calls Tryd.prog 8 #[.agg (bcells x), .agg (bcells y)] w fun e w' => e = .returned (.agg (bcells (jn x y))) ∧ Below w.heap.size w w' := by
  have hsho : ∀ (V : World) (v : Value) (b : Nat), Below w.heap.size w V → V.ownsRow b 5 1 v 33 (bvals (([1] ++ x) ++ y)) → Calls Tryd.prog 30 #[v] V fun e w' => e = .returned (.agg (bcells (jn x y))) ∧ Below V.heap.size V w' := fun V v b hb ho => by
    have e33 : (([1] ++ x) ++ y).length = 33 := by rw [List.length_append, List.length_append, hx, hy]; rfl
    rw [← e33] at ho
    obtain ⟨A, c, rfl, h1, h2, h3, h4⟩ := own_rd2 ho
    exact short_any _ A c (by rw [e33]; decide) h1 h2 V h4 (env.on hb)
  obtain ⟨F, hF⟩ : ∃ F, jn x y = F := ⟨_, rfl⟩
  have hF16 : F.length = 16 := by rw [← hF]; exact jn_len _ _
  rw [hF] at hsho ⊢
  have SH := Lib.hid hsho
  have HSZ := Lib.hid (sz16 F hF16)
  have hso : (16 : Nat) = (bcells F).size := by rw [bcells_size, hF16]
  have HSO := Lib.hid hso
  have HX16 := Lib.hid hx
  have HY16 := Lib.hid hy
  have s1 := slice_short
  clear hsho hF hF16 hso env hx hy
  go_enter Tryd.func8, Tryd.ntmps8
  go_upto_region 1 with (fail)
  generalize hV : World.alloc (World.alloc (World.alloc w _) _) _ = V
  have hb0 : Below w.heap.size w V := by rw [← hV]; exact below3 _ _ _ _
  have hr0 : V.heap[w.heap.size]? = some (.cells (bcells x) 23 (0, 0)) := by rw [← hV]; exact heap3_first _ _ _ _
  have hr1 : V.heap[w.heap.size + 1]? = some (.cells (bcells y) 23 (0, 0)) := by rw [← hV]; exact heap3_mid _ _ _ _
  have hr2 : V.heap[w.heap.size + 2]? = some (.cells (bcells (List.replicate 16 0)) 23 (0, 0)) := by rw [← hV]; exact (heap3_last _ _ _ _).trans rfl
  have HB0 := Lib.hid hb0
  have HR0 := Lib.hid hr0
  have HR1 := Lib.hid hr1
  have HR2 := Lib.hid hr2
  clear hV hb0 hr0 hr1 hr2
  refine wp_region_held_drew (S := fun _ => True) (by kernel_rfl) trivial (fun hHeld => ?_)
  obtain ⟨U, hU⟩ : ∃ U, V.drew = U := ⟨_, rfl⟩
  rw [hU]
  have hbU : Below V.heap.size V U := by rw [← hU]; exact (Below.refl _ _).drew
  have HBU := Lib.hid (chain HB0.out hbU)
  have HRa := Lib.hid (row_on HR0.out hbU)
  have HRb := Lib.hid (row_on HR1.out hbU)
  have HRc := Lib.hid (row_on HR2.out hbU)
  clear hU hHeld hbU HB0 HR0 HR1 HR2
  refine wpAnyH_take (i := 1) (oi := { dst := Option.some 6, op := Go.Op.slice 23 (Go.Operand.tmp 2) Option.none Option.none Option.none, type := 42, pos := "law.go:55", after := #[], guard := Option.none }) (v := ?_) rfl (by kernel_rfl) (by kernel_rfl) (by kernel_rfl) (fun _ _ _ h => h) (Or.inl ⟨by rfl, ?_⟩) trivial ?_
  rotate_left
  · intro w hSw
    clear hSw
    go_simp
    try with_reducible rfl
  try simp only [Act.put, List.setIfInBounds_toArray, List.set_cons_zero, List.set_cons_succ]
  refine wpAnyH_take (i := 3) (oi := { dst := Option.some 8, op := Go.Op.slice 23 (Go.Operand.tmp 3) Option.none Option.none Option.none, type := 42, pos := "law.go:55", after := #[], guard := Option.none }) (v := ?_) rfl (by kernel_rfl) (by kernel_rfl) (by kernel_rfl) (fun _ _ _ h => h) (Or.inl ⟨by rfl, ?_⟩) trivial ?_
  rotate_left
  · intro w hSw
    clear hSw
    go_simp
    try with_reducible rfl
  try simp only [Act.put, List.setIfInBounds_toArray, List.set_cons_zero, List.set_cons_succ]
  refine wpAnyH_ready (rs := [0]) (by kernel_rfl) (by simp) (AllReadyH.cons (o := { dst := Option.some 5, op := Go.Op.buildSlice 42 1 #[(0, Go.Operand.const (Go.Value.int Go.IntKind.u8 1))], type := 42, pos := "law.go:55", after := #[], guard := Option.none }) rfl (fun K hK => ?_) AllReadyH.nil)
  go_simp
  generalize hz : World.alloc U _ = z0
  have hr0 : z0.heap[U.heap.size]? = some (.cells (bcells [1]) 5 (0, 0)) := by rw [← hz]; exact heap_alloc_new _ _
  have hb0 : Below U.heap.size U z0 := by rw [← hz]; exact below_new _ _
  clear hz
  refine hK.out _ _ trivial (fun _ => ?_)
  clear hK K
  try simp only [Act.put, List.setIfInBounds_toArray, List.set_cons_zero, List.set_cons_succ]
  refine wpAnyH_ready (rs := [2]) (by kernel_rfl) (by simp) (AllReadyH.cons (o := { dst := Option.some 7, op := Go.Op.call { callee := Go.Callee.builtin Go.Builtin.append, args := #[Go.Operand.tmp 5, Go.Operand.tmp 6], argTypes := #[42, 42] }, type := 42, pos := "law.go:55", after := #[{ on := 0, ground := Go.Ground.data }, { on := 1, ground := Go.Ground.data }], guard := Option.none }) rfl (fun K hK => ?_) AllReadyH.nil)
  try rw [if_pos (by rfl)]
  refine wp_append_u87 (.tmp 5) (.tmp 6) rfl U.heap.size (.slice (some ⟨U.heap.size, 0, none⟩) 1 1) 1 (bvals [1]) rfl (own_row1 hr0) ⟨w.heap.size, 0, none⟩ 16 16 x rfl HX16.out (row_bvals (row_on HRa.out hb0)) (by omega) hb0.size ?_
  intro v1 z1 ho1 hg1
  have hb1 : Below U.heap.size U z1 := hb0.grown hg1 hb0.size (fun j hj => by have hj2 := Option.some.inj (show some U.heap.size = some j from hj); omega)
  refine hK.out _ _ trivial (fun _ => ?_)
  clear hK K
  try simp only [Act.put, List.setIfInBounds_toArray, List.set_cons_zero, List.set_cons_succ]
  refine wpAnyH_ready (rs := [4]) (by kernel_rfl) (by simp) (AllReadyH.cons (o := { dst := Option.some 9, op := Go.Op.call { callee := Go.Callee.builtin Go.Builtin.append, args := #[Go.Operand.tmp 7, Go.Operand.tmp 8], argTypes := #[42, 42] }, type := 42, pos := "law.go:55", after := #[{ on := 2, ground := Go.Ground.data }, { on := 3, ground := Go.Ground.data }, { on := 2, ground := Go.Ground.chain }], guard := Option.none }) rfl (fun K hK => ?_) AllReadyH.nil)
  try rw [if_pos (by rfl)]
  refine wp_append_u87 (.tmp 7) (.tmp 8) rfl U.heap.size v1 17 (bvals [1] ++ bvals x) rfl ho1 ⟨w.heap.size + 1, 0, none⟩ 16 16 y rfl HY16.out (row_bvals (row_on HRb.out hb1)) (by omega) hb1.size ?_
  intro v2 z2 ho2 hg2
  have hb2 : Below U.heap.size U z2 := hb1.grown hg2 hb1.size (fun j hj => (own_ge ho1 hj).1)
  refine hK.out _ _ trivial (fun _ => ?_)
  clear hK K
  try simp only [Act.put, List.setIfInBounds_toArray, List.set_cons_zero, List.set_cons_succ]
  refine wpAnyH_ready (rs := [5]) (by kernel_rfl) (by simp) (AllReadyH.cons (o := { dst := Option.some 10, op := Go.Op.call { callee := Go.Callee.value (Go.Operand.func 30), args := #[Go.Operand.tmp 9], argTypes := #[42] }, type := 23, pos := "law.go:55", after := #[{ on := 4, ground := Go.Ground.data }, { on := 4, ground := Go.Ground.chain }], guard := Option.none }) rfl (fun K hK => ?_) AllReadyH.nil)
  go_simp
  have ho3 : z2.ownsRow U.heap.size 5 1 v2 33 (bvals (([1] ++ x) ++ y)) := by rw [bvals_app, bvals_app]; exact ho2
  refine (SH.out z2 v2 U.heap.size (chain HBU.out hb2) ho3).mono ?_
  rintro e z3 ⟨rfl, hb3⟩
  have HB3 := Lib.hid (chain (chain HBU.out hb2) hb3)
  have HR3 := Lib.hid (row_on (row_on HRc.out hb2) hb3)
  go_simp
  refine hK.out _ _ trivial (fun _ => ?_)
  clear hK K
  try simp only [Act.put, List.setIfInBounds_toArray, List.set_cons_zero, List.set_cons_succ]
  refine wpAnyH_ready (rs := [6]) (by kernel_rfl) (by simp) (AllReadyH.cons (o := { dst := Option.none, op := Go.Op.store 23 (Go.Operand.tmp 4) (Go.Operand.tmp 10), type := 0, pos := "law.go:55", after := #[{ on := 5, ground := Go.Ground.data }, { on := 5, ground := Go.Ground.chain }, { on := 0, ground := Go.Ground.phase }, { on := 1, ground := Go.Ground.phase }, { on := 2, ground := Go.Ground.phase }, { on := 3, ground := Go.Ground.phase }, { on := 4, ground := Go.Ground.phase }, { on := 5, ground := Go.Ground.phase }], guard := Option.none }) rfl (fun K hK => ?_) AllReadyH.nil)
  try rw [if_pos (by rfl)]
  refine wp_store_mid 23 (.tmp 4) (.tmp 10) rfl (w.heap.size + 2) 0 (bcells F) rfl rfl (there_row HR3.out _ (by rw [← HSO.out, bcells_size]; exact Nat.le_refl _)) HSZ.out (bcells_one _) ?_
  have HR4 := Lib.hid (row_setCells HR3.out (cs := bcells F) (by rw [← HSO.out, bcells_size]; rfl))
  have HB4 := Lib.hid (below_setCells (bcells F).toList 0 _ HB3.out (show w.heap.size ≤ w.heap.size + 2 by omega))
  refine hK.out _ _ trivial (fun _ => ?_)
  clear hK K
  try simp only [Act.put, List.setIfInBounds_toArray, List.set_cons_zero, List.set_cons_succ]
  refine wpAnyH_done (by kernel_rfl) ?_ _
  generalize World.setCells _ _ _ _ = z5 at HR4 HB4 ⊢
  clear hb0 hb1 hb2 hb3 ho1 ho2 ho3 hg1 hg2 hr0
  go_wp2_with fail
  refine bodyPost_ret (v := .agg (bcells F)) (results_cell_row rfl _ _ (w.heap.size + 2) 23 _ (0, 0) _ rfl HR4.out Tryd.underlying23 rfl HSZ.out) rfl ⟨rfl, HB4.out⟩
set_option maxRecDepth 100000 in
set_option maxHeartbeats 2000000 in
theorem pub7_any (s : List UInt8) (hs : s.length = 16) (k : UInt8) (w : World) (env : DEnv w) :
    Calls Tryd.prog 9 #[.agg (bcells s), .int .u8 (k.toNat : Int)] w fun e w' => e = .returned (.agg (bcells (leaf s k.toNat))) ∧ Below w.heap.size w w' := by
  have hms : msd s k.toNat = sh (s ++ [k, 254, 0]) := by
    unfold msd
    rw [UInt8.ofNat_toNat]
  have hsho : ∀ (V : World) (v : Value) (b : Nat), Below w.heap.size w V → V.ownsRow b 5 1 v 19 (bvals (s ++ [k, 254, 0])) → Calls Tryd.prog 30 #[v] V fun e w' => e = .returned (.agg (bcells (msd s k.toNat))) ∧ Below V.heap.size V w' := fun V v b hb ho => by
    have e19 : (s ++ [k, 254, 0]).length = 19 := by rw [List.length_append, hs]; rfl
    rw [← e19] at ho
    obtain ⟨A, c, rfl, h1, h2, h3, h4⟩ := own_rd2 ho
    rw [hms]
    exact short_any _ A c (by rw [e19]; decide) h1 h2 V h4 (env.on hb)
  have hpu : ∀ V : World, Below w.heap.size w V → Calls Tryd.prog 31 #[.agg (bcells (msd s k.toNat))] V fun e w' => e = .returned (.agg (bcells (leaf s k.toNat))) ∧ Below V.heap.size V w' := fun V hb => public_any _ (msd_len _ _) V (env.on hb)
  have hF16 := leaf_len s k.toNat
  obtain ⟨M, hM⟩ : ∃ M, msd s k.toNat = M := ⟨_, rfl⟩
  obtain ⟨F, hF⟩ : ∃ F, leaf s k.toNat = F := ⟨_, rfl⟩
  rw [hM] at hsho hpu
  rw [hF] at hpu hF16 ⊢
  have SHO := Lib.hid hsho
  have PU := Lib.hid hpu
  have HSZ := Lib.hid (sz16 F hF16)
  have hso : (16 : Nat) = (bcells F).size := by rw [bcells_size, hF16]
  have HSO := Lib.hid hso
  have HS16 := Lib.hid hs
  have s1 := slice_short
  clear hms hsho hpu hM hF hF16 hso env hs
  go_enter Tryd.func9, Tryd.ntmps9
  go_upto_region 1 with (fail)
  generalize hV : World.alloc (World.alloc w _) _ = V2
  have HB0 : RowKit.Hid (Below w.heap.size w V2) := Lib.hid (by rw [← hV]; exact (below_new _ _).alloc (by simp) _)
  have HR0 : RowKit.Hid (V2.heap[w.heap.size]? = some (.cells (bcells s) 23 (0, 0))) := Lib.hid (by rw [← hV]; exact heap_alloc2_old _ _ _)
  have HR1 : RowKit.Hid (V2.heap[w.heap.size + 1]? = some (.cells (bcells (List.replicate 16 0)) 23 (0, 0))) := Lib.hid (by rw [← hV]; exact (heap_alloc2_new _ _ _).trans rfl)
  clear hV
  go_wp2_with (first | (at_builtin; refine append_src rfl (.tmp 5) (.tmp 6) rfl V2.heap.size _ 0 [] rfl (own_empty8 (heap_alloc_new V2 _) (Nat.le_refl _)) (some ⟨w.heap.size, 0, none⟩) s 16 16 HS16.out rfl (fun e => by cases e) (srcAt_row (row_on HR0.out (below_new _ _))) (by decide) (by rw [World.size_alloc]; omega) ?_; intro v1 w1 ho1 hg1; have HO1 : RowKit.Hid (w1.ownsRow V2.heap.size 5 1 v1 16 (bvals s)) := Lib.hid ho1; have HG1 := Lib.hid hg1; have hle1 : V2.heap.size ≤ w1.heap.size := (by have h := hg1.size; rw [World.size_alloc] at h; omega); clear ho1 hg1) | (at_builtin; go_loud (refine append_src rfl (.tmp 7) (.tmp 9) rfl V2.heap.size _ 16 (bvals s) rfl (HO1.out.alloc _) (some ⟨w1.heap.size, 0, none⟩) [k, 254, 0] 3 3 rfl rfl (fun e => by cases e) (srcAt_row (heap_alloc_new w1 _)) (by decide) (by rw [World.size_alloc]; omega) ?_); intro v2 w3 ho2 hg2; have HO2 := Lib.hid ho2; have HG2 := Lib.hid hg2; clear ho2 hg2))
  have hb1 : Below V2.heap.size V2 w1 := ((Below.refl _ _).alloc (Nat.le_refl _) _).grown HG1.out (by rw [World.size_alloc]; omega) (fun j hj => by have hj2 := Option.some.inj (show some V2.heap.size = some j from hj); omega)
  have hb3 : Below V2.heap.size V2 w3 := (hb1.alloc hb1.size _).grown HG2.out (by rw [World.size_alloc]; omega) (fun j hj => (own_ge HO1.out hj).1)
  have HR3 := Lib.hid (row_on HR1.out hb3)
  have HB3 := Lib.hid (chain HB0.out hb3)
  have hod : w3.ownsRow V2.heap.size 5 1 v2 19 (bvals (s ++ [k, 254, 0])) := by
    rw [bvals_app]
    exact HO2.out
  have HO3 := Lib.hid hod
  clear hb1 hb3 hod hle1 HO1 HG1 HO2 HG2 HR0 HR1 HB0
  refine (SHO.out _ _ _ HB3.out HO3.out).mono ?_
  rintro e w4 ⟨rfl, hb4⟩
  have HR4 := Lib.hid (row_on HR3.out hb4)
  have HB4 := Lib.hid (chain HB3.out hb4)
  clear hb4 HR3 HB3 HO3
  go_wp2_with fail
  refine (PU.out _ HB4.out).mono ?_
  rintro e w5 ⟨rfl, hb5⟩
  have HR5 := Lib.hid (row_on HR4.out hb5)
  have HB5 := Lib.hid (chain HB4.out hb5)
  clear hb5 HR4 HB4
  go_wp2_with (refine wpList_store_row rfl 23 (.tmp 4) (.tmp 12) rfl (w.heap.size + 1) (bcells F) rfl rfl 23 _ HR5.out HSZ.out HSO.out (bcells_one _) ?_)
  refine bodyPost_ret (v := .agg (bcells F)) (results_cell_row rfl _ _ (w.heap.size + 1) 23 _ (0, 0) _ rfl (setRow_heap _ _ _ _ _ _ HR5.out) Tryd.underlying23 rfl HSZ.out) rfl ⟨rfl, ?_⟩
  exact below_row HB5.out (by omega) _
end Go.Proofs.YtafolokkjpbieaaDoor
