import Derived.Test.YtcgffkkfeimifaaGreatDoorSgJP
import Derived.Deep.RegionHeld3
namespace Go.Proofs.YtcgffkkfeimifaaGreatDoor
namespace Sg
open Go.RowKit Sha Oc
set_option linter.unusedVariables false
set_option linter.unusedSimpArgs false
theorem three_els2 {V : World} {o1 o2 o3 : Oct} {x1 y1 x2 y2 x3 y3 : Value} {g : Nat} (h1 : At (fun _ => True) V o1 x1 y1) (h2 : At (fun _ => True) V o2 x2 y2) (h3 : At (fun _ => True) V o3 x3 y3) (hg : V.heap[g]? = some (.cells #[.int .u8 ((tagO o1).toNat : Int), x1, y1, .int .u8 ((tagO o2).toNat : Int), x2, y2, .int .u8 ((tagO o3).toNat : Int), x3, y3] 68 (0, 0))) :
  Els V (some ⟨g, 0, none⟩) [o1, o2, o3] g 0 (fun k => if k = 0 then x1 else if k = 1 then x2 else x3) (fun k => if k = 0 then y1 else if k = 1 then y2 else y3) := by
 have hc : ∀ j u, (#[.int .u8 ((tagO o1).toNat : Int), x1, y1, .int .u8 ((tagO o2).toNat : Int), x2, y2, .int .u8 ((tagO o3).toNat : Int), x3, y3] : Array Value)[j]? = some u → V.cell? ⟨g, j, none⟩ = some u := fun j u hj => by rw [cell_of_row _ _ _ _ _ _ hg]; exact hj
 refine ⟨fun _ => rfl, fun k o hk => ?_, fun k o hk => ?_, fun k o hk => ?_, fun k o hk => ?_⟩ <;> rcases k with _ | _ | _ | k
 all_goals first | (obtain rfl := Option.some.inj hk; exact hc _ _ rfl) | (obtain rfl := Option.some.inj hk; assumption) | (simp at hk)
set_option maxRecDepth 100000 in
set_option maxHeartbeats 1000000 in
theorem sig_val (n : Nat) (cs ps : List (List UInt8)) (CA PA : Option Addr) (cc pc : Nat) (hn : n < 1048576) (hl : cs.length ≤ 4000 ∧ ps.length ≤ 4000) (w : World) (h1 : Shs CA cs w) (h2 : Shs PA ps w) :
  Calls Tryz.prog 31 #[.agg #[.int .i64 (n : Int), .slice CA cs.length cc, .slice PA ps.length pc]] w (SnPost (.mk 131 [] [.mk 1 (nb n) [], .mk 2 cs.flatten [], .mk 3 ps.flatten []]) w) := by
 have HNU := Lib.hid (fun (V : World) (_ : Below w.heap.size w V) => num_any 1 n (Nat.lt_of_lt_of_le hn (by decide)) V)
 have HV2 := Lib.hid (fun (V : World) (hb : Below w.heap.size w V) => shorts_val 2 cs CA cc hl.1 V (h1.on hb))
 have HV3 := Lib.hid (fun (V : World) (hb : Below w.heap.size w V) => shorts_val 3 ps PA pc hl.2 V (h2.on hb))
 have HTOT : RowKit.Hid (∀ o ∈ ([.mk 1 (nb n) [], .mk 2 cs.flatten [], .mk 3 ps.flatten []] : List Oct), cnt o ≤ 5000 ∧ tot o ≤ 100000) := Lib.hid (by
  have g1 := flat_len cs h1.len
  have g2 := flat_len ps h2.len
  have g3 := nb_len 8 n (Nat.lt_of_lt_of_le hn (by decide))
  intro o ho
  simp only [List.mem_cons, List.not_mem_nil, or_false] at ho
  rcases ho with rfl | rfl | rfl <;> (rw [cnt, cnts, tot, tots]; omega))
 have hnI : (n : Int) < 1048576 := by omega
 have hwr : IntKind.u64.wrap (n : Int) = (n : Int) := by
  simp [IntKind.wrap, IntKind.bits, IntKind.signed]
  omega
 clear hn hl h1 h2
 go_enter Tryz.func31, Tryz.ntmps31
 go_upto_region 1 with (fail)
 generalize hV : World.alloc (World.alloc w _) _ = V
 have hb0 : Below w.heap.size w V := by rw [← hV]; exact (below_new _ _).alloc (by simp) _
 have hr0 : V.heap[w.heap.size]? = some (.cells #[.int .i64 (n : Int), .slice CA cs.length cc, .slice PA ps.length pc] 30 (0, 0)) := by rw [← hV]; exact heap_alloc2_old _ _ _
 have hr1 : V.heap[w.heap.size + 1]? = some (.cells #[.int .u8 0, .slice none 0 0, .slice none 0 0] 68 (0, 0)) := by rw [← hV]; exact (heap_alloc2_new _ _ _).trans rfl
 clear hV
 refine wp_region_held_drew (S := fun z => z.cell? ⟨w.heap.size, 0, none⟩ = some (.int .i64 (n : Int)) ∧ z.cell? ⟨w.heap.size, 1, none⟩ = some (.slice CA cs.length cc) ∧ z.cell? ⟨w.heap.size, 2, none⟩ = some (.slice PA ps.length pc)) (by kernel_rfl) (facts3 hr0).2 (fun hHeld => ?_)
 generalize hU : World.drew V = U at hHeld ⊢
 have hbU : Below V.heap.size V U := by rw [← hU]; exact (Below.refl _ _).drew
 clear hU
 have HWU := Lib.hid (chain hb0 hbU)
 have HSG := Lib.hid (row_on hr0 hbU)
 have HRR := Lib.hid (row_on hr1 hbU)
 have mkS : ∀ z, Below U.heap.size U z → (fun z => z.cell? ⟨w.heap.size, 0, none⟩ = some (.int .i64 (n : Int)) ∧ z.cell? ⟨w.heap.size, 1, none⟩ = some (.slice CA cs.length cc) ∧ z.cell? ⟨w.heap.size, 2, none⟩ = some (.slice PA ps.length pc)) z := fun z hz => (facts3 (row_on HSG.out hz)).2
 have HB_U := Lib.hid (Below.refl U.heap.size U)
 have NU := Lib.hid (fun (z : World) (hb : Below U.heap.size U z) => HNU.out z (chain HWU.out hb))
 have V2 := Lib.hid (fun (z : World) (hb : Below U.heap.size U z) => HV2.out z (chain HWU.out hb))
 have V3 := Lib.hid (fun (z : World) (hb : Below U.heap.size U z) => HV3.out z (chain HWU.out hb))
 clear hb0 hr0 hr1 hbU HNU HV2 HV3
 refine wpAnyH_take (i := 0) (oi := { dst := some 3, op := .fieldAddr 30 (.tmp 1) 0, type := 0, pos := "write.go:45", after := #[], guard := none }) (v := ?_) rfl (by kernel_rfl) (by kernel_rfl) (by kernel_rfl) (fun _ _ _ h => h) (Or.inl ⟨by rfl, ?_⟩) hHeld ?_
 rotate_left
 ·
  intro w hSw
  clear hSw
  go_simp
  try with_reducible rfl
 try simp only [Act.put, List.setIfInBounds_toArray, List.set_cons_zero, List.set_cons_succ]
 refine wpAnyH_take (i := 1) (oi := { dst := some 4, op := .load 3 (.tmp 3), type := 3, pos := "write.go:45", after := #[{ on := 0, ground := .data }], guard := none }) (v := ?_) rfl (by kernel_rfl) (by kernel_rfl) (by kernel_rfl) (fun _ _ _ h => h) (Or.inl ⟨by rfl, ?_⟩) hHeld ?_
 rotate_left
 ·
  intro w hSw
  have hfc0 := hSw.1
  clear hSw
  go_simp
  try with_reducible rfl
 try simp only [Act.put, List.setIfInBounds_toArray, List.set_cons_zero, List.set_cons_succ]
 refine wpAnyH_take (i := 2) (oi := { dst := some 5, op := .convert 3 23 (.tmp 4), type := 23, pos := "write.go:45", after := #[{ on := 1, ground := .data }], guard := none }) (v := ?_) rfl (by kernel_rfl) (by kernel_rfl) (by kernel_rfl) (fun _ _ _ h => h) (Or.inl ⟨by rfl, ?_⟩) hHeld ?_
 rotate_left
 ·
  intro w hSw
  clear hSw
  go_simp
  try with_reducible rfl
 try simp only [Act.put, List.setIfInBounds_toArray, List.set_cons_zero, List.set_cons_succ]
 refine wpAnyH_take (i := 4) (oi := { dst := some 7, op := .fieldAddr 30 (.tmp 1) 1, type := 0, pos := "write.go:45", after := #[], guard := none }) (v := ?_) rfl (by kernel_rfl) (by kernel_rfl) (by kernel_rfl) (fun _ _ _ h => h) (Or.inl ⟨by rfl, ?_⟩) hHeld ?_
 rotate_left
 ·
  intro w hSw
  clear hSw
  go_simp
  try with_reducible rfl
 try simp only [Act.put, List.setIfInBounds_toArray, List.set_cons_zero, List.set_cons_succ]
 refine wpAnyH_take (i := 5) (oi := { dst := some 8, op := .load 28 (.tmp 7), type := 28, pos := "write.go:45", after := #[{ on := 4, ground := .data }], guard := none }) (v := ?_) rfl (by kernel_rfl) (by kernel_rfl) (by kernel_rfl) (fun _ _ _ h => h) (Or.inl ⟨by rfl, ?_⟩) hHeld ?_
 rotate_left
 ·
  intro w hSw
  have hfc0 := hSw.2.1
  clear hSw
  go_simp
  try with_reducible rfl
 try simp only [Act.put, List.setIfInBounds_toArray, List.set_cons_zero, List.set_cons_succ]
 refine wpAnyH_take (i := 7) (oi := { dst := some 10, op := .fieldAddr 30 (.tmp 1) 2, type := 0, pos := "write.go:45", after := #[], guard := none }) (v := ?_) rfl (by kernel_rfl) (by kernel_rfl) (by kernel_rfl) (fun _ _ _ h => h) (Or.inl ⟨by rfl, ?_⟩) hHeld ?_
 rotate_left
 ·
  intro w hSw
  clear hSw
  go_simp
  try with_reducible rfl
 try simp only [Act.put, List.setIfInBounds_toArray, List.set_cons_zero, List.set_cons_succ]
 refine wpAnyH_take (i := 8) (oi := { dst := some 11, op := .load 28 (.tmp 10), type := 28, pos := "write.go:45", after := #[{ on := 7, ground := .data }], guard := none }) (v := ?_) rfl (by kernel_rfl) (by kernel_rfl) (by kernel_rfl) (fun _ _ _ h => h) (Or.inl ⟨by rfl, ?_⟩) hHeld ?_
 rotate_left
 ·
  intro w hSw
  have hfc0 := hSw.2.2
  clear hSw
  go_simp
  try with_reducible rfl
 try simp only [Act.put, List.setIfInBounds_toArray, List.set_cons_zero, List.set_cons_succ]
 refine wpAnyH_ready (rs := [3]) (by kernel_rfl) (by simp) (AllReadyH.cons (o := { dst := some 6, op := .call { callee := .value (.func 57), args := #[.const (.int .u8 1), .tmp 5], argTypes := #[5, 23] }, type := 68, pos := "write.go:45", after := #[{ on := 2, ground := .data }], guard := none }) rfl (fun K hK => ?_) AllReadyH.nil)
 go_simp
 refine (NU.out U HB_U.out).mono ?_
 rintro e z3 ⟨x1, y1, rfl, hat, hb⟩
 have HB_z3 := Lib.hid (chain HB_U.out hb)
 have HA_x1 := Lib.hid hat
 clear hat hb
 unfold cell3
 simp only [tagO]
 go_simp
 refine hK.out _ _ (mkS _ HB_z3.out) (fun hHeld2 => ?_)
 clear hK K hHeld
 have hHeld := hHeld2
 clear hHeld2
 try simp only [Act.put, List.setIfInBounds_toArray, List.set_cons_zero, List.set_cons_succ]
 refine wpAnyH_ready (rs := [6]) (by kernel_rfl) (by simp) (AllReadyH.cons (o := { dst := some 9, op := .call { callee := .value (.func 60), args := #[.const (.int .u8 2), .tmp 8], argTypes := #[5, 28] }, type := 68, pos := "write.go:45", after := #[{ on := 5, ground := .data }, { on := 3, ground := .chain }], guard := none }) rfl (fun K hK => ?_) AllReadyH.nil)
 go_simp
 refine (V2.out z3 HB_z3.out).mono ?_
 rintro e z6 ⟨x2, y2, rfl, hat, hb⟩
 have HB_z6 := Lib.hid (chain HB_z3.out hb)
 have HA_x2 := Lib.hid hat
 have HA_x1 := Lib.hid (HA_x1.out.on hb)
 clear hat hb
 unfold cell3
 simp only [tagO]
 go_simp
 refine hK.out _ _ (mkS _ HB_z6.out) (fun hHeld2 => ?_)
 clear hK K hHeld
 have hHeld := hHeld2
 clear hHeld2
 try simp only [Act.put, List.setIfInBounds_toArray, List.set_cons_zero, List.set_cons_succ]
 refine wpAnyH_ready (rs := [9]) (by kernel_rfl) (by simp) (AllReadyH.cons (o := { dst := some 12, op := .call { callee := .value (.func 60), args := #[.const (.int .u8 3), .tmp 11], argTypes := #[5, 28] }, type := 68, pos := "write.go:45", after := #[{ on := 8, ground := .data }, { on := 6, ground := .chain }], guard := none }) rfl (fun K hK => ?_) AllReadyH.nil)
 go_simp
 refine (V3.out z6 HB_z6.out).mono ?_
 rintro e z9 ⟨x3, y3, rfl, hat, hb⟩
 have HB_z9 := Lib.hid (chain HB_z6.out hb)
 have HA_x3 := Lib.hid hat
 have HA_x1 := Lib.hid (HA_x1.out.on hb)
 have HA_x2 := Lib.hid (HA_x2.out.on hb)
 clear hat hb
 unfold cell3
 simp only [tagO]
 go_simp
 refine hK.out _ _ (mkS _ HB_z9.out) (fun hHeld2 => ?_)
 clear hK K hHeld
 have hHeld := hHeld2
 clear hHeld2
 try simp only [Act.put, List.setIfInBounds_toArray, List.set_cons_zero, List.set_cons_succ]
 refine wpAnyH_ready (rs := [10]) (by kernel_rfl) (by simp) (AllReadyH.cons (o := { dst := some 13, op := .buildSlice 66 3 #[(0, .tmp 6), (1, .tmp 9), (2, .tmp 12)], type := 66, pos := "write.go:45", after := #[{ on := 3, ground := .data }, { on := 6, ground := .data }, { on := 9, ground := .data }], guard := none }) rfl (fun K hK => ?_) AllReadyH.nil)
 obtain ⟨A1, m1, k1, B1, n1, q1, rfl, rfl⟩ := HA_x1.out.slices
 obtain ⟨A2, m2, k2, B2, n2, q2, rfl, rfl⟩ := HA_x2.out.slices
 obtain ⟨A3, m3, k3, B3, n3, q3, rfl, rfl⟩ := HA_x3.out.slices
 go_simp
 generalize hV : World.alloc z9 _ = z10
 have hb : Below z9.heap.size z9 z10 := by rw [← hV]; exact below_new _ _
 have hr5 := Lib.hid (show z10.heap[z9.heap.size]? = some (.cells #[.int .u8 ((tagO (.mk 1 (nb n) [])).toNat : Int), .slice A1 m1 k1, .slice B1 n1 q1, .int .u8 ((tagO (.mk 2 cs.flatten [])).toNat : Int), .slice A2 m2 k2, .slice B2 n2 q2, .int .u8 ((tagO (.mk 3 ps.flatten [])).toNat : Int), .slice A3 m3 k3, .slice B3 n3 q3] 68 (0, 0)) by rw [← hV]; exact heap_alloc_new _ _)
 have HB_z10 := Lib.hid (chain HB_z9.out hb)
 have HELS := Lib.hid (three_els2 (HA_x1.out.on hb) (HA_x2.out.on hb) (HA_x3.out.on hb) hr5.out)
 clear hV hb hr5
 refine hK.out _ _ (mkS _ HB_z10.out) (fun hHeld2 => ?_)
 clear hK K hHeld
 have hHeld := hHeld2
 clear hHeld2
 try simp only [Act.put, List.setIfInBounds_toArray, List.set_cons_zero, List.set_cons_succ]
 refine wpAnyH_ready (rs := [11]) (by kernel_rfl) (by simp) (AllReadyH.cons (o := { dst := some 14, op := .call { callee := .value (.func 29), args := #[.const (.int .u8 131), .tmp 13], argTypes := #[5, 66] }, type := 68, pos := "write.go:45", after := #[{ on := 10, ground := .data }, { on := 9, ground := .chain }], guard := none }) rfl (fun K hK => ?_) AllReadyH.nil)
 go_simp
 refine (seq_any 131 [.mk 1 (nb n) [], .mk 2 cs.flatten [], .mk 3 ps.flatten []] (show 3 ≤ 5000 by decide) HTOT.out _ 3 _ _ _ _ z10 HELS.out).mono ?_
 rintro e z11 ⟨x4, y4, rfl, hat, hb⟩
 have HB_z11 := Lib.hid (chain HB_z10.out hb)
 have HSZ11 : RowKit.Hid (w.heap.size + 1 < z10.heap.size) := Lib.hid (by have h1 := (Array.getElem?_eq_some_iff.1 HRR.out).1; have h2 := HB_z10.out.size; omega)
 have HAT := Lib.hid hat
 obtain ⟨A4, m4, k4, B4, n4, q4, rfl, rfl⟩ := hat.slices
 clear hat hb HELS
 unfold cell3
 simp only [tagO]
 go_simp
 refine hK.out _ _ (mkS _ HB_z11.out) (fun hHeld2 => ?_)
 clear hK K hHeld
 have hHeld := hHeld2
 clear hHeld2
 try simp only [Act.put, List.setIfInBounds_toArray, List.set_cons_zero, List.set_cons_succ]
 refine wpAnyH_ready (rs := [12]) (by kernel_rfl) (by simp) (AllReadyH.cons (o := { dst := none, op := .store 68 (.tmp 2) (.tmp 14), type := 0, pos := "write.go:45", after := #[{ on := 11, ground := .data }, { on := 11, ground := .chain }, { on := 0, ground := .phase }, { on := 1, ground := .phase }, { on := 2, ground := .phase }, { on := 3, ground := .phase }, { on := 4, ground := .phase }, { on := 5, ground := .phase }, { on := 6, ground := .phase }, { on := 7, ground := .phase }, { on := 8, ground := .phase }, { on := 9, ground := .phase }, { on := 10, ground := .phase }, { on := 11, ground := .phase }], guard := none }) rfl (fun K hK => ?_) AllReadyH.nil)
 try rw [if_pos (by rfl)]
 have HR3 := Lib.hid (row_on HRR.out HB_z11.out)
 refine wp_store_mid 68 (.tmp 2) (.tmp 14) rfl (w.heap.size + 1) 0 #[.int .u8 131, .slice A4 m4 k4, .slice B4 n4 q4] rfl rfl (there_row HR3.out 3 (show 3 ≤ 3 by decide)) (sz3o _ _ _) (one3 _ _ _ rfl rfl rfl) ?_
 have HOO := Lib.hid (fun (b : Nat) (hb : b ≠ w.heap.size + 1) => heap_setCells_other [.int .u8 131, .slice A4 m4 k4, .slice B4 n4 q4] 0 z11 hb)
 have HR4 := Lib.hid (row_setCells HR3.out (cs := #[.int .u8 131, .slice A4 m4 k4, .slice B4 n4 q4]) rfl)
 have HB4 := Lib.hid (below_setCells [.int .u8 131, .slice A4 m4 k4, .slice B4 n4 q4] 0 z11 (chain HWU.out HB_z11.out) (show w.heap.size ≤ w.heap.size + 1 by omega))
 refine hK.out _ _ (facts3 ((HOO.out w.heap.size (by omega)).trans (row_on HSG.out HB_z11.out))).2 (fun hHeld2 => ?_)
 clear hK K hHeld hHeld2
 try simp only [Act.put, List.setIfInBounds_toArray, List.set_cons_zero, List.set_cons_succ]
 refine wpAnyH_done (by kernel_rfl) ?_ _
 generalize World.setCells z11 _ _ _ = z9 at HR4 HB4 HOO ⊢
 clear mkS
 go_wp2_with fail
 refine bodyPost_ret (v := .agg #[.int .u8 131, .slice A4 m4 k4, .slice B4 n4 q4]) (results_cell_row rfl _ _ (w.heap.size + 1) 68 _ (0, 0) _ rfl HR4.out Tryz.underlying68 rfl (sz3o _ _ _)) rfl ⟨_, _, rfl, HAT.out.to (fun g p u hc hR => ⟨?_, trivial⟩), HB4.out⟩
 have h1 := hR.1
 have h2 := HSZ11.out
 simp only [World.cell?] at hc ⊢
 rw [HOO.out g (by omega)]
 exact hc

end Sg
end Go.Proofs.YtcgffkkfeimifaaGreatDoor
