import Derived.Test.YtcgffkkfeimifaaGreatDoorRvB
import Derived.Test.YtcgffkkfeimifaaGreatDoorRvM
import Derived.Test.YtcgffkkfeimifaaGreatDoorSgQ
import Derived.Deep.RegionHeld3
namespace Go.Proofs.YtcgffkkfeimifaaGreatDoor
namespace Sg
open Go.RowKit Sha Oc
set_option linter.unusedVariables false
set_option linter.unusedSimpArgs false
theorem five_els2 {V : World} {o1 o2 o3 o4 o5 : Oct} {x1 y1 x2 y2 x3 y3 x4 y4 x5 y5 : Value} {g : Nat} (h1 : At (fun _ => True) V o1 x1 y1) (h2 : At (fun _ => True) V o2 x2 y2) (h3 : At (fun _ => True) V o3 x3 y3) (h4 : At (fun _ => True) V o4 x4 y4) (h5 : At (fun _ => True) V o5 x5 y5) (hg : V.heap[g]? = some (.cells #[.int .u8 ((tagO o1).toNat : Int), x1, y1, .int .u8 ((tagO o2).toNat : Int), x2, y2, .int .u8 ((tagO o3).toNat : Int), x3, y3, .int .u8 ((tagO o4).toNat : Int), x4, y4, .int .u8 ((tagO o5).toNat : Int), x5, y5] 68 (0, 0))) :
  Els V (some ⟨g, 0, none⟩) [o1, o2, o3, o4, o5] g 0 (fun k => if k = 0 then x1 else if k = 1 then x2 else if k = 2 then x3 else if k = 3 then x4 else x5) (fun k => if k = 0 then y1 else if k = 1 then y2 else if k = 2 then y3 else if k = 3 then y4 else y5) := by
 have hc : ∀ j u, (#[.int .u8 ((tagO o1).toNat : Int), x1, y1, .int .u8 ((tagO o2).toNat : Int), x2, y2, .int .u8 ((tagO o3).toNat : Int), x3, y3, .int .u8 ((tagO o4).toNat : Int), x4, y4, .int .u8 ((tagO o5).toNat : Int), x5, y5] : Array Value)[j]? = some u → V.cell? ⟨g, j, none⟩ = some u := fun j u hj => by rw [cell_of_row _ _ _ _ _ _ hg]; exact hj
 refine ⟨fun _ => rfl, fun k o hk => ?_, fun k o hk => ?_, fun k o hk => ?_, fun k o hk => ?_⟩ <;> rcases k with _ | _ | _ | _ | _ | k
 all_goals first | (obtain rfl := Option.some.inj hk; exact hc _ _ rfl) | (obtain rfl := Option.some.inj hk; assumption) | (simp at hk)
theorem five8 {V : World} {M : Nat} {a b c d e f g h : Value} {T : TypeId} (H : V.heap[M]? = some (.cells #[a, b, c, d, e, f, g, h] T (0, 0))) : V.cell? ⟨M, 0, none⟩ = some a ∧ V.cell? ⟨M, 1, none⟩ = some b ∧ V.cell? ⟨M, 2, none⟩ = some c ∧ V.cell? ⟨M, 3, none⟩ = some d ∧ V.cell? ⟨M, 4, none⟩ = some e := by
 have h := facts8 H
 exact ⟨h.2.1, h.2.2.1, h.2.2.2.1, h.2.2.2.2.1, h.2.2.2.2.2.1⟩
theorem n5i_small (x : Int) (h0 : 0 ≤ x) (h1 : x < 18446744073709551616) : cnt (n5i x) ≤ 1 ∧ tot (n5i x) ≤ 8 := by
 have hp : (256 : Nat) ^ 8 = 18446744073709551616 := by decide
 have h2 := Oc.nb_len 8 x.toNat (by omega)
 show cnt (.mk 5 (nb x.toNat) []) ≤ 1 ∧ tot (.mk 5 (nb x.toNat) []) ≤ 8
 rw [cnt, cnts, tot, tots]
 omega
theorem n5is_small : ∀ xs : List Int, (∀ x ∈ xs, 0 ≤ x ∧ x < 18446744073709551616) → cnts (xs.map n5i) ≤ xs.length ∧ tots (xs.map n5i) ≤ 8 * xs.length
 | [], _ => by rw [List.map_nil, cnts, tots]; exact ⟨Nat.le_refl _, Nat.le_refl _⟩
 | x :: r, h => by
  have h1 := n5is_small r (fun y hy => h y (List.mem_cons_of_mem _ hy))
  have h2 := n5i_small x (h x (List.mem_cons_self ..)).1 (h x (List.mem_cons_self ..)).2
  rw [List.map_cons, cnts, tots, List.length_cons]
  omega
set_option maxRecDepth 100000 in
set_option maxHeartbeats 4000000 in
theorem body_of (iss : ByteArray) (a b c : Nat) (ser : List Int) (SA : Option Addr) (sc : Nat) (v5 v6 v7 : Value) (hi : iss.size ≤ 70000) (ha : a < 18446744073709551616) (hb : b < 1000000000000000) (hc : c < 1000000000000000) (hl : ser.length ≤ 500) (hu : ∀ x ∈ ser, 0 ≤ x ∧ x < 18446744073709551616) (w : World) (h1 : Nums SA ser w) :
  Calls Tryz.prog 30 #[.agg #[.string iss, .int .u64 (a : Int), .int .i64 (b : Int), .int .i64 (c : Int), .slice SA ser.length sc, v5, v6, v7]] w (SnPost (.mk 134 [] [(.mk 1 iss.data.toList []), (.mk 2 (nb a) []), (.mk 3 (nb b) []), (.mk 4 (nb c) []), (.mk 129 [] (ser.map n5i))]) w) := by
 have hp : (256 : Nat) ^ 8 = 18446744073709551616 := by decide
 have HC1 := Lib.hid (fun (V : World) (_ : Below w.heap.size w V) => str_any 1 iss hi V)
 have HC2 := Lib.hid (fun (V : World) (_ : Below w.heap.size w V) => num_any 2 a (by omega) V)
 have HC3 := Lib.hid (fun (V : World) (_ : Below w.heap.size w V) => num_any 3 b (by omega) V)
 have HC4 := Lib.hid (fun (V : World) (_ : Below w.heap.size w V) => num_any 4 c (by omega) V)
 have HC5 := Lib.hid (fun (V : World) (hb : Below w.heap.size w V) (X : Nat) (hX : V.heap[X]? = some (.cells #[.slice SA ser.length sc] 22 (0, 0))) => sercol_any ser SA sc (by omega) hu w h1 V hb X hX)
 have HC6 := Lib.hid (fun (V : World) (v : Value) (ts : List Tr) (hts : ts.map (·.1) = ser.map n5i) (W : World) (hown : V.ownsRow W.heap.size 68 3 v ts.length (rowT ts)) (hels : ∀ t ∈ ts, At (RwT 5 w.heap.size V) V t.1 t.2.1 t.2.2) (hz : w.heap.size ≤ W.heap.size) => by
  have hlen : ts.length = ser.length := by
   have h := congrArg List.length hts
   rw [List.length_map, List.length_map] at h
   exact h
  have h := seq_rows 129 hown hels hz (by omega) (by
   rw [hts]
   intro o ho
   obtain ⟨x, hx, rfl⟩ := List.mem_map.1 ho
   have := n5i_small x (hu x hx).1 (hu x hx).2
   omega)
  rw [hts] at h
  exact (show Calls Tryz.prog 29 #[.int .u8 129, v] V (TwPost (.mk 129 [] (ser.map n5i)) V) from h))
 have HTOT : RowKit.Hid (∀ o ∈ ([(.mk 1 iss.data.toList []), (.mk 2 (nb a) []), (.mk 3 (nb b) []), (.mk 4 (nb c) []), (.mk 129 [] (ser.map n5i))] : List Oct), cnt o ≤ 5000 ∧ tot o ≤ 100000) := Lib.hid (by
  have g2 := Oc.nb_len 8 a (by omega)
  have g3 := Oc.nb_len 8 b (by omega)
  have g4 := Oc.nb_len 8 c (by omega)
  have g5 := n5is_small ser hu
  have g6 : iss.data.toList.length = iss.size := by rw [Array.length_toList]; rfl
  intro o ho
  simp only [List.mem_cons, List.not_mem_nil, or_false] at ho
  rcases ho with rfl | rfl | rfl | rfl | rfl <;> first | (rw [cnt, cnts, tot, tots]; omega) | (rw [cnt, tot, List.length_nil]; omega))
 have hbI : (b : Int) < 1000000000000000 := by omega
 have hcI : (c : Int) < 1000000000000000 := by omega
 have hwb : IntKind.u64.wrap (b : Int) = (b : Int) := by
  simp [IntKind.wrap, IntKind.bits, IntKind.signed]
  omega
 have hwc : IntKind.u64.wrap (c : Int) = (c : Int) := by
  simp [IntKind.wrap, IntKind.bits, IntKind.signed]
  omega
 clear hi ha hb hc hl hu h1 hp
 go_enter Tryz.func30, Tryz.ntmps30
 go_upto_region 1 with (fail)
 generalize hV : World.alloc (World.alloc w _) _ = V
 have hb0 : Below w.heap.size w V := by rw [← hV]; exact (below_new _ _).alloc (by simp) _
 have hr0 : V.heap[w.heap.size]? = some (.cells #[.string iss, .int .u64 (a : Int), .int .i64 (b : Int), .int .i64 (c : Int), .slice SA ser.length sc, v5, v6, v7] 32 (0, 0)) := by rw [← hV]; exact heap_alloc2_old _ _ _
 have hr1 : V.heap[w.heap.size + 1]? = some (.cells #[.int .u8 0, .slice none 0 0, .slice none 0 0] 68 (0, 0)) := by rw [← hV]; exact (heap_alloc2_new _ _ _).trans rfl
 clear hV
 refine wp_region_held_drew (S := fun z => z.cell? ⟨w.heap.size, 0, none⟩ = some (.string iss) ∧ z.cell? ⟨w.heap.size, 1, none⟩ = some (.int .u64 (a : Int)) ∧ z.cell? ⟨w.heap.size, 2, none⟩ = some (.int .i64 (b : Int)) ∧ z.cell? ⟨w.heap.size, 3, none⟩ = some (.int .i64 (c : Int)) ∧ z.cell? ⟨w.heap.size, 4, none⟩ = some (.slice SA ser.length sc)) (by kernel_rfl) (five8 hr0) (fun hHeld => ?_)
 generalize hU : World.drew V = U at hHeld ⊢
 have hbU : Below V.heap.size V U := by rw [← hU]; exact (Below.refl _ _).drew
 clear hU
 have HWU := Lib.hid (chain hb0 hbU)
 have HSG := Lib.hid (row_on hr0 hbU)
 have HRR := Lib.hid (row_on hr1 hbU)
 have mkS : ∀ z, Below U.heap.size U z → (fun z => z.cell? ⟨w.heap.size, 0, none⟩ = some (.string iss) ∧ z.cell? ⟨w.heap.size, 1, none⟩ = some (.int .u64 (a : Int)) ∧ z.cell? ⟨w.heap.size, 2, none⟩ = some (.int .i64 (b : Int)) ∧ z.cell? ⟨w.heap.size, 3, none⟩ = some (.int .i64 (c : Int)) ∧ z.cell? ⟨w.heap.size, 4, none⟩ = some (.slice SA ser.length sc)) z := fun z hz => five8 (row_on HSG.out hz)
 have HB_U := Lib.hid (Below.refl U.heap.size U)
 have C1 := Lib.hid (fun (z : World) (hb : Below U.heap.size U z) => HC1.out z (chain HWU.out hb))
 have C2 := Lib.hid (fun (z : World) (hb : Below U.heap.size U z) => HC2.out z (chain HWU.out hb))
 have C3 := Lib.hid (fun (z : World) (hb : Below U.heap.size U z) => HC3.out z (chain HWU.out hb))
 have C4 := Lib.hid (fun (z : World) (hb : Below U.heap.size U z) => HC4.out z (chain HWU.out hb))
 have C5 := Lib.hid (fun (z : World) (hb : Below U.heap.size U z) (X : Nat) (hX : z.heap[X]? = some (.cells #[.slice SA ser.length sc] 22 (0, 0))) => HC5.out z (chain HWU.out hb) X hX)
 have C6 := Lib.hid (fun (z : World) (v : Value) (ts : List Tr) (hts : ts.map (·.1) = ser.map n5i) {W : World} (hown : z.ownsRow W.heap.size 68 3 v ts.length (rowT ts)) (hels : ∀ t ∈ ts, At (RwT 5 w.heap.size z) z t.1 t.2.1 t.2.2) (hz : U.heap.size ≤ W.heap.size) => HC6.out z v ts hts W hown hels (Nat.le_trans HWU.out.size hz))
 clear hb0 hr0 hr1 hbU HC1 HC2 HC3 HC4 HC5 HC6
 refine wpAnyH_take (i := 0) (oi := { dst := some 3, op := .fieldAddr 32 (.tmp 1) 0, type := 0, pos := "write.go:24", after := #[], guard := none }) (v := ?_) rfl (by kernel_rfl) (by kernel_rfl) (by kernel_rfl) (fun _ _ _ h => h) (Or.inl ⟨by rfl, ?_⟩) hHeld ?_
 rotate_left
 ·
  intro w hSw
  clear hSw
  go_simp
  try with_reducible rfl
 try simp only [Act.put, List.setIfInBounds_toArray, List.set_cons_zero, List.set_cons_succ]
 refine wpAnyH_take (i := 1) (oi := { dst := some 4, op := .load 9 (.tmp 3), type := 9, pos := "write.go:24", after := #[{ on := 0, ground := .data }], guard := none }) (v := ?_) rfl (by kernel_rfl) (by kernel_rfl) (by kernel_rfl) (fun _ _ _ h => h) (Or.inl ⟨by rfl, ?_⟩) hHeld ?_
 rotate_left
 ·
  intro w hSw
  have hfc0 := hSw.1
  clear hSw
  go_simp
  try with_reducible rfl
 try simp only [Act.put, List.setIfInBounds_toArray, List.set_cons_zero, List.set_cons_succ]
 refine wpAnyH_take (i := 3) (oi := { dst := some 6, op := .fieldAddr 32 (.tmp 1) 1, type := 0, pos := "write.go:24", after := #[], guard := none }) (v := ?_) rfl (by kernel_rfl) (by kernel_rfl) (by kernel_rfl) (fun _ _ _ h => h) (Or.inl ⟨by rfl, ?_⟩) hHeld ?_
 rotate_left
 ·
  intro w hSw
  clear hSw
  go_simp
  try with_reducible rfl
 try simp only [Act.put, List.setIfInBounds_toArray, List.set_cons_zero, List.set_cons_succ]
 refine wpAnyH_take (i := 4) (oi := { dst := some 7, op := .load 23 (.tmp 6), type := 23, pos := "write.go:24", after := #[{ on := 3, ground := .data }], guard := none }) (v := ?_) rfl (by kernel_rfl) (by kernel_rfl) (by kernel_rfl) (fun _ _ _ h => h) (Or.inl ⟨by rfl, ?_⟩) hHeld ?_
 rotate_left
 ·
  intro w hSw
  have hfc0 := hSw.2.1
  clear hSw
  go_simp
  try with_reducible rfl
 try simp only [Act.put, List.setIfInBounds_toArray, List.set_cons_zero, List.set_cons_succ]
 refine wpAnyH_take (i := 6) (oi := { dst := some 9, op := .fieldAddr 32 (.tmp 1) 2, type := 0, pos := "write.go:24", after := #[], guard := none }) (v := ?_) rfl (by kernel_rfl) (by kernel_rfl) (by kernel_rfl) (fun _ _ _ h => h) (Or.inl ⟨by rfl, ?_⟩) hHeld ?_
 rotate_left
 ·
  intro w hSw
  clear hSw
  go_simp
  try with_reducible rfl
 try simp only [Act.put, List.setIfInBounds_toArray, List.set_cons_zero, List.set_cons_succ]
 refine wpAnyH_take (i := 7) (oi := { dst := some 10, op := .fieldAddr 27 (.tmp 9) 0, type := 0, pos := "write.go:24", after := #[{ on := 6, ground := .data }], guard := none }) (v := ?_) rfl (by kernel_rfl) (by kernel_rfl) (by kernel_rfl) (fun _ _ _ h => h) (Or.inl ⟨by rfl, ?_⟩) hHeld ?_
 rotate_left
 ·
  intro w hSw
  clear hSw
  go_simp
  try with_reducible rfl
 try simp only [Act.put, List.setIfInBounds_toArray, List.set_cons_zero, List.set_cons_succ]
 refine wpAnyH_take (i := 8) (oi := { dst := some 11, op := .load 2 (.tmp 10), type := 2, pos := "write.go:24", after := #[{ on := 7, ground := .data }], guard := none }) (v := ?_) rfl (by kernel_rfl) (by kernel_rfl) (by kernel_rfl) (fun _ _ _ h => h) (Or.inl ⟨by rfl, ?_⟩) hHeld ?_
 rotate_left
 ·
  intro w hSw
  have hfc0 := hSw.2.2.1
  clear hSw
  go_simp
  try with_reducible rfl
 try simp only [Act.put, List.setIfInBounds_toArray, List.set_cons_zero, List.set_cons_succ]
 refine wpAnyH_take (i := 9) (oi := { dst := some 12, op := .convert 2 23 (.tmp 11), type := 23, pos := "write.go:24", after := #[{ on := 8, ground := .data }], guard := none }) (v := ?_) rfl (by kernel_rfl) (by kernel_rfl) (by kernel_rfl) (fun _ _ _ h => h) (Or.inl ⟨by rfl, ?_⟩) hHeld ?_
 rotate_left
 ·
  intro w hSw
  clear hSw
  go_simp
  try with_reducible rfl
 try simp only [Act.put, List.setIfInBounds_toArray, List.set_cons_zero, List.set_cons_succ]
 refine wpAnyH_take (i := 11) (oi := { dst := some 14, op := .fieldAddr 32 (.tmp 1) 2, type := 0, pos := "write.go:24", after := #[], guard := none }) (v := ?_) rfl (by kernel_rfl) (by kernel_rfl) (by kernel_rfl) (fun _ _ _ h => h) (Or.inl ⟨by rfl, ?_⟩) hHeld ?_
 rotate_left
 ·
  intro w hSw
  clear hSw
  go_simp
  try with_reducible rfl
 try simp only [Act.put, List.setIfInBounds_toArray, List.set_cons_zero, List.set_cons_succ]
 refine wpAnyH_take (i := 12) (oi := { dst := some 15, op := .fieldAddr 27 (.tmp 14) 1, type := 0, pos := "write.go:24", after := #[{ on := 11, ground := .data }], guard := none }) (v := ?_) rfl (by kernel_rfl) (by kernel_rfl) (by kernel_rfl) (fun _ _ _ h => h) (Or.inl ⟨by rfl, ?_⟩) hHeld ?_
 rotate_left
 ·
  intro w hSw
  clear hSw
  go_simp
  try with_reducible rfl
 try simp only [Act.put, List.setIfInBounds_toArray, List.set_cons_zero, List.set_cons_succ]
 refine wpAnyH_take (i := 13) (oi := { dst := some 16, op := .load 2 (.tmp 15), type := 2, pos := "write.go:24", after := #[{ on := 12, ground := .data }], guard := none }) (v := ?_) rfl (by kernel_rfl) (by kernel_rfl) (by kernel_rfl) (fun _ _ _ h => h) (Or.inl ⟨by rfl, ?_⟩) hHeld ?_
 rotate_left
 ·
  intro w hSw
  have hfc0 := hSw.2.2.2.1
  clear hSw
  go_simp
  try with_reducible rfl
 try simp only [Act.put, List.setIfInBounds_toArray, List.set_cons_zero, List.set_cons_succ]
 refine wpAnyH_take (i := 14) (oi := { dst := some 17, op := .convert 2 23 (.tmp 16), type := 23, pos := "write.go:24", after := #[{ on := 13, ground := .data }], guard := none }) (v := ?_) rfl (by kernel_rfl) (by kernel_rfl) (by kernel_rfl) (fun _ _ _ h => h) (Or.inl ⟨by rfl, ?_⟩) hHeld ?_
 rotate_left
 ·
  intro w hSw
  clear hSw
  go_simp
  try with_reducible rfl
 try simp only [Act.put, List.setIfInBounds_toArray, List.set_cons_zero, List.set_cons_succ]
 refine wpAnyH_take (i := 16) (oi := { dst := some 19, op := .fieldAddr 32 (.tmp 1) 3, type := 0, pos := "write.go:24", after := #[], guard := none }) (v := ?_) rfl (by kernel_rfl) (by kernel_rfl) (by kernel_rfl) (fun _ _ _ h => h) (Or.inl ⟨by rfl, ?_⟩) hHeld ?_
 rotate_left
 ·
  intro w hSw
  clear hSw
  go_simp
  try with_reducible rfl
 try simp only [Act.put, List.setIfInBounds_toArray, List.set_cons_zero, List.set_cons_succ]
 refine wpAnyH_take (i := 17) (oi := { dst := some 20, op := .load 22 (.tmp 19), type := 22, pos := "write.go:24", after := #[{ on := 16, ground := .data }], guard := none }) (v := ?_) rfl (by kernel_rfl) (by kernel_rfl) (by kernel_rfl) (fun _ _ _ h => h) (Or.inl ⟨by rfl, ?_⟩) hHeld ?_
 rotate_left
 ·
  intro w hSw
  have hfc0 := hSw.2.2.2.2
  clear hSw
  go_simp
  try with_reducible rfl
 try simp only [Act.put, List.setIfInBounds_toArray, List.set_cons_zero, List.set_cons_succ]
 refine wpAnyH_ready (rs := [2]) (by kernel_rfl) (by simp) (AllReadyH.cons (o := { dst := some 5, op := .call { callee := .value (.func 56), args := #[.const (.int .u8 1), .tmp 4], argTypes := #[5, 9] }, type := 68, pos := "write.go:25", after := #[{ on := 1, ground := .data }], guard := none }) rfl (fun K hK => ?_) AllReadyH.nil)
 go_simp
 refine (C1.out U HB_U.out).mono ?_
 rintro e z2 ⟨x1, y1, rfl, hat, hb⟩
 have HB_z2 := Lib.hid (chain HB_U.out hb)
 have HA_x1 := Lib.hid hat
 clear hat hb
 unfold cell3
 simp only [tagO]
 go_simp
 refine hK.out _ _ (mkS _ HB_z2.out) (fun hHeld2 => ?_)
 clear hK K hHeld
 have hHeld := hHeld2
 clear hHeld2
 try simp only [Act.put, List.setIfInBounds_toArray, List.set_cons_zero, List.set_cons_succ]
 refine wpAnyH_ready (rs := [5]) (by kernel_rfl) (by simp) (AllReadyH.cons (o := { dst := some 8, op := .call { callee := .value (.func 57), args := #[.const (.int .u8 2), .tmp 7], argTypes := #[5, 23] }, type := 68, pos := "write.go:26", after := #[{ on := 4, ground := .data }, { on := 2, ground := .chain }], guard := none }) rfl (fun K hK => ?_) AllReadyH.nil)
 go_simp
 refine (C2.out z2 HB_z2.out).mono ?_
 rintro e z5 ⟨x2, y2, rfl, hat, hb⟩
 have HB_z5 := Lib.hid (chain HB_z2.out hb)
 have HA_x2 := Lib.hid hat
 have HA_x1 := Lib.hid (HA_x1.out.on hb)
 clear hat hb
 unfold cell3
 simp only [tagO]
 go_simp
 refine hK.out _ _ (mkS _ HB_z5.out) (fun hHeld2 => ?_)
 clear hK K hHeld
 have hHeld := hHeld2
 clear hHeld2
 try simp only [Act.put, List.setIfInBounds_toArray, List.set_cons_zero, List.set_cons_succ]
 refine wpAnyH_ready (rs := [10]) (by kernel_rfl) (by simp) (AllReadyH.cons (o := { dst := some 13, op := .call { callee := .value (.func 57), args := #[.const (.int .u8 3), .tmp 12], argTypes := #[5, 23] }, type := 68, pos := "write.go:27", after := #[{ on := 9, ground := .data }, { on := 5, ground := .chain }], guard := none }) rfl (fun K hK => ?_) AllReadyH.nil)
 go_simp
 refine (C3.out z5 HB_z5.out).mono ?_
 rintro e z10 ⟨x3, y3, rfl, hat, hb⟩
 have HB_z10 := Lib.hid (chain HB_z5.out hb)
 have HA_x3 := Lib.hid hat
 have HA_x1 := Lib.hid (HA_x1.out.on hb)
 have HA_x2 := Lib.hid (HA_x2.out.on hb)
 clear hat hb
 unfold cell3
 simp only [tagO]
 go_simp
 refine hK.out _ _ (mkS _ HB_z10.out) (fun hHeld2 => ?_)
 clear hK K hHeld
 have hHeld := hHeld2
 clear hHeld2
 try simp only [Act.put, List.setIfInBounds_toArray, List.set_cons_zero, List.set_cons_succ]
 refine wpAnyH_ready (rs := [15]) (by kernel_rfl) (by simp) (AllReadyH.cons (o := { dst := some 18, op := .call { callee := .value (.func 57), args := #[.const (.int .u8 4), .tmp 17], argTypes := #[5, 23] }, type := 68, pos := "write.go:28", after := #[{ on := 14, ground := .data }, { on := 10, ground := .chain }], guard := none }) rfl (fun K hK => ?_) AllReadyH.nil)
 go_simp
 refine (C4.out z10 HB_z10.out).mono ?_
 rintro e z15 ⟨x4, y4, rfl, hat, hb⟩
 have HB_z15 := Lib.hid (chain HB_z10.out hb)
 have HA_x4 := Lib.hid hat
 have HA_x1 := Lib.hid (HA_x1.out.on hb)
 have HA_x2 := Lib.hid (HA_x2.out.on hb)
 have HA_x3 := Lib.hid (HA_x3.out.on hb)
 clear hat hb
 unfold cell3
 simp only [tagO]
 go_simp
 refine hK.out _ _ (mkS _ HB_z15.out) (fun hHeld2 => ?_)
 clear hK K hHeld
 have hHeld := hHeld2
 clear hHeld2
 try simp only [Act.put, List.setIfInBounds_toArray, List.set_cons_zero, List.set_cons_succ]
 refine wpAnyH_ready (rs := [18]) (by kernel_rfl) (by simp) (AllReadyH.cons (o := { dst := some 21, op := .call { callee := .value (.func 59), args := #[.tmp 20], argTypes := #[22] }, type := 101, pos := "write.go:29", after := #[{ on := 17, ground := .data }, { on := 15, ground := .chain }], guard := none }) rfl (fun K hK => ?_) AllReadyH.nil)
 go_simp
 refine (serval_any SA ser.length sc z15).mono ?_
 rintro e z18 ⟨rfl, hzz⟩
 have hb : Below z15.heap.size z15 z18 := by rw [hzz]; exact below_new _ _
 have hrX : z18.heap[z15.heap.size]? = some (.cells #[.slice SA ser.length sc] 22 (0, 0)) := by rw [hzz]; exact heap_alloc_new _ _
 have HB_z18 := Lib.hid (chain HB_z15.out hb)
 have HCO := Lib.hid (C5.out z18 HB_z18.out z15.heap.size hrX)
 have HA_x1 := Lib.hid (HA_x1.out.on hb)
 have HA_x2 := Lib.hid (HA_x2.out.on hb)
 have HA_x3 := Lib.hid (HA_x3.out.on hb)
 have HA_x4 := Lib.hid (HA_x4.out.on hb)
 clear hzz hb hrX
 go_simp
 refine hK.out _ _ (mkS _ HB_z18.out) (fun hHeld2 => ?_)
 clear hK K hHeld
 have hHeld := hHeld2
 clear hHeld2
 try simp only [Act.put, List.setIfInBounds_toArray, List.set_cons_zero, List.set_cons_succ]
 refine wpAnyH_ready (rs := [19]) (by kernel_rfl) (by simp) (AllReadyH.cons (o := { dst := some 22, op := .call { callee := .value (.func 58), args := #[.tmp 21], argTypes := #[101] }, type := 66, pos := "write.go:29", after := #[{ on := 18, ground := .data }, { on := 18, ground := .chain }], guard := none }) rfl (fun K hK => ?_) AllReadyH.nil)
 go_simp
 refine HCO.out.mono ?_
 rintro e z19 ⟨vc, ts, rfl, hts, hown, hels, hb⟩
 have HSE := Lib.hid (C6.out z19 vc ts hts hown hels HB_z18.out.size)
 have HB_z19 := Lib.hid (chain HB_z18.out hb)
 have HA_x1 := Lib.hid (HA_x1.out.on hb)
 have HA_x2 := Lib.hid (HA_x2.out.on hb)
 have HA_x3 := Lib.hid (HA_x3.out.on hb)
 have HA_x4 := Lib.hid (HA_x4.out.on hb)
 clear hts hown hels hb HCO
 go_simp
 refine hK.out _ _ (mkS _ HB_z19.out) (fun hHeld2 => ?_)
 clear hK K hHeld
 have hHeld := hHeld2
 clear hHeld2
 try simp only [Act.put, List.setIfInBounds_toArray, List.set_cons_zero, List.set_cons_succ]
 refine wpAnyH_ready (rs := [20]) (by kernel_rfl) (by simp) (AllReadyH.cons (o := { dst := some 23, op := .call { callee := .value (.func 29), args := #[.const (.int .u8 129), .tmp 22], argTypes := #[5, 66] }, type := 68, pos := "write.go:29", after := #[{ on := 19, ground := .data }, { on := 19, ground := .chain }], guard := none }) rfl (fun K hK => ?_) AllReadyH.nil)
 go_simp
 refine HSE.out.mono ?_
 rintro e z20 ⟨x5, y5, rfl, hat, hb⟩
 have HB_z20 := Lib.hid (chain HB_z19.out hb)
 have HA_x5 := Lib.hid hat.any
 have HA_x1 := Lib.hid (HA_x1.out.on hb)
 have HA_x2 := Lib.hid (HA_x2.out.on hb)
 have HA_x3 := Lib.hid (HA_x3.out.on hb)
 have HA_x4 := Lib.hid (HA_x4.out.on hb)
 clear hat hb HSE
 unfold cell3
 simp only [tagO]
 go_simp
 refine hK.out _ _ (mkS _ HB_z20.out) (fun hHeld2 => ?_)
 clear hK K hHeld
 have hHeld := hHeld2
 clear hHeld2
 try simp only [Act.put, List.setIfInBounds_toArray, List.set_cons_zero, List.set_cons_succ]
 refine wpAnyH_ready (rs := [21]) (by kernel_rfl) (by simp) (AllReadyH.cons (o := { dst := some 24, op := .buildSlice 66 5 #[(0, .tmp 5), (1, .tmp 8), (2, .tmp 13), (3, .tmp 18), (4, .tmp 23)], type := 66, pos := "write.go:24", after := #[{ on := 2, ground := .data }, { on := 5, ground := .data }, { on := 10, ground := .data }, { on := 15, ground := .data }, { on := 20, ground := .data }], guard := none }) rfl (fun K hK => ?_) AllReadyH.nil)
 obtain ⟨A1, m1, k1, B1, n1, q1, rfl, rfl⟩ := HA_x1.out.slices
 obtain ⟨A2, m2, k2, B2, n2, q2, rfl, rfl⟩ := HA_x2.out.slices
 obtain ⟨A3, m3, k3, B3, n3, q3, rfl, rfl⟩ := HA_x3.out.slices
 obtain ⟨A4, m4, k4, B4, n4, q4, rfl, rfl⟩ := HA_x4.out.slices
 obtain ⟨A5, m5, k5, B5, n5, q5, rfl, rfl⟩ := HA_x5.out.slices
 go_simp
 generalize hV : World.alloc z20 _ = z21
 have hb : Below z20.heap.size z20 z21 := by rw [← hV]; exact below_new _ _
 have hr5 := Lib.hid (show z21.heap[z20.heap.size]? = some (.cells #[.int .u8 ((tagO (.mk 1 iss.data.toList [])).toNat : Int), .slice A1 m1 k1, .slice B1 n1 q1, .int .u8 ((tagO (.mk 2 (nb a) [])).toNat : Int), .slice A2 m2 k2, .slice B2 n2 q2, .int .u8 ((tagO (.mk 3 (nb b) [])).toNat : Int), .slice A3 m3 k3, .slice B3 n3 q3, .int .u8 ((tagO (.mk 4 (nb c) [])).toNat : Int), .slice A4 m4 k4, .slice B4 n4 q4, .int .u8 ((tagO (.mk 129 [] (ser.map n5i))).toNat : Int), .slice A5 m5 k5, .slice B5 n5 q5] 68 (0, 0)) by rw [← hV]; exact heap_alloc_new _ _)
 have HB_z21 := Lib.hid (chain HB_z20.out hb)
 have HELS := Lib.hid (five_els2 (HA_x1.out.on hb) (HA_x2.out.on hb) (HA_x3.out.on hb) (HA_x4.out.on hb) (HA_x5.out.on hb) hr5.out)
 clear hV hb hr5
 refine hK.out _ _ (mkS _ HB_z21.out) (fun hHeld2 => ?_)
 clear hK K hHeld
 have hHeld := hHeld2
 clear hHeld2
 try simp only [Act.put, List.setIfInBounds_toArray, List.set_cons_zero, List.set_cons_succ]
 refine wpAnyH_ready (rs := [22]) (by kernel_rfl) (by simp) (AllReadyH.cons (o := { dst := some 25, op := .call { callee := .value (.func 29), args := #[.const (.int .u8 134), .tmp 24], argTypes := #[5, 66] }, type := 68, pos := "write.go:24", after := #[{ on := 21, ground := .data }, { on := 20, ground := .chain }], guard := none }) rfl (fun K hK => ?_) AllReadyH.nil)
 go_simp
 refine (seq_any 134 [(.mk 1 iss.data.toList []), (.mk 2 (nb a) []), (.mk 3 (nb b) []), (.mk 4 (nb c) []), (.mk 129 [] (ser.map n5i))] (show 5 ≤ 5000 by decide) HTOT.out _ 5 _ _ _ _ z21 HELS.out).mono ?_
 rintro e z22 ⟨x9, y9, rfl, hat, hb⟩
 have HB_z22 := Lib.hid (chain HB_z21.out hb)
 have HSZ22 : RowKit.Hid (w.heap.size + 1 < z21.heap.size) := Lib.hid (by have h1 := (Array.getElem?_eq_some_iff.1 HRR.out).1; have h2 := HB_z21.out.size; omega)
 have HAT := Lib.hid hat
 obtain ⟨A9, m9, k9, B9, n9, q9, rfl, rfl⟩ := hat.slices
 clear hat hb HELS
 unfold cell3
 simp only [tagO]
 go_simp
 refine hK.out _ _ (mkS _ HB_z22.out) (fun hHeld2 => ?_)
 clear hK K hHeld
 have hHeld := hHeld2
 clear hHeld2
 try simp only [Act.put, List.setIfInBounds_toArray, List.set_cons_zero, List.set_cons_succ]
 refine wpAnyH_ready (rs := [23]) (by kernel_rfl) (by simp) (AllReadyH.cons (o := { dst := none, op := .store 68 (.tmp 2) (.tmp 25), type := 0, pos := "write.go:24", after := #[{ on := 22, ground := .data }, { on := 22, ground := .chain }, { on := 0, ground := .phase }, { on := 1, ground := .phase }, { on := 2, ground := .phase }, { on := 3, ground := .phase }, { on := 4, ground := .phase }, { on := 5, ground := .phase }, { on := 6, ground := .phase }, { on := 7, ground := .phase }, { on := 8, ground := .phase }, { on := 9, ground := .phase }, { on := 10, ground := .phase }, { on := 11, ground := .phase }, { on := 12, ground := .phase }, { on := 13, ground := .phase }, { on := 14, ground := .phase }, { on := 15, ground := .phase }, { on := 16, ground := .phase }, { on := 17, ground := .phase }, { on := 18, ground := .phase }, { on := 19, ground := .phase }, { on := 20, ground := .phase }, { on := 21, ground := .phase }, { on := 22, ground := .phase }], guard := none }) rfl (fun K hK => ?_) AllReadyH.nil)
 try rw [if_pos (by rfl)]
 have HR3 := Lib.hid (row_on HRR.out HB_z22.out)
 refine wp_store_mid 68 (.tmp 2) (.tmp 25) rfl (w.heap.size + 1) 0 #[.int .u8 134, .slice A9 m9 k9, .slice B9 n9 q9] rfl rfl (there_row HR3.out 3 (show 3 ≤ 3 by decide)) (sz3o _ _ _) (one3 _ _ _ rfl rfl rfl) ?_
 have HOO := Lib.hid (fun (b : Nat) (hb : b ≠ w.heap.size + 1) => heap_setCells_other [.int .u8 134, .slice A9 m9 k9, .slice B9 n9 q9] 0 z22 hb)
 have HR4 := Lib.hid (row_setCells HR3.out (cs := #[.int .u8 134, .slice A9 m9 k9, .slice B9 n9 q9]) rfl)
 have HB4 := Lib.hid (below_setCells [.int .u8 134, .slice A9 m9 k9, .slice B9 n9 q9] 0 z22 (chain HWU.out HB_z22.out) (show w.heap.size ≤ w.heap.size + 1 by omega))
 refine hK.out _ _ (five8 ((HOO.out w.heap.size (by omega)).trans (row_on HSG.out HB_z22.out))) (fun hHeld2 => ?_)
 clear hK K hHeld hHeld2
 try simp only [Act.put, List.setIfInBounds_toArray, List.set_cons_zero, List.set_cons_succ]
 refine wpAnyH_done (by kernel_rfl) ?_ _
 generalize World.setCells z22 _ _ _ = z9 at HR4 HB4 HOO ⊢
 clear mkS
 go_wp2_with fail
 refine bodyPost_ret (v := .agg #[.int .u8 134, .slice A9 m9 k9, .slice B9 n9 q9]) (results_cell_row rfl _ _ (w.heap.size + 1) 68 _ (0, 0) _ rfl HR4.out Tryz.underlying68 rfl (sz3o _ _ _)) rfl ⟨_, _, rfl, HAT.out.to (fun g p u hc hR => ⟨?_, trivial⟩), HB4.out⟩
 have h1 := hR.1
 have h2 := HSZ22.out
 simp only [World.cell?] at hc ⊢
 rw [HOO.out g (by omega)]
 exact hc

end Sg
end Go.Proofs.YtcgffkkfeimifaaGreatDoor
