/-
  OctetNames: the examples, the limits, further values and errors of layer 8 hold. No input, no condition.
-/
import Derived.Test.YthagoafcphaadaaOcNAC
import Derived.Test.YthagoafcphaadaaOcQ
namespace Go.Proofs.Ythagoafcphaadaa
open Go.ChangeShapes Go.WideShapes Go.ChangeAt Go.RowKit Sha Oc
set_option linter.unusedVariables false
set_option linter.unusedSimpArgs false
theorem nested_at (n : Nat) (hn1 : 2 ≤ n) (hn : n ≤ 1000) (w : World) : Calls Try.prog 6 #[.int .i64 (n : Int)] w fun e w' => ∃ A m c B l d, e = .returned (.agg #[.int .u8 128, .slice A m c, .slice B l d]) ∧ At (fun _ => True) w' (nst (n - 1)) (.slice A m c) (.slice B l d) ∧ Below w.heap.size w w' := by
  refine (nested_any n (by omega) hn w).mono ?_
  rintro e w' ⟨x, y, rfl, hat, hb⟩
  obtain ⟨A, m, c, B, l, d, rfl, rfl⟩ := hat.slices
  refine ⟨A, m, c, B, l, d, ?_, hat, hb⟩
  unfold cell3
  rw [nst_tag, if_neg (by omega)]
theorem num_at (tg : UInt8) (x : Nat) (hx : x < 256 ^ 8) (w : World) : Calls Try.prog 9 #[.int .u8 (tg.toNat : Int), .int .u64 (x : Int)] w fun e w' => ∃ A m c B l d, e = .returned (.agg #[.int .u8 (tg.toNat : Int), .slice A m c, .slice B l d]) ∧ At (fun _ => True) w' (.mk tg (nb x) []) (.slice A m c) (.slice B l d) ∧ Below w.heap.size w w' := by
  refine (num_any tg x hx w).mono ?_
  rintro e w' ⟨x, y, rfl, hat, hb⟩
  obtain ⟨A, m, c, B, l, d, rfl, rfl⟩ := hat.slices
  exact ⟨A, m, c, B, l, d, rfl, hat, hb⟩
theorem str_at (tg : UInt8) (s : ByteArray) (hsz : s.size ≤ 70000) (w : World) : Calls Try.prog 11 #[.int .u8 (tg.toNat : Int), .string s] w fun e w' => ∃ A m c B l d, e = .returned (.agg #[.int .u8 (tg.toNat : Int), .slice A m c, .slice B l d]) ∧ At (fun _ => True) w' (.mk tg s.data.toList []) (.slice A m c) (.slice B l d) ∧ Below w.heap.size w w' := by
  refine (str_any tg s hsz w).mono ?_
  rintro e w' ⟨x, y, rfl, hat, hb⟩
  obtain ⟨A, m, c, B, l, d, rfl, rfl⟩ := hat.slices
  exact ⟨A, m, c, B, l, d, rfl, hat, hb⟩
theorem seq_at (tg : UInt8) (l : List Oct) (hll : l.length ≤ 5000) (hT : ∀ o ∈ l, cnt o ≤ 5000 ∧ tot o ≤ 100000) (B : Option Addr) (d g off : Nat) (vb vl : Nat → Value) (w : World) (he : Els w B l g off vb vl) : Calls Try.prog 13 #[.int .u8 (tg.toNat : Int), .slice B l.length d] w fun e w' => ∃ A m c B l2 d, e = .returned (.agg #[.int .u8 (tg.toNat : Int), .slice A m c, .slice B l2 d]) ∧ At (fun _ => True) w' (.mk tg [] l) (.slice A m c) (.slice B l2 d) ∧ Below w.heap.size w w' := by
  refine (seq_any tg l hll hT B d g off vb vl w he).mono ?_
  rintro e w' ⟨x, y, rfl, hat, hb⟩
  obtain ⟨A, m, c, B, l2, d, rfl, rfl⟩ := hat.slices
  exact ⟨A, m, c, B, l2, d, rfl, hat.any, hb⟩
theorem one_els {V : World} {o : Oct} {x y : Value} {g : Nat} (h : At (fun _ => True) V o x y) (hg : V.heap[g]? = some (.cells #[.int .u8 ((tagO o).toNat : Int), x, y] 28 (0, 0))) :
    Els V (some ⟨g, 0, none⟩) [o] g 0 (fun _ => x) (fun _ => y) := by
  have hc : ∀ j u, (#[.int .u8 ((tagO o).toNat : Int), x, y] : Array Value)[j]? = some u → V.cell? ⟨g, j, none⟩ = some u := fun j u hj => by rw [cell_of_row _ _ _ _ _ _ hg]; exact hj
  refine ⟨fun _ => rfl, fun k o hk => ?_, fun k o hk => ?_, fun k o hk => ?_, fun k o hk => ?_⟩ <;> rcases k with _ | k
  all_goals first | (obtain rfl := Option.some.inj hk; exact hc _ _ rfl) | (obtain rfl := Option.some.inj hk; assumption) | (simp at hk)
theorem no_els (V : World) : Els V none [] 0 0 (fun _ => undef) (fun _ => undef) := ⟨fun h => absurd rfl h, fun k o h => by simp at h, fun k o h => by simp at h, fun k o h => by simp at h, fun k o h => by simp at h⟩
theorem wide_small : cnt (.mk 128 [] (List.replicate 3999 (.mk 1 [] []))) ≤ 900000 ∧ tot (.mk 128 [] (List.replicate 3999 (.mk 1 [] []))) ≤ 400000 := by
  have e1 := cnts_rep (.mk 1 [] []) 3999
  have e2 := tots_rep (.mk 1 [] []) 3999
  have h1 : cnt (.mk 1 [] []) = 1 := by decide
  have h2 : tot (.mk 1 [] []) = 0 := by decide
  rw [h1] at e1
  rw [h2] at e2
  generalize List.replicate 3999 (Oct.mk 1 [] []) = L at e1 e2 ⊢
  exact ⟨by rw [cnt, e1]; decide, by rw [tot, e2]; decide⟩
theorem zeros_small : cnt (.mk 255 [] (List.replicate 4000 nilO)) ≤ 900000 ∧ tot (.mk 255 [] (List.replicate 4000 nilO)) ≤ 400000 := by
  have e1 := cnts_rep nilO 4000
  have e2 := tots_rep nilO 4000
  have h1 : cnt nilO = 1 := by decide
  have h2 : tot nilO = 0 := by decide
  rw [h1] at e1
  rw [h2] at e2
  generalize List.replicate 4000 nilO = L at e1 e2 ⊢
  exact ⟨by rw [cnt, e1]; decide, by rw [tot, e2]; decide⟩
theorem rn1 : rdN 7 7 (nb 18446744073709551615) 0 18446744073709551615 = (18446744073709551615, 0) := by rw [rdN_nb9 7 7 _ (by decide)]; decide
theorem rn3 : rdN 7 7 (nb 10) 0 9 = (0, 12) := by rw [rdN_nb9 7 7 _ (by decide)]; decide
theorem rn4 : rdN 7 8 (nb 9) 0 9 = (0, 12) := by rw [rdN_nb9 7 8 _ (by decide)]; decide
theorem rn2 : rdN 7 7 [0, 5] 0 9 = (0, 12) := by decide
theorem rn5 : rdN 7 7 (List.replicate 9 0) 0 9 = (0, 12) := by decide
theorem rs1 : rdS 3 3 [97, 98, 99] 0 3 = ([97, 98, 99], 0) := by decide
theorem rs2 : rdS 3 3 [97, 98, 99] 0 2 = ([], 12) := by decide
theorem rq1 : rdQ 129 129 0 1 1 1 = true := by decide
theorem rq2 : rdQ 129 129 0 0 1 2 = false := by decide
theorem cells_on {V W : World} {g : Nat} {a b : Value} (h : g < V.heap.size ∧ V.cell? ⟨g, 1, none⟩ = some a ∧ V.cell? ⟨g, 2, none⟩ = some b) (hb : Below V.heap.size V W) : g < W.heap.size ∧ W.cell? ⟨g, 1, none⟩ = some a ∧ W.cell? ⟨g, 2, none⟩ = some b :=
  ⟨Nat.lt_of_lt_of_le h.1 hb.size, (hb.cell (p := ⟨g, 1, none⟩) h.1).trans h.2.1, (hb.cell (p := ⟨g, 2, none⟩) h.1).trans h.2.2⟩
theorem cell_on {V W : World} {g : Nat} {a : Value} (h : g < V.heap.size ∧ V.cell? ⟨g, 1, none⟩ = some a) (hb : Below V.heap.size V W) : g < W.heap.size ∧ W.cell? ⟨g, 1, none⟩ = some a :=
  ⟨Nat.lt_of_lt_of_le h.1 hb.size, (hb.cell (p := ⟨g, 1, none⟩) h.1).trans h.2⟩
set_option maxRecDepth 100000 in
set_option maxHeartbeats 32000000 in
theorem names8_true (w : World) : Calls Try.prog 3 #[] w (fun e w' => e = .returned (.bool true) ∧ Below w.heap.size w w') := by
  have HBw := Lib.hid (Below.refl w.heap.size w)
  go_enter Try.func3, Try.ntmps3
  have hG0 : True := trivial
  obtain ⟨Z200, hZ200⟩ : ∃ Z, bcells (List.replicate 200 0) = Z := ⟨_, rfl⟩
  have hmk : ∀ w, (Instr.makeSlice 22 (.int .i64 200) (.int .i64 200)).run Try.prog w = .ok (.slice (some ⟨w.heap.size, 0, none⟩) 200 200) (w.alloc (.cells Z200 5)) := fun w => by
    have h := mk_bytes 200 (by decide) w
    rw [hZ200] at h
    exact h
  have HZ200 := Lib.hid hZ200
  clear hZ200
  go_wp2_with fail
  have hn := heap_alloc_new w (.cells Z200 5)
  have hbn := below_new w (.cells Z200 5)
  generalize World.alloc w _ = v1 at hn hbn ⊢
  have HNv1 := Lib.hid hn
  have HBv1 := Lib.hid (chain HBw.out hbn)
  clear hn hbn HBw
  clear hmk
  have hc := enc_yes ck200 enc200.1 (by decide) (by unfold O200; rw [cnt5]; decide) (by unfold O200; rw [tot5, List.length_replicate]; decide) v1 _ _ (at_made 5 200 (by decide) (by rw [HZ200.out]; exact HNv1.out))
  refine hc.mono ?_
  clear hc
  rintro e w1 ⟨g1, c1, rfl, hc1, hg1, hx, hb⟩
  have HBw1 := Lib.hid (chain HBv1.out hb)
  have HL1 : RowKit.Hid (g1 < w1.heap.size ∧ w1.cell? ⟨g1, 1, none⟩ = some (.int .u8 129) ∧ w1.cell? ⟨g1, 2, none⟩ = some (.int .u8 200)) := Lib.hid ⟨hg1, hx 1 _ enc200.2.1, hx 2 _ enc200.2.2⟩
  have HC1 := Lib.hid hc1
  clear hc1 hg1 hx hb HBv1 HNv1 HZ200
  obtain ⟨Z65532, hZ65532⟩ : ∃ Z, bcells (List.replicate 65532 0) = Z := ⟨_, rfl⟩
  have hmk : ∀ w, (Instr.makeSlice 22 (.int .i64 65532) (.int .i64 65532)).run Try.prog w = .ok (.slice (some ⟨w.heap.size, 0, none⟩) 65532 65532) (w.alloc (.cells Z65532 5)) := fun w => by
    have h := mk_bytes 65532 (by decide) w
    rw [hZ65532] at h
    exact h
  have HZ65532 := Lib.hid hZ65532
  clear hZ65532
  go_wp2_with fail
  have hn := heap_alloc_new w1 (.cells Z65532 5)
  have hbn := below_new w1 (.cells Z65532 5)
  generalize World.alloc w1 _ = v2 at hn hbn ⊢
  have HNv2 := Lib.hid hn
  have HBv2 := Lib.hid (chain HBw1.out hbn)
  have HL1 : RowKit.Hid (g1 < v2.heap.size ∧ v2.cell? ⟨g1, 1, none⟩ = some (.int .u8 129) ∧ v2.cell? ⟨g1, 2, none⟩ = some (.int .u8 200)) := Lib.hid (cells_on HL1.out hbn)
  clear hn hbn HBw1
  clear hmk
  have hc := enc_yes ckMost encMost.1 (by decide) (by unfold OMost; rw [cnt5]; decide) (by unfold OMost; rw [tot5, List.length_replicate]; decide) v2 _ _ (at_made 5 65532 (by decide) (by rw [HZ65532.out]; exact HNv2.out))
  refine hc.mono ?_
  clear hc
  rintro e w2 ⟨g2, c2, rfl, hc2, hg2, hx, hb⟩
  have HBw2 := Lib.hid (chain HBv2.out hb)
  have HL1 : RowKit.Hid (g1 < w2.heap.size ∧ w2.cell? ⟨g1, 1, none⟩ = some (.int .u8 129) ∧ w2.cell? ⟨g1, 2, none⟩ = some (.int .u8 200)) := Lib.hid (cells_on HL1.out hb)
  have HL2 : RowKit.Hid (g2 < w2.heap.size ∧ w2.cell? ⟨g2, 1, none⟩ = some (.int .u8 130)) := Lib.hid ⟨hg2, hx 1 _ encMost.2⟩
  have HC2 := Lib.hid hc2
  clear hc2 hg2 hx hb HBv2 HNv2 HZ65532
  obtain ⟨Z65533, hZ65533⟩ : ∃ Z, bcells (List.replicate 65533 0) = Z := ⟨_, rfl⟩
  have hmk : ∀ w, (Instr.makeSlice 22 (.int .i64 65533) (.int .i64 65533)).run Try.prog w = .ok (.slice (some ⟨w.heap.size, 0, none⟩) 65533 65533) (w.alloc (.cells Z65533 5)) := fun w => by
    have h := mk_bytes 65533 (by decide) w
    rw [hZ65533] at h
    exact h
  have HZ65533 := Lib.hid hZ65533
  clear hZ65533
  go_wp2_with fail
  have hn := heap_alloc_new w2 (.cells Z65533 5)
  have hbn := below_new w2 (.cells Z65533 5)
  generalize World.alloc w2 _ = v3 at hn hbn ⊢
  have HNv3 := Lib.hid hn
  have HBv3 := Lib.hid (chain HBw2.out hbn)
  have HL1 : RowKit.Hid (g1 < v3.heap.size ∧ v3.cell? ⟨g1, 1, none⟩ = some (.int .u8 129) ∧ v3.cell? ⟨g1, 2, none⟩ = some (.int .u8 200)) := Lib.hid (cells_on HL1.out hbn)
  have HL2 : RowKit.Hid (g2 < v3.heap.size ∧ v3.cell? ⟨g2, 1, none⟩ = some (.int .u8 130)) := Lib.hid (cell_on HL2.out hbn)
  clear hn hbn HBw2
  clear hmk
  have hc := enc_no ckOver (by decide) (by unfold OOver; rw [cnt5]; decide) (by unfold OOver; rw [tot5, List.length_replicate]; decide) v3 _ _ (at_made 5 65533 (by decide) (by rw [HZ65533.out]; exact HNv3.out))
  refine hc.mono ?_
  clear hc
  rintro e w3 ⟨rfl, hb⟩
  have HBw3 := Lib.hid (chain HBv3.out hb)
  obtain ⟨k1, k2, k3⟩ := cells_on HL1.out hb
  obtain ⟨k4, k5⟩ := cell_on HL2.out hb
  have hc1 := HC1.out
  have hc2 := HC2.out
  clear hb HBv3 HNv3 HZ65533 HL1 HL2 HC1 HC2
  go_wp2_with fail
  clear k1 k2 k3 k4 k5 hc1 hc2
  have hc : Calls Try.prog 6 #[.int .i64 12] w3 _ := nested_at 12 (by decide) (by decide) w3
  refine (hc).mono ?_
  rintro e w4 ⟨A, m, c, B, l, d, rfl, hat, hb⟩
  have HBw4 := Lib.hid (chain HBw3.out hb)
  clear hb HBw3
  clear hc
  have hc := chk_at (o := nst 11) (q := 0) (by decide +kernel) (by decide +kernel) (by decide +kernel) w4 _ _ hat
  clear hat
  go_wp2_with fail
  refine (hc).mono ?_
  rintro e w5 ⟨rfl, hb⟩
  have HBw5 := Lib.hid (chain HBw4.out hb)
  clear hb HBw4
  clear hc
  have hc : Calls Try.prog 6 #[.int .i64 13] w5 _ := nested_at 13 (by decide) (by decide) w5
  go_wp2_with fail
  refine (hc).mono ?_
  rintro e w6 ⟨A, m, c, B, l, d, rfl, hat, hb⟩
  have HBw6 := Lib.hid (chain HBw5.out hb)
  clear hb HBw5
  clear hc
  have hc := chk_at (o := nst 12) (q := 4) (by decide +kernel) (by decide +kernel) (by decide +kernel) w6 _ _ hat
  clear hat
  go_wp2_with fail
  refine (hc).mono ?_
  rintro e w7 ⟨rfl, hb⟩
  have HBw7 := Lib.hid (chain HBw6.out hb)
  clear hb HBw6
  clear hc
  go_wp2_with fail
  refine (chk_at (o := nilO) (q := 8) (by decide) (by decide) (by decide) w7 _ _ (at_leaf _ _ 0)).mono ?_
  rintro e w8 ⟨rfl, hb⟩
  have HBw8 := Lib.hid (chain HBw7.out hb)
  clear hb HBw7
  obtain ⟨Z1, hZ1⟩ : ∃ Z, octZ 1 = Z := ⟨_, rfl⟩
  have hmk : ∀ w, (Instr.makeSlice 26 (.int .i64 1) (.int .i64 1)).run Try.prog w = .ok (.slice (some ⟨w.heap.size, 0, none⟩) 1 1) (w.alloc (.cells Z1 28)) := fun w => by
    have h := mk_octs 1 (by decide) w
    rw [hZ1] at h
    exact h
  have HZ1 := Lib.hid hZ1
  clear hZ1
  go_wp2_with fail
  have hn := heap_alloc_new w8 (.cells Z1 28)
  have hbn := below_new w8 (.cells Z1 28)
  generalize World.alloc w8 _ = v8 at hn hbn ⊢
  have HNv8 := Lib.hid hn
  have HBv8 := Lib.hid (chain HBw8.out hbn)
  clear hn hbn HBw8
  clear hmk
  refine (chk_at (o := .mk 1 [] (List.replicate 1 nilO)) (q := 8) (by decide) (by decide) (by decide) v8 _ _ (at_zeros 1 1 (by decide) (by rw [HZ1.out]; exact HNv8.out))).mono ?_
  rintro e w9 ⟨rfl, hb⟩
  have HBw9 := Lib.hid (chain HBv8.out hb)
  clear hb HBv8
  clear HNv8 HZ1
  go_wp2_with fail
  have hn := heap_alloc_new w9 (.cells #[.int .u8 1] 5)
  have hbn := below_new w9 (.cells #[.int .u8 1] 5)
  generalize World.alloc w9 _ = v9 at hn hbn ⊢
  have HNv9 := Lib.hid hn
  have HBv9 := Lib.hid (chain HBw9.out hbn)
  clear hn hbn HBw9
  refine (chk_at (o := .mk 128 [1] []) (q := 8) (by decide) (by decide) (by decide) v9 _ _ (at_bytes 128 (b := [1]) (c := 1) (by decide) (by decide) (fun e => by cases e) (srcAt_row (l := [1]) HNv9.out))).mono ?_
  rintro e w10 ⟨rfl, hb⟩
  have HBw10 := Lib.hid (chain HBv9.out hb)
  clear hb HBv9
  clear HNv9
  go_wp2_with fail
  refine (chk_at (o := .mk 127 [] []) (q := 0) (by decide) (by decide) (by decide) w10 _ _ (at_leaf _ _ 127)).mono ?_
  rintro e w11 ⟨rfl, hb⟩
  have HBw11 := Lib.hid (chain HBw10.out hb)
  clear hb HBw10
  go_wp2_with fail
  refine (chk_at (o := .mk 255 [] []) (q := 0) (by decide) (by decide) (by decide) w11 _ _ (at_leaf _ _ 255)).mono ?_
  rintro e w12 ⟨rfl, hb⟩
  have HBw12 := Lib.hid (chain HBw11.out hb)
  clear hb HBw11
  obtain ⟨Z4000, hZ4000⟩ : ∃ Z, octZ 4000 = Z := ⟨_, rfl⟩
  have hmk : ∀ w, (Instr.makeSlice 26 (.int .i64 4000) (.int .i64 4000)).run Try.prog w = .ok (.slice (some ⟨w.heap.size, 0, none⟩) 4000 4000) (w.alloc (.cells Z4000 28)) := fun w => by
    have h := mk_octs 4000 (by decide) w
    rw [hZ4000] at h
    exact h
  have HZ4000 := Lib.hid hZ4000
  clear hZ4000
  go_wp2_with fail
  have hn := heap_alloc_new w12 (.cells Z4000 28)
  have hbn := below_new w12 (.cells Z4000 28)
  generalize World.alloc w12 _ = v12 at hn hbn ⊢
  have HNv12 := Lib.hid hn
  have HBv12 := Lib.hid (chain HBw12.out hbn)
  clear hn hbn HBw12
  clear hmk
  refine (chk_at (o := .mk 255 [] (List.replicate 4000 nilO)) (q := 4) ck_zeros zeros_small.1 zeros_small.2 v12 _ _ (at_zeros 255 4000 (by decide) (by rw [HZ4000.out]; exact HNv12.out))).mono ?_
  rintro e w13 ⟨rfl, hb⟩
  have HBw13 := Lib.hid (chain HBv12.out hb)
  clear hb HBv12
  clear HNv12 HZ4000
  go_upto_region 7 with (fail)
  have hwb := wb_start HBw13.out
  generalize World.alloc w13 _ = V0 at hwb ⊢
  generalize w13.heap.size = M at hwb ⊢
  have HW0 := Lib.hid hwb
  clear hwb HBw13
  obtain ⟨i0, hi, hz0, hz1, hz2⟩ := info_parts Try.info_oct
  have HI := Lib.hid hi
  clear hi
  go_wp2_with fail
  go_loopw [10] (fun i wr => ∃ (k : Nat) (v : Value), k ≤ 3999 ∧ i = .int .i64 (k : Int) ∧ RowKit.Hid (WB w M k v wr)) (fun i _ => 3999 - (intOf i).toNat)
  case atStart => exact ⟨0, _, by decide, by go_num, HW0⟩
  case round =>
    clear HW0
    obtain ⟨k, v, hk, rfl, HW⟩ := hrel
    obtain ⟨V, hV⟩ : ∃ V, V = wr := ⟨_, rfl⟩
    subst hV
    by_cases hlt : k < 3999
    · have hki : (k : Int) < 3999 := by omega
      obtain ⟨⟨hf0, hf1, hf2⟩, hd0, hd1, hd2⟩ := facts3 HW.out.row
      have hbl := (Array.getElem?_eq_some_iff.1 HW.out.row).1
      have HLT := Lib.hid hlt
      go_wp2_with (at_builtin; go_loud (refine wpList_append_own_at _ rfl (.tmp 136) (.tmp 138) 26 rfl (M + 1) 28 i0 (.agg #[.int .u8 0, .slice none 0 0, .slice none 0 0]) 3 56 Try.underlying26 HI.out hz0 hz1 hz2 rfl (by decide) _ _ _ rfl (HW.out.own.alloc _) ⟨V.heap.size, 0, none⟩ 1 1 [.int .u8 1, .slice none 0 0, .slice none 0 0] rfl rfl (cell_three_new _ _ _ _ _) (oct_one (at_leaf (fun _ => True) V 1)) (by have := HLT.out; unfold maxLen; omega) (by have := HLT.out; omega) (by have := HW.out.sz; rw [World.size_alloc]; omega) ?_); intro v7 w5 hown5 hgrow5 _ _; obtain ⟨A7, c7, rfl⟩ := own_slO hown5; obtain ⟨hM5, hW5⟩ := HW.out.grown hown5 hgrow5; have HW5 := Lib.hid hW5; clear hown5 hgrow5 hW5 hf0 hf1 hf2 hd0 hd1 hd2 hbl; obtain ⟨⟨hf0, hf1, hf2⟩, hd0, hd1, hd2⟩ := facts3 hM5; have hbl := (Array.getElem?_eq_some_iff.1 hM5).1; clear hM5)
      exact ⟨⟨k + 1, _, by have := HLT.out; omega, by go_num, HW5⟩, by have := HLT.out; simp [intOf]; omega⟩
    · have hkk : k = 3999 := by omega
      subst hkk
      have hki : ¬ ((3999 : Nat) : Int) < 3999 := by omega
      obtain ⟨⟨hf0, hf1, hf2⟩, hd0, hd1, hd2⟩ := facts3 HW.out.row
      have hbl := (Array.getElem?_eq_some_iff.1 HW.out.row).1
      have hc := chk_at (q := 0) ck_wide wide_small.1 wide_small.2 V _ _ (HW.out.done (by decide))
      have HBV := Lib.hid HW.out.bl
      obtain ⟨A9, m9, c9, B9, n9, d9, e9, rfl⟩ := (HW.out.done (by decide)).slices
      clear e9
      clear HW
      go_wp2_with fail
      refine (hc).mono ?_
      rintro e x1 ⟨rfl, hb⟩
      have HBx1 := Lib.hid (chain HBV.out hb)
      clear hb HBV
      clear hc hf0 hf1 hf2 hd0 hd1 hd2 hbl
      go_wp2_with fail
      refine (refused_any [] (by kernel_rfl) (by decide) x1 none 0 (Nat.le_refl _) (fun _ => rfl) (fun h => absurd rfl h)).mono ?_
      rintro e x2 ⟨rfl, hb⟩
      have HBx2 := Lib.hid (chain HBx1.out hb)
      clear hb HBx1
      go_wp2_with fail
      have hn := heap_alloc_new x2 (.cells #[.int .u8 2] 5)
      have hbn := below_new x2 (.cells #[.int .u8 2] 5)
      generalize World.alloc x2 _ = y0 at hn hbn ⊢
      have HNy0 := Lib.hid hn
      have HBy0 := Lib.hid (chain HBx2.out hbn)
      clear hn hbn HBx2
      refine (ref_at (b := [2]) (by kernel_rfl) (by decide) (n := 1) rfl HNy0.out).mono ?_
      rintro e z0 ⟨rfl, hb⟩
      have HBz0 := Lib.hid (chain HBy0.out hb)
      clear hb HBy0
      clear HNy0
      go_wp2_with fail
      have hn := heap_alloc_new z0 (.cells #[.int .u8 0, .int .u8 0] 5)
      have hbn := below_new z0 (.cells #[.int .u8 0, .int .u8 0] 5)
      generalize World.alloc z0 _ = y1 at hn hbn ⊢
      have HNy1 := Lib.hid hn
      have HBy1 := Lib.hid (chain HBz0.out hbn)
      clear hn hbn HBz0
      refine (ref_at (b := [0, 0]) (by kernel_rfl) (by decide) (n := 2) rfl HNy1.out).mono ?_
      rintro e z1 ⟨rfl, hb⟩
      have HBz1 := Lib.hid (chain HBy1.out hb)
      clear hb HBy1
      clear HNy1
      go_wp2_with fail
      have hn := heap_alloc_new z1 (.cells #[.int .u8 2, .int .u8 0, .int .u8 0] 5)
      have hbn := below_new z1 (.cells #[.int .u8 2, .int .u8 0, .int .u8 0] 5)
      generalize World.alloc z1 _ = y2 at hn hbn ⊢
      have HNy2 := Lib.hid hn
      have HBy2 := Lib.hid (chain HBz1.out hbn)
      clear hn hbn HBz1
      refine (ref_at (b := [2, 0, 0]) (by kernel_rfl) (by decide) (n := 3) rfl HNy2.out).mono ?_
      rintro e z2 ⟨rfl, hb⟩
      have HBz2 := Lib.hid (chain HBy2.out hb)
      clear hb HBy2
      clear HNy2
      go_wp2_with fail
      have hn := heap_alloc_new z2 (.cells #[.int .u8 2, .int .u8 128] 5)
      have hbn := below_new z2 (.cells #[.int .u8 2, .int .u8 128] 5)
      generalize World.alloc z2 _ = y3 at hn hbn ⊢
      have HNy3 := Lib.hid hn
      have HBy3 := Lib.hid (chain HBz2.out hbn)
      clear hn hbn HBz2
      refine (ref_at (b := [2, 128]) (by kernel_rfl) (by decide) (n := 2) rfl HNy3.out).mono ?_
      rintro e z3 ⟨rfl, hb⟩
      have HBz3 := Lib.hid (chain HBy3.out hb)
      clear hb HBy3
      clear HNy3
      go_wp2_with fail
      have hn := heap_alloc_new z3 (.cells #[.int .u8 2, .int .u8 132, .int .u8 0, .int .u8 0, .int .u8 0, .int .u8 0] 5)
      have hbn := below_new z3 (.cells #[.int .u8 2, .int .u8 132, .int .u8 0, .int .u8 0, .int .u8 0, .int .u8 0] 5)
      generalize World.alloc z3 _ = y4 at hn hbn ⊢
      have HNy4 := Lib.hid hn
      have HBy4 := Lib.hid (chain HBz3.out hbn)
      clear hn hbn HBz3
      refine (ref_at (b := [2, 132, 0, 0, 0, 0]) (by kernel_rfl) (by decide) (n := 6) rfl HNy4.out).mono ?_
      rintro e z4 ⟨rfl, hb⟩
      have HBz4 := Lib.hid (chain HBy4.out hb)
      clear hb HBy4
      clear HNy4
      go_wp2_with fail
      have hn := heap_alloc_new z4 (.cells #[.int .u8 130, .int .u8 1, .int .u8 2] 5)
      have hbn := below_new z4 (.cells #[.int .u8 130, .int .u8 1, .int .u8 2] 5)
      generalize World.alloc z4 _ = y5 at hn hbn ⊢
      have HNy5 := Lib.hid hn
      have HBy5 := Lib.hid (chain HBz4.out hbn)
      clear hn hbn HBz4
      refine (ref_at (b := [130, 1, 2]) (by kernel_rfl) (by decide) (n := 3) rfl HNy5.out).mono ?_
      rintro e z5 ⟨rfl, hb⟩
      have HBz5 := Lib.hid (chain HBy5.out hb)
      clear hb HBy5
      clear HNy5
      go_wp2_with fail
      have hn := heap_alloc_new z5 (.cells #[.int .u8 130, .int .u8 2, .int .u8 2, .int .u8 1] 5)
      have hbn := below_new z5 (.cells #[.int .u8 130, .int .u8 2, .int .u8 2, .int .u8 1] 5)
      generalize World.alloc z5 _ = y6 at hn hbn ⊢
      have HNy6 := Lib.hid hn
      have HBy6 := Lib.hid (chain HBz5.out hbn)
      clear hn hbn HBz5
      refine (ref_at (b := [130, 2, 2, 1]) (by kernel_rfl) (by decide) (n := 4) rfl HNy6.out).mono ?_
      rintro e z6 ⟨rfl, hb⟩
      have HBz6 := Lib.hid (chain HBy6.out hb)
      clear hb HBy6
      clear HNy6
      go_wp2_with fail
      have hn := heap_alloc_new z6 (.cells #[.int .u8 2, .int .u8 130, .int .u8 0, .int .u8 200] 5)
      have hbn := below_new z6 (.cells #[.int .u8 2, .int .u8 130, .int .u8 0, .int .u8 200] 5)
      generalize World.alloc z6 _ = y7 at hn hbn ⊢
      have HNy7 := Lib.hid hn
      have HBy7 := Lib.hid (chain HBz6.out hbn)
      clear hn hbn HBz6
      refine (ref_at (b := [2, 130, 0, 200]) (by kernel_rfl) (by decide) (n := 4) rfl HNy7.out).mono ?_
      rintro e z7 ⟨rfl, hb⟩
      have HBz7 := Lib.hid (chain HBy7.out hb)
      clear hb HBy7
      clear HNy7
      have hc : Calls Try.prog 9 #[.int .u8 7, .int .u64 18446744073709551615] z7 _ := num_at 7 18446744073709551615 (by decide) z7
      go_wp2_with fail
      refine (hc).mono ?_
      rintro e a1 ⟨A, m, c, B, l, d, rfl, hat, hb⟩
      have HBa1 := Lib.hid (chain HBz7.out hb)
      clear hb HBz7
      clear hc
      have hc := rn_at (tg := 7) rn1 a1 _ _ hat
      try clear hat
      go_wp2_with fail
      refine (hc).mono ?_
      rintro e a2 ⟨rfl, hb⟩
      have HBa2 := Lib.hid (chain HBa1.out hb)
      clear hb HBa1
      clear hc
      go_wp2_with fail
      have hn := heap_alloc_new a2 (.cells #[.int .u8 0, .int .u8 5] 5)
      have hbn := below_new a2 (.cells #[.int .u8 0, .int .u8 5] 5)
      generalize World.alloc a2 _ = a3 at hn hbn ⊢
      have HNa3 := Lib.hid hn
      have HBa3 := Lib.hid (chain HBa2.out hbn)
      clear hn hbn HBa2
      have hc := rn_at (t := 7) (tg := 7) rn2 a3 _ _ (at_bytes 7 (b := [0, 5]) (c := 2) (by decide) (by decide) (fun e => by cases e) (srcAt_row (l := [0, 5]) HNa3.out))
      try clear hat
      go_wp2_with fail
      refine (hc).mono ?_
      rintro e a4 ⟨rfl, hb⟩
      have HBa4 := Lib.hid (chain HBa3.out hb)
      clear hb HBa3
      clear hc
      clear HNa3
      have hc : Calls Try.prog 9 #[.int .u8 7, .int .u64 10] a4 _ := num_at 7 10 (by decide) a4
      go_wp2_with fail
      refine (hc).mono ?_
      rintro e a5 ⟨A, m, c, B, l, d, rfl, hat, hb⟩
      have HBa5 := Lib.hid (chain HBa4.out hb)
      clear hb HBa4
      clear hc
      have hc := rn_at (tg := 7) rn3 a5 _ _ hat
      try clear hat
      go_wp2_with fail
      refine (hc).mono ?_
      rintro e a6 ⟨rfl, hb⟩
      have HBa6 := Lib.hid (chain HBa5.out hb)
      clear hb HBa5
      clear hc
      have hc : Calls Try.prog 9 #[.int .u8 7, .int .u64 9] a6 _ := num_at 7 9 (by decide) a6
      go_wp2_with fail
      refine (hc).mono ?_
      rintro e a7 ⟨A, m, c, B, l, d, rfl, hat, hb⟩
      have HBa7 := Lib.hid (chain HBa6.out hb)
      clear hb HBa6
      clear hc
      have hc := rn_at (tg := 8) rn4 a7 _ _ hat
      try clear hat
      go_wp2_with fail
      refine (hc).mono ?_
      rintro e a8 ⟨rfl, hb⟩
      have HBa8 := Lib.hid (chain HBa7.out hb)
      clear hb HBa7
      clear hc
      obtain ⟨Z9, hZ9⟩ : ∃ Z, bcells (List.replicate 9 0) = Z := ⟨_, rfl⟩
      have hmk : ∀ w, (Instr.makeSlice 22 (.int .i64 9) (.int .i64 9)).run Try.prog w = .ok (.slice (some ⟨w.heap.size, 0, none⟩) 9 9) (w.alloc (.cells Z9 5)) := fun w => by
        have h := mk_bytes 9 (by decide) w
        rw [hZ9] at h
        exact h
      have HZ9 := Lib.hid hZ9
      clear hZ9
      go_wp2_with fail
      have hn := heap_alloc_new a8 (.cells Z9 5)
      have hbn := below_new a8 (.cells Z9 5)
      generalize World.alloc a8 _ = a9 at hn hbn ⊢
      have HNa9 := Lib.hid hn
      have HBa9 := Lib.hid (chain HBa8.out hbn)
      clear hn hbn HBa8
      clear hmk
      have hc := rn_at (t := 7) (tg := 7) rn5 a9 _ _ (at_made 7 9 (by decide) (by rw [HZ9.out]; exact HNa9.out))
      try clear hat
      go_wp2_with fail
      refine (hc).mono ?_
      rintro e b1 ⟨rfl, hb⟩
      have HBb1 := Lib.hid (chain HBa9.out hb)
      clear hb HBa9
      clear hc
      clear HNa9 HZ9
      have hc : Calls Try.prog 11 #[.int .u8 3, .string ⟨#[97, 98, 99]⟩] b1 _ := str_at 3 ⟨#[97, 98, 99]⟩ (by decide) b1
      go_wp2_with fail
      refine (hc).mono ?_
      rintro e b2 ⟨A, m, c, B, l, d, rfl, hat, hb⟩
      have HBb2 := Lib.hid (chain HBb1.out hb)
      clear hb HBb1
      clear hc
      have hc := rs_at (tg := 3) rs1 b2 _ _ hat
      try clear hat
      go_wp2_with fail
      refine (hc).mono ?_
      rintro e b3 ⟨rfl, hb⟩
      have HBb3 := Lib.hid (chain HBb2.out hb)
      clear hb HBb2
      clear hc
      have hc : Calls Try.prog 11 #[.int .u8 3, .string ⟨#[97, 98, 99]⟩] b3 _ := str_at 3 ⟨#[97, 98, 99]⟩ (by decide) b3
      go_wp2_with fail
      refine (hc).mono ?_
      rintro e b4 ⟨A, m, c, B, l, d, rfl, hat, hb⟩
      have HBb4 := Lib.hid (chain HBb3.out hb)
      clear hb HBb3
      clear hc
      have hc := rs_at (tg := 3) rs2 b4 _ _ hat
      try clear hat
      go_wp2_with fail
      refine (hc).mono ?_
      rintro e b5 ⟨rfl, hb⟩
      have HBb5 := Lib.hid (chain HBb4.out hb)
      clear hb HBb4
      clear hc
      have hc : Calls Try.prog 9 #[.int .u8 1, .int .u64 1] b5 _ := num_at 1 1 (by decide) b5
      go_wp2_with fail
      refine (hc).mono ?_
      rintro e b6 ⟨A, m, c, B, l, d, rfl, hat, hb⟩
      have HBb6 := Lib.hid (chain HBb5.out hb)
      clear hb HBb5
      clear hc
      have HAT := Lib.hid hat
      clear hat
      go_wp2_with fail
      have hn := heap_alloc_new b6 (.cells #[.int .u8 1, .slice A m c, .slice B l d] 28)
      have hbn := below_new b6 (.cells #[.int .u8 1, .slice A m c, .slice B l d] 28)
      generalize World.alloc b6 _ = b7 at hn hbn ⊢
      have HBb7 := Lib.hid (chain HBb6.out hbn)
      have hc := seq_at 129 [.mk 1 (nb 1) []] (by decide) (fun o ho => by obtain rfl := List.mem_singleton.1 ho; exact ⟨by rw [cnt5]; decide, by rw [tot5]; have := nb_len 8 1 (by decide); omega⟩) _ 1 _ _ _ _ b7 (one_els (HAT.out.on hbn) hn)
      clear hn hbn HBb6 HAT
      refine (hc).mono ?_
      rintro e b8 ⟨A, m, c, B, l, d, rfl, hat, hb⟩
      have HBb8 := Lib.hid (chain HBb7.out hb)
      clear hb HBb7
      clear hc
      have hc := rq_at (tg := 129) (lo := 1) (hi := 1) (yes := true) rq1 (by rw [cnt, cnts, cnts, cnt5]; decide) (by rw [tot, tots, tots, tot5]; have := nb_len 8 1 (by decide); simp only [List.length_nil]; omega) b8 _ _ hat
      try clear hat
      go_wp2_with fail
      refine (hc).mono ?_
      rintro e b9 ⟨A, c, rfl, hb⟩
      have HBb9 := Lib.hid (chain HBb8.out hb)
      clear hb HBb8
      clear hc
      have hc := seq_at 129 [] (by decide) (fun o ho => by cases ho) none 0 _ _ _ _ b9 (no_els b9)
      go_wp2_with fail
      refine (hc).mono ?_
      rintro e c1 ⟨A, m, c, B, l, d, rfl, hat, hb⟩
      have HBc1 := Lib.hid (chain HBb9.out hb)
      clear hb HBb9
      clear hc
      have hc := rq_at (tg := 129) (l := []) (lo := 1) (hi := 2) (yes := false) rq2 (by decide) (by decide) c1 _ _ hat
      try clear hat
      go_wp2_with fail
      refine (hc).mono ?_
      rintro e c2 ⟨A, c, rfl, hb⟩
      have HBc2 := Lib.hid (chain HBc1.out hb)
      clear hb HBc1
      clear hc
      obtain ⟨Z65537, hZ65537⟩ : ∃ Z, bcells (List.replicate 65537 0) = Z := ⟨_, rfl⟩
      have hmk : ∀ w, (Instr.makeSlice 22 (.int .i64 65537) (.int .i64 65537)).run Try.prog w = .ok (.slice (some ⟨w.heap.size, 0, none⟩) 65537 65537) (w.alloc (.cells Z65537 5)) := fun w => by
        have h := mk_bytes 65537 (by decide) w
        rw [hZ65537] at h
        exact h
      have HZ65537 := Lib.hid hZ65537
      clear hZ65537
      go_wp2_with fail
      have hn := heap_alloc_new c2 (.cells Z65537 5)
      have hbn := below_new c2 (.cells Z65537 5)
      generalize World.alloc c2 _ = c3 at hn hbn ⊢
      have HNc3 := Lib.hid hn
      have HBc3 := Lib.hid (chain HBc2.out hbn)
      clear hn hbn HBc2
      clear hmk
      have hc := dec_over 65537 (by decide) (by decide) (w := c3) (by rw [HZ65537.out]; exact HNc3.out)
      refine (hc).mono ?_
      rintro e c4 ⟨A, m, c, B, l, d, rfl, hb⟩
      have HBc4 := Lib.hid (chain HBc3.out hb)
      clear hb HBc3
      clear hc HNc3 HZ65537
      go_upto_region 23 with (fail)
      have hbn : Below w.heap.size w (c4.alloc (.cells #[.int .u8 0, .slice A m c, .slice B l d] 28)) := chain HBc4.out (below_new _ _)
      generalize World.alloc c4 _ = c5 at hbn ⊢
      have HBc5 := Lib.hid hbn
      clear hbn HBc4
      go_wp2_with fail
      refine (alive8_any c5).mono ?_
      rintro e c6 ⟨rfl, hb⟩
      have HBc6 := Lib.hid (chain HBc5.out hb)
      clear hb HBc5
      go_wp2_with fail
      go_ret
      exact ⟨by first | rfl | decide, HBc6.out⟩
/-! The row -/
set_option maxRecDepth 100000 in
theorem octetnames_lifted (os : Os) (started : os.Started) (H : Type) (enc : TypeId × Value → H) :
    ReturnsInHanded {} Try.checked os 3 .any (Rows.octetNamesSpec.pre6 enc Try.prog Try.f3 Rows.octetNamesRow.domain false) (Rows.octetNamesSpec.post enc Try.prog Try.f3 false true false false) := by
  refine sized_of_change (C := Try.checked) Try.own started (by kernel_rfl) Try.func3 rfl
    (ChangeSpec.witness6 (enc := enc) (C := Try.checked) false ⟨#[], #[], []⟩ 8 (by kernel_rfl) (by kernel_rfl) (by kernel_rfl) (by kernel_rfl)) ?_
  intro W base args ds gs before hval0 hW hwts
  have hval : ∀ (j : Nat) t v, Try.f3.params[j]? = some t → args[j]? = some v → Value.okWide Try.prog W .any base t v := hval0
  have hW' := hW
  obtain ⟨p, q, hA0, hV, rfl, hfz, hnd⟩ := hW
  have hA : DataW.TrodAll enc Try.prog W 0 (fun _ => true) true Try.f3.params.toList args.toList ds p := hA0
  have hwt : ∀ n ∈ DataW.weightsEach Try.prog Try.f3.params.toList ds, n ≤ 140737488355328 := hwts
  rw [Try.params3] at hA hval hwt
  obtain ⟨hargs, rfl, rfl⟩ := trodAll_nil hA
  obtain rfl : args = #[] := by cases args; simp_all
  obtain ⟨rfl, rfl⟩ := trodVars_none hV
  refine (names8_true W ).mono fun e W' ⟨he, hg⟩ => ?_
  subst he
  exact ⟨_, rfl, law_post Try.laidOut (by kernel_rfl) (by kernel_rfl) hW' hg (trodAll_cons_mk (shut_bool Try.underlying4 _) trodAll_mk0) rfl rfl⟩

/-- the statement -/
theorem octetnames_holds : Rows.OctetNamesSaid :=
  OpenClaim.holds_of_wide 3 Try.f3 rfl rfl rfl rfl rfl rfl rfl ⟨rfl, rfl, rfl, rfl, rfl⟩ rfl rfl rfl rfl rfl (by kernel_rfl) Try.func3 (by kernel_rfl)
    (of_decide_eq_true (by kernel_rfl)) (by unfold Func.isWrapper; rw [if_neg (of_decide_eq_false (by kernel_rfl))]; exact ⟨rfl, rfl⟩)
    (fun os started H enc _ => octetnames_lifted os started H enc)
#print axioms octetnames_holds

end Go.Proofs.Ythagoafcphaadaa
