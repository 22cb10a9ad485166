/-
  THE WALK over ClockNames.
-/
import Derived.Test.YtopdblkgchcdnaaClkH
import Derived.Test.YtopdblkgchcdnaaClkP
import Derived.Test.YtopdblkgchcdnaaClkN
import Derived.Laws.AppendOwn
import Derived.Maps.AppendAt
namespace Go.Proofs.Ytopdblkgchcdnaa
open Go.RowKit Clk
set_option linter.unusedVariables false
set_option linter.unusedSimpArgs false
theorem cn_c1 (w : World) : Calls Try.prog 10 #[.agg #[.int .i64 0, .int .i64 1099511627776]] w fun e' w' => e' = .returned (.int .i64 0) ∧ Below w.heap.size w w' := by
  have h := chk_any 0 1099511627776 w
  have e0 : chkW 0 1099511627776 = 0 := by decide +kernel
  rw [e0] at h
  exact h
theorem cn_c2 (w : World) : Calls Try.prog 10 #[.agg #[.int .i64 0, .int .i64 1099511627777]] w fun e' w' => e' = .returned (.int .i64 8) ∧ Below w.heap.size w w' := by
  have h := chk_any 0 1099511627777 w
  have e0 : chkW 0 1099511627777 = 8 := by decide +kernel
  rw [e0] at h
  exact h
theorem cn_c3 (w : World) : Calls Try.prog 10 #[.agg #[.int .i64 (-1), .int .i64 0]] w fun e' w' => e' = .returned (.int .i64 8) ∧ Below w.heap.size w w' := by
  have h := chk_any (-1) 0 w
  have e0 : chkW (-1) 0 = 8 := by decide +kernel
  rw [e0] at h
  exact h
theorem cn_c4 (w : World) : Calls Try.prog 10 #[.agg #[.int .i64 2, .int .i64 1]] w fun e' w' => e' = .returned (.int .i64 8) ∧ Below w.heap.size w w' := by
  have h := chk_any 2 1 w
  have e0 : chkW 2 1 = 8 := by decide +kernel
  rw [e0] at h
  exact h
theorem cn_i1 (w : World) : Calls Try.prog 11 #[.agg #[.int .i64 3, .int .i64 5], .int .i64 5] w fun e' w' => e' = .returned (.bool true) ∧ Below w.heap.size w w' := by
  have h := in_any 3 5 5 w
  have e0 : inB 3 5 5 = true := by decide +kernel
  rw [e0] at h
  exact h
theorem cn_i2 (w : World) : Calls Try.prog 11 #[.agg #[.int .i64 3, .int .i64 5], .int .i64 6] w fun e' w' => e' = .returned (.bool false) ∧ Below w.heap.size w w' := by
  have h := in_any 3 5 6 w
  have e0 : inB 3 5 6 = false := by decide +kernel
  rw [e0] at h
  exact h
theorem cn_i3 (w : World) : Calls Try.prog 11 #[.agg #[.int .i64 5, .int .i64 3], .int .i64 4] w fun e' w' => e' = .returned (.bool false) ∧ Below w.heap.size w w' := by
  have h := in_any 5 3 4 w
  have e0 : inB 5 3 4 = false := by decide +kernel
  rw [e0] at h
  exact h
theorem cn_b1 (w : World) : Calls Try.prog 12 #[.agg #[.int .i64 1, .int .i64 5], .agg #[.int .i64 5, .int .i64 9]] w fun e' w' => e' = .returned (.tuple #[.agg #[.int .i64 5, .int .i64 5], .bool true, .int .i64 0]) ∧ Below w.heap.size w w' := by
  have h := both_any 1 5 5 9 w
  obtain ⟨e0, e1, e2, e3⟩ := (show boX 1 5 5 9 = 5 ∧ boY 1 5 5 9 = 5 ∧ boI 1 5 5 9 = true ∧ boE 1 5 5 9 = 0 by decide +kernel : _)
  rw [e0, e1, e2, e3] at h
  exact h
theorem cn_b2 (w : World) : Calls Try.prog 12 #[.agg #[.int .i64 1, .int .i64 4], .agg #[.int .i64 5, .int .i64 9]] w fun e' w' => e' = .returned (.tuple #[.agg #[.int .i64 0, .int .i64 0], .bool false, .int .i64 0]) ∧ Below w.heap.size w w' := by
  have h := both_any 1 4 5 9 w
  obtain ⟨e0, e1, e2, e3⟩ := (show boX 1 4 5 9 = 0 ∧ boY 1 4 5 9 = 0 ∧ boI 1 4 5 9 = false ∧ boE 1 4 5 9 = 0 by decide +kernel : _)
  rw [e0, e1, e2, e3] at h
  exact h
theorem cn_b3 (w : World) : Calls Try.prog 12 #[.agg #[.int .i64 0, .int .i64 0], .agg #[.int .i64 1, .int .i64 0]] w fun e' w' => e' = .returned (.tuple #[.agg #[.int .i64 0, .int .i64 0], .bool false, .int .i64 8]) ∧ Below w.heap.size w w' := by
  have h := both_any 0 0 1 0 w
  obtain ⟨e0, e1, e2, e3⟩ := (show boX 0 0 1 0 = 0 ∧ boY 0 0 1 0 = 0 ∧ boI 0 0 1 0 = false ∧ boE 0 0 1 0 = 8 by decide +kernel : _)
  rw [e0, e1, e2, e3] at h
  exact h
theorem cn_r1 (w : World) : Calls Try.prog 13 #[.agg #[.int .i64 (-1048576), .int .i64 1000], .int .i64 1099511627776] w fun e' w' => e' = .returned (.tuple #[.int .i64 1100610090827, .int .i64 0]) ∧ Below w.heap.size w w' := by
  have h := read_any (-1048576) 1000 1099511627776 w
  obtain ⟨e0, e1⟩ := (show rdV (-1048576) 1000 1099511627776 = 1100610090827 ∧ rdE (-1048576) 1000 1099511627776 = 0 by decide +kernel : _)
  rw [e0, e1] at h
  exact h
theorem cn_r2 (w : World) : Calls Try.prog 13 #[.agg #[.int .i64 (-1048576), .int .i64 1000], .int .i64 0] w fun e' w' => e' = .returned (.tuple #[.int .i64 (-1048576), .int .i64 0]) ∧ Below w.heap.size w w' := by
  have h := read_any (-1048576) 1000 0 w
  obtain ⟨e0, e1⟩ := (show rdV (-1048576) 1000 0 = (-1048576) ∧ rdE (-1048576) 1000 0 = 0 by decide +kernel : _)
  rw [e0, e1] at h
  exact h
theorem cn_r3 (w : World) : Calls Try.prog 13 #[.agg #[.int .i64 (-1048576), .int .i64 1000], .int .i64 1099511627777] w fun e' w' => e' = .returned (.tuple #[.int .i64 0, .int .i64 2]) ∧ Below w.heap.size w w' := by
  have h := read_any (-1048576) 1000 1099511627777 w
  obtain ⟨e0, e1⟩ := (show rdV (-1048576) 1000 1099511627777 = 0 ∧ rdE (-1048576) 1000 1099511627777 = 2 by decide +kernel : _)
  rw [e0, e1] at h
  exact h
theorem cn_r4 (w : World) : Calls Try.prog 13 #[.agg #[.int .i64 (-1048576), .int .i64 1000], .int .i64 (-1)] w fun e' w' => e' = .returned (.tuple #[.int .i64 0, .int .i64 2]) ∧ Below w.heap.size w w' := by
  have h := read_any (-1048576) 1000 (-1) w
  obtain ⟨e0, e1⟩ := (show rdV (-1048576) 1000 (-1) = 0 ∧ rdE (-1048576) 1000 (-1) = 2 by decide +kernel : _)
  rw [e0, e1] at h
  exact h
theorem cn_r5 (w : World) : Calls Try.prog 13 #[.agg #[.int .i64 0, .int .i64 1001], .int .i64 0] w fun e' w' => e' = .returned (.tuple #[.int .i64 0, .int .i64 8]) ∧ Below w.heap.size w w' := by
  have h := read_any 0 1001 0 w
  obtain ⟨e0, e1⟩ := (show rdV 0 1001 0 = 0 ∧ rdE 0 1001 0 = 8 by decide +kernel : _)
  rw [e0, e1] at h
  exact h
theorem cn_s1 (w : World) : Calls Try.prog 14 #[.agg #[.int .i64 (-1048576), .int .i64 1000], .int .i64 1100610090828] w fun e' w' => e' = .returned (.tuple #[.agg #[.int .i64 0, .int .i64 0], .int .i64 6]) ∧ Below w.heap.size w w' := by
  have h := sure_any (-1048576) 1000 1100610090828 w
  obtain ⟨e0, e1, e2⟩ := (show suF (-1048576) 1000 1100610090828 = 0 ∧ suT (-1048576) 1000 1100610090828 = 0 ∧ suE (-1048576) 1000 1100610090828 = 6 by decide +kernel : _)
  rw [e0, e1, e2] at h
  exact h
theorem cn_s2 (w : World) : Calls Try.prog 14 #[.agg #[.int .i64 (-1048576), .int .i64 1000], .int .i64 1100610090827] w fun e' w' => e' = .returned (.tuple #[.agg #[.int .i64 1099511627776, .int .i64 1099511627776], .int .i64 0]) ∧ Below w.heap.size w w' := by
  have h := sure_any (-1048576) 1000 1100610090827 w
  obtain ⟨e0, e1, e2⟩ := (show suF (-1048576) 1000 1100610090827 = 1099511627776 ∧ suT (-1048576) 1000 1100610090827 = 1099511627776 ∧ suE (-1048576) 1000 1100610090827 = 0 by decide +kernel : _)
  rw [e0, e1, e2] at h
  exact h
theorem cn_s3 (w : World) : Calls Try.prog 14 #[.agg #[.int .i64 0, .int .i64 1000], .int .i64 1000] w fun e' w' => e' = .returned (.tuple #[.agg #[.int .i64 0, .int .i64 0], .int .i64 6]) ∧ Below w.heap.size w w' := by
  have h := sure_any 0 1000 1000 w
  obtain ⟨e0, e1, e2⟩ := (show suF 0 1000 1000 = 0 ∧ suT 0 1000 1000 = 0 ∧ suE 0 1000 1000 = 6 by decide +kernel : _)
  rw [e0, e1, e2] at h
  exact h
theorem cn_s4 (w : World) : Calls Try.prog 14 #[.agg #[.int .i64 0, .int .i64 (-1000)], .int .i64 (-1)] w fun e' w' => e' = .returned (.tuple #[.agg #[.int .i64 0, .int .i64 0], .int .i64 6]) ∧ Below w.heap.size w w' := by
  have h := sure_any 0 (-1000) (-1) w
  obtain ⟨e0, e1, e2⟩ := (show suF 0 (-1000) (-1) = 0 ∧ suT 0 (-1000) (-1) = 0 ∧ suE 0 (-1000) (-1) = 6 by decide +kernel : _)
  rw [e0, e1, e2] at h
  exact h
theorem cn_s5 (w : World) : Calls Try.prog 14 #[.agg #[.int .i64 0, .int .i64 0], .int .i64 (-9223372036854775808)] w fun e' w' => e' = .returned (.tuple #[.agg #[.int .i64 0, .int .i64 0], .int .i64 6]) ∧ Below w.heap.size w w' := by
  have h := sure_any 0 0 (-9223372036854775808) w
  obtain ⟨e0, e1, e2⟩ := (show suF 0 0 (-9223372036854775808) = 0 ∧ suT 0 0 (-9223372036854775808) = 0 ∧ suE 0 0 (-9223372036854775808) = 6 by decide +kernel : _)
  rw [e0, e1, e2] at h
  exact h
theorem cn_s6 (w : World) : Calls Try.prog 14 #[.agg #[.int .i64 0, .int .i64 0], .int .i64 7] w fun e' w' => e' = .returned (.tuple #[.agg #[.int .i64 7, .int .i64 7], .int .i64 0]) ∧ Below w.heap.size w w' := by
  have h := sure_any 0 0 7 w
  obtain ⟨e0, e1, e2⟩ := (show suF 0 0 7 = 7 ∧ suT 0 0 7 = 7 ∧ suE 0 0 7 = 0 by decide +kernel : _)
  rw [e0, e1, e2] at h
  exact h
/-- the numbers from 0 on -/
def upto (n : Nat) : List Int := (List.range n).map fun k : Nat => (k : Int)
theorem upto_len (n : Nat) : (upto n).length = n := by simp [upto]
theorem upto_succ (k : Nat) : (upto (k + 1)).map (Value.int .i64) = (upto k).map (Value.int .i64) ++ [.int .i64 (k : Int)] := by simp [upto, List.range_succ]
theorem upto_at (n k : Nat) (h : k < n) : (upto n).getD k 0 = k := by simp [upto, List.getD, h]
theorem ex_next : neV 0 (upto 1001) = 0 ∧ neE 0 (upto 1001) = 4 ∧ neV 998 (upto 1000) = 999 ∧ neE 998 (upto 1000) = 0 ∧ neV 999 (upto 1000) = 0 ∧ neE 999 (upto 1000) = 6 ∧ neV (-6) [9, -5, 7, 8] = -5 ∧ neE (-6) [9, -5, 7, 8] = 0 := by decide +kernel
theorem next_upto (G cp n : Nat) (t : Int) (w : World) (hn : n ≤ 1001) (hc : ∀ k, k < n → w.cell? ⟨G, k, none⟩ = some (.int .i64 (k : Int))) (V E : Int) (hV : neV t (upto n) = V) (hE : neE t (upto n) = E) :
    Calls Try.prog 15 #[.slice (some ⟨G, 0, none⟩) n cp, .int .i64 t] w fun e' w' => e' = .returned (.tuple #[.int .i64 V, .int .i64 E]) ∧ w = w' := by
  have h := next_any t (.slice (some ⟨G, 0, none⟩) n cp) (upto n) w (by rw [upto_len]; omega) (Or.inr ⟨G, 0, cp, by rw [upto_len], fun k hk => by
    rw [upto_len] at hk
    rw [Nat.zero_add, hc k hk, upto_at n k hk]⟩)
  rwa [hV, hE] at h
theorem next_four (g : Nat) (w : World) (h0 : w.cell? ⟨g, 0, none⟩ = some (.int .i64 9)) (h1 : w.cell? ⟨g, 1, none⟩ = some (.int .i64 (-5))) (h2 : w.cell? ⟨g, 2, none⟩ = some (.int .i64 7)) (h3 : w.cell? ⟨g, 3, none⟩ = some (.int .i64 8)) (V E : Int) (hV : neV (-6) [9, -5, 7, 8] = V) (hE : neE (-6) [9, -5, 7, 8] = E) :
    Calls Try.prog 15 #[.slice (some ⟨g, 0, none⟩) 4 4, .int .i64 (-6)] w fun e' w' => e' = .returned (.tuple #[.int .i64 V, .int .i64 E]) ∧ w = w' := by
  have h := next_any (-6) (.slice (some ⟨g, 0, none⟩) 4 4) [9, -5, 7, 8] w (by decide) (Or.inr ⟨g, 0, 4, rfl, fun k hk => by
    rw [Nat.zero_add]
    have : k = 0 ∨ k = 1 ∨ k = 2 ∨ k = 3 := by simp at hk; omega
    rcases this with rfl | rfl | rfl | rfl
    · exact h0
    · exact h1
    · exact h2
    · exact h3⟩)
  rwa [hV, hE] at h
theorem own_step' {B : Nat} {w wr w1 : World} {o : Obj} {e size n : Nat} {v : Value} {xs : List Value} (hown : wr.ownsRow B e size v n xs) (hg : (wr.alloc o).grownBy w1 v.ownBlock) (hbel : Below B w wr) (hsz : B ≤ wr.heap.size) :
    Below B w w1 ∧ B ≤ w1.heap.size := by
  have hlt := hown.lt
  have h1 : Below B w (wr.alloc o) := hbel.alloc hsz o
  refine ⟨h1.grown hg (by simp; omega) (fun k hk => (hlt k hk).1), ?_⟩
  have := hg.size
  simp at this
  omega
theorem Try.info_i64 : (Try.prog.info? 2).map (fun i => (i.zero, i.size, i.bytes)) = some (some (.int .i64 0), 1, 8) := by kernel_rfl
theorem own_cells1 {w : World} {base : Nat} {e : TypeId} {v : Value} {n : Nat} {xs : List Value} (h : w.ownsRow base e 1 v n xs) (hn : 0 < n) :
    ∃ g cap, v = .slice (some ⟨g, 0, none⟩) n cap ∧ base ≤ g ∧ g < w.heap.size ∧ n ≤ cap ∧ cap ≤ maxLen ∧ ∀ (j : Nat) x, xs[j]? = some x → w.cell? ⟨g, j, none⟩ = some x := by
  obtain ⟨hl, h | ⟨g, cap, cur, rfl, hb, hg, hnc, hcm, hcs, ht⟩⟩ := h
  · omega
  · have hlt : g < w.heap.size := (Array.getElem?_eq_some_iff.1 hg).1
    refine ⟨g, cap, rfl, hb, hlt, hnc, hcm, fun j x hj => ?_⟩
    have hjn : j < n * 1 := by have := (List.getElem?_eq_some_iff.1 hj).1; omega
    have h1 : cur.toList[j]? = some x := by
      have h2 : (cur.toList.take (n * 1))[j]? = cur.toList[j]? := by rw [List.getElem?_take]; rw [if_pos hjn]
      rw [← h2, ht]
      exact hj
    simp only [World.cell?, hg]
    simpa using h1
set_option maxRecDepth 100000 in
set_option maxHeartbeats 40000000 in
theorem names_true (w : World) : Calls Try.prog 3 #[] w fun e' w' => e' = .returned (.bool true) ∧ Below w.heap.size w w' := by
  go_enter Try.func3, Try.ntmps3
  go_wp2_with fail
  refine (cn_c1 _).mono ?_
  rintro e' w1 ⟨rfl, hb⟩
  have HB := Lib.hid hb
  clear hb
  go_wp2_with fail
  refine (cn_c2 _).mono ?_
  rintro e' w2 ⟨rfl, hb⟩
  have HB := Lib.hid (chain HB.out hb)
  clear hb
  go_wp2_with fail
  refine (cn_c3 _).mono ?_
  rintro e' w3 ⟨rfl, hb⟩
  have HB := Lib.hid (chain HB.out hb)
  clear hb
  go_wp2_with fail
  refine (cn_c4 _).mono ?_
  rintro e' w4 ⟨rfl, hb⟩
  have HB := Lib.hid (chain HB.out hb)
  clear hb
  go_wp2_with fail
  refine (cn_i1 _).mono ?_
  rintro e' w5 ⟨rfl, hb⟩
  have HB := Lib.hid (chain HB.out hb)
  clear hb
  go_wp2_with fail
  refine (cn_i2 _).mono ?_
  rintro e' w6 ⟨rfl, hb⟩
  have HB := Lib.hid (chain HB.out hb)
  clear hb
  go_wp2_with fail
  refine (cn_i3 _).mono ?_
  rintro e' w7 ⟨rfl, hb⟩
  have HB := Lib.hid (chain HB.out hb)
  clear hb
  go_wp2_with fail
  refine (cn_b1 _).mono ?_
  rintro e' w8 ⟨rfl, hb⟩
  have HB := Lib.hid (chain HB.out hb)
  clear hb
  go_upto_region 3 with fail
  obtain ⟨N_w, hN⟩ : ∃ N, w8.heap.size = N := ⟨_, rfl⟩
  generalize hv : World.alloc _ _ = v
  have T_w : RowKit.Hid (Two N_w v 5 5) := Lib.hid (by rw [← hv, ← hN]; exact Two.new w8 _ _ _)
  have HB : RowKit.Hid (Below w.heap.size w v) := Lib.hid (by rw [← hv]; exact HB.out.alloc HB.out.size _)
  clear hv
  try rw [hN]
  clear hN
  obtain ⟨w9, rfl⟩ : ∃ w0, w0 = v := ⟨_, rfl⟩
  go_wp2_with fail
  refine (cn_b2 _).mono ?_
  rintro e' w10 ⟨rfl, hb⟩
  have T_w := Lib.hid (T_w.out.on hb)
  have HB := Lib.hid (chain HB.out hb)
  clear hb
  go_upto_region 4 with fail
  generalize hv : World.alloc _ _ = v
  have T_w := Lib.hid (show Two N_w v 5 5 by rw [← hv]; exact T_w.out.on (below_new _ _))
  have HB : RowKit.Hid (Below w.heap.size w v) := Lib.hid (by rw [← hv]; exact HB.out.alloc HB.out.size _)
  clear hv
  obtain ⟨w11, rfl⟩ : ∃ w0, w0 = v := ⟨_, rfl⟩
  go_wp2_with fail
  refine (cn_b3 _).mono ?_
  rintro e' w12 ⟨rfl, hb⟩
  have T_w := Lib.hid (T_w.out.on hb)
  have HB := Lib.hid (chain HB.out hb)
  clear hb
  go_upto_region 5 with fail
  generalize hv : World.alloc _ _ = v
  have T_w := Lib.hid (show Two N_w v 5 5 by rw [← hv]; exact T_w.out.on (below_new _ _))
  have HB : RowKit.Hid (Below w.heap.size w v) := Lib.hid (by rw [← hv]; exact HB.out.alloc HB.out.size _)
  clear hv
  obtain ⟨w13, rfl⟩ : ∃ w0, w0 = v := ⟨_, rfl⟩
  obtain ⟨x0, x1, _, _⟩ := T_w.out
  go_upto_region 7 with fail
  obtain ⟨N_f, hN⟩ : ∃ N, w13.heap.size = N := ⟨_, rfl⟩
  generalize hv : World.alloc _ _ = v
  have T_w := Lib.hid (show Two N_w v 5 5 by rw [← hv]; exact T_w.out.on (below_new _ _))
  have T_f : RowKit.Hid (Two N_f v (-1048576) 1000) := Lib.hid (by rw [← hv, ← hN]; exact Two.new w13 _ _ _)
  have HB : RowKit.Hid (Below w.heap.size w v) := Lib.hid (by rw [← hv]; exact HB.out.alloc HB.out.size _)
  clear hv
  try rw [hN]
  clear hN
  obtain ⟨w14, rfl⟩ : ∃ w0, w0 = v := ⟨_, rfl⟩
  clear x0 x1 T_w
  obtain ⟨x00, x01, _, _⟩ := T_f.out
  go_wp2_with fail
  refine (cn_r1 _).mono ?_
  rintro e' w15 ⟨rfl, hb⟩
  have T_f := Lib.hid (T_f.out.on hb)
  have HB := Lib.hid (chain HB.out hb)
  clear hb
  clear x00 x01
  obtain ⟨x00, x01, _, _⟩ := T_f.out
  go_wp2_with fail
  refine (cn_r2 _).mono ?_
  rintro e' w16 ⟨rfl, hb⟩
  have T_f := Lib.hid (T_f.out.on hb)
  have HB := Lib.hid (chain HB.out hb)
  clear hb
  clear x00 x01
  obtain ⟨x00, x01, _, _⟩ := T_f.out
  go_wp2_with fail
  refine (cn_r3 _).mono ?_
  rintro e' w17 ⟨rfl, hb⟩
  have T_f := Lib.hid (T_f.out.on hb)
  have HB := Lib.hid (chain HB.out hb)
  clear hb
  clear x00 x01
  obtain ⟨x00, x01, _, _⟩ := T_f.out
  go_wp2_with fail
  refine (cn_r4 _).mono ?_
  rintro e' w18 ⟨rfl, hb⟩
  have T_f := Lib.hid (T_f.out.on hb)
  have HB := Lib.hid (chain HB.out hb)
  clear hb
  clear x00 x01
  go_wp2_with fail
  refine (cn_r5 _).mono ?_
  rintro e' w19 ⟨rfl, hb⟩
  have T_f := Lib.hid (T_f.out.on hb)
  have HB := Lib.hid (chain HB.out hb)
  clear hb
  obtain ⟨x00, x01, _, _⟩ := T_f.out
  go_wp2_with fail
  refine (cn_s1 _).mono ?_
  rintro e' w20 ⟨rfl, hb⟩
  have T_f := Lib.hid (T_f.out.on hb)
  have HB := Lib.hid (chain HB.out hb)
  clear hb
  clear x00 x01
  go_upto_region 13 with fail
  generalize hv : World.alloc _ _ = v
  have T_f := Lib.hid (show Two N_f v (-1048576) 1000 by rw [← hv]; exact T_f.out.on (below_new _ _))
  have HB : RowKit.Hid (Below w.heap.size w v) := Lib.hid (by rw [← hv]; exact HB.out.alloc HB.out.size _)
  clear hv
  obtain ⟨w21, rfl⟩ : ∃ w0, w0 = v := ⟨_, rfl⟩
  obtain ⟨x00, x01, _, _⟩ := T_f.out
  go_wp2_with fail
  refine (cn_s2 _).mono ?_
  rintro e' w22 ⟨rfl, hb⟩
  have T_f := Lib.hid (T_f.out.on hb)
  have HB := Lib.hid (chain HB.out hb)
  clear hb
  clear x00 x01
  go_upto_region 14 with fail
  obtain ⟨N_x, hN⟩ : ∃ N, w22.heap.size = N := ⟨_, rfl⟩
  generalize hv : World.alloc _ _ = v
  have T_f := Lib.hid (show Two N_f v (-1048576) 1000 by rw [← hv]; exact T_f.out.on (below_new _ _))
  have T_x : RowKit.Hid (Two N_x v 1099511627776 1099511627776) := Lib.hid (by rw [← hv, ← hN]; exact Two.new w22 _ _ _)
  have HB : RowKit.Hid (Below w.heap.size w v) := Lib.hid (by rw [← hv]; exact HB.out.alloc HB.out.size _)
  clear hv
  try rw [hN]
  clear hN
  obtain ⟨w23, rfl⟩ : ∃ w0, w0 = v := ⟨_, rfl⟩
  clear T_f
  go_wp2_with fail
  refine (cn_s3 _).mono ?_
  rintro e' w24 ⟨rfl, hb⟩
  have T_x := Lib.hid (T_x.out.on hb)
  have HB := Lib.hid (chain HB.out hb)
  clear hb
  go_upto_region 15 with fail
  generalize hv : World.alloc _ _ = v
  have T_x := Lib.hid (show Two N_x v 1099511627776 1099511627776 by rw [← hv]; exact T_x.out.on (below_new _ _))
  have HB : RowKit.Hid (Below w.heap.size w v) := Lib.hid (by rw [← hv]; exact HB.out.alloc HB.out.size _)
  clear hv
  obtain ⟨w25, rfl⟩ : ∃ w0, w0 = v := ⟨_, rfl⟩
  go_wp2_with fail
  refine (cn_s4 _).mono ?_
  rintro e' w26 ⟨rfl, hb⟩
  have T_x := Lib.hid (T_x.out.on hb)
  have HB := Lib.hid (chain HB.out hb)
  clear hb
  go_upto_region 16 with fail
  obtain ⟨N_y, hN⟩ : ∃ N, w26.heap.size = N := ⟨_, rfl⟩
  generalize hv : World.alloc _ _ = v
  have T_x := Lib.hid (show Two N_x v 1099511627776 1099511627776 by rw [← hv]; exact T_x.out.on (below_new _ _))
  have T_y : RowKit.Hid (Two N_y v 0 0) := Lib.hid (by rw [← hv, ← hN]; exact Two.new w26 _ _ _)
  have HB : RowKit.Hid (Below w.heap.size w v) := Lib.hid (by rw [← hv]; exact HB.out.alloc HB.out.size _)
  clear hv
  try rw [hN]
  clear hN
  obtain ⟨w27, rfl⟩ : ∃ w0, w0 = v := ⟨_, rfl⟩
  go_wp2_with fail
  refine (cn_s5 _).mono ?_
  rintro e' w28 ⟨rfl, hb⟩
  have T_x := Lib.hid (T_x.out.on hb)
  have T_y := Lib.hid (T_y.out.on hb)
  have HB := Lib.hid (chain HB.out hb)
  clear hb
  go_upto_region 17 with fail
  generalize hv : World.alloc _ _ = v
  have T_x := Lib.hid (show Two N_x v 1099511627776 1099511627776 by rw [← hv]; exact T_x.out.on (below_new _ _))
  have T_y := Lib.hid (show Two N_y v 0 0 by rw [← hv]; exact T_y.out.on (below_new _ _))
  have HB : RowKit.Hid (Below w.heap.size w v) := Lib.hid (by rw [← hv]; exact HB.out.alloc HB.out.size _)
  clear hv
  obtain ⟨w29, rfl⟩ : ∃ w0, w0 = v := ⟨_, rfl⟩
  go_wp2_with fail
  refine (cn_s6 _).mono ?_
  rintro e' w30 ⟨rfl, hb⟩
  have T_x := Lib.hid (T_x.out.on hb)
  have T_y := Lib.hid (T_y.out.on hb)
  have HB := Lib.hid (chain HB.out hb)
  clear hb
  obtain ⟨x0, x1, _, _⟩ := T_x.out
  obtain ⟨y0, y1, _, _⟩ := T_y.out
  have zx := T_x.out.lt
  have zy := T_y.out.lt
  go_upto_region 19 with fail
  generalize hv : World.alloc _ _ = v
  have HBV : RowKit.Hid (Below w.heap.size w v) := Lib.hid (by rw [← hv]; exact HB.out.alloc HB.out.size _)
  clear hv x0 x1 y0 y1 zx zy T_x T_y HB
  obtain ⟨i0, hi, hz0, hz1, hz2⟩ := info_parts Try.info_i64
  go_wp2_with fail
  go_loopw [36, 37] (fun s i wr => ∃ k : Nat, k ≤ 1001 ∧ i = .int .i64 (k : Int) ∧ wr.ownsRow v.heap.size 2 1 s k ((upto k).map (Value.int .i64)) ∧ Below v.heap.size v wr) (fun _ i _ => 1002 - (intOf i).toNat)
  case atStart => exact ⟨0, Nat.zero_le _, rfl, World.ownsRow_nil _ _ _ _, Below.refl _ _⟩
  case round =>
    obtain ⟨k, hk, rfl, hown, hbl⟩ := hrel
    have HO := Lib.hid hown
    have HBL := Lib.hid hbl
    by_cases hlt : k < 1001
    · have hki : (k : Int) < 1001 := by omega
      clear hown hbl
      go_wp2_with (at_builtin; refine wpList_append_own _ rfl (.tmp 249) (.tmp 251) 35 rfl v.heap.size 2 i0 (.int .i64 0) 1 8 Try.underlying35 hi hz0 hz1 hz2 rfl (by decide) _ _ _ rfl (HO.out.alloc _) ⟨wr.heap.size, 0, none⟩ 1 1 [.int .i64 (k : Int)] rfl rfl ?c1 ?c2 ?c3 ?c4 ?c5 ?_; rotate_left 5; intro v' w5 hown5 hgrow5 _; have HO5 := Lib.hid hown5; have HG5 := Lib.hid hgrow5; clear hown5 hgrow5)
      case c1 => exact cell_one_new _ _ _
      case c2 => simp [Value.oneCell']
      case c3 => unfold maxLen; omega
      case c4 => omega
      case c5 => have := HBL.out.size; simp; omega
      obtain ⟨g1, g2⟩ := own_step' HO.out HG5.out HBL.out HBL.out.size
      refine ⟨⟨k + 1, by omega, by go_num, ?_, g1⟩, by simp [intOf]; omega⟩
      rw [upto_succ]
      exact HO5.out
    · have hk8 : k = 1001 := by omega
      have hge : (1001 : Int) ≤ (k : Int) := by omega
      have hro := hown
      rw [hk8] at hro
      obtain ⟨G, cp, rfl, hG, hGl, hcp, hcm, hcells⟩ := own_cells1 hro (by omega)
      have HC : RowKit.Hid (∀ j, j < 1001 → wr.cell? ⟨G, j, none⟩ = some (.int .i64 (j : Int))) := Lib.hid (fun j hj => hcells j _ (by simp [upto, hj]))
      have HB := Lib.hid (HBV.out.trans (HBL.out.mono HBV.out.size))
      clear hown hbl hro hcells hG HO HBL HBV hk8
      unfold maxLen at hcm
      obtain ⟨f1, f2, f3, f4, f5, f6, f7, f8⟩ := ex_next
      have N1 := Lib.hid (fun (W : World) (hb : Below wr.heap.size wr W) => next_upto G cp 1001 0 W (by omega) (fun k hk => (hb.cell (p := ⟨G, k, none⟩) hGl).trans (HC.out k hk)) 0 4 f1 f2)
      have N2 := Lib.hid (fun (W : World) (hb : Below wr.heap.size wr W) => next_upto G cp 1000 998 W (by omega) (fun k hk => (hb.cell (p := ⟨G, k, none⟩) hGl).trans (HC.out k (by omega))) 999 0 f3 f4)
      have N3 := Lib.hid (fun (W : World) (hb : Below wr.heap.size wr W) => next_upto G cp 1000 999 W (by omega) (fun k hk => (hb.cell (p := ⟨G, k, none⟩) hGl).trans (HC.out k (by omega))) 0 6 f5 f6)
      have N4 := Lib.hid (fun (g : Nat) (W : World) h0 h1 h2 h3 => next_four g W h0 h1 h2 h3 _ _ f7 f8)
      clear f1 f2 f3 f4 f5 f6 f7 f8
      go_wp2_with fail
      refine (N1.out _ (Below.refl _ _)).mono ?_
      rintro e' u1 ⟨rfl, rfl⟩
      go_wp2_with fail
      refine (N2.out _ (Below.refl _ _)).mono ?_
      rintro e' u2 ⟨rfl, rfl⟩
      go_wp2_with fail
      refine (N3.out _ (Below.refl _ _)).mono ?_
      rintro e' u3 ⟨rfl, rfl⟩
      go_wp2_with fail
      refine (N4.out _ _ (by simp) (by simp) (by simp) (by simp)).mono ?_
      rintro e' u4 ⟨rfl, rfl⟩
      go_wp2_with fail
      refine (alive_any _).mono ?_
      rintro e' u5 ⟨rfl, hb5⟩
      have HB5 := Lib.hid (chain (HB.out.alloc HB.out.size _) hb5)
      clear hb5
      go_wp2_with fail
      go_ret
      exact ⟨rfl, HB5.out⟩

end Go.Proofs.Ytopdblkgchcdnaa
