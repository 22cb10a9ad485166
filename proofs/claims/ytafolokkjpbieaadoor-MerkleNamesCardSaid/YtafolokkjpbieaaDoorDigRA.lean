/-
  THE WALKS over the reference of SHA-256: rotations, the table, the bytes with their ending.
-/
import Derived.Test.YtafolokkjpbieaaDoorDigDoor
import Derived.Test.YtafolokkjpbieaaDoorDigSame
import Derived.Laws.AppendOwnNone
namespace Go.Proofs.YtafolokkjpbieaaDoor
open Go.RowKit Sha
set_option linter.unusedVariables false
set_option linter.unusedSimpArgs false
set_option maxRecDepth 100000 in
set_option maxHeartbeats 1000000 in
theorem rot_ref (x : UInt32) (n : Nat) (h1 : 1 ≤ n) (h2 : n < 32) (w : World) :
    Calls Tryd.prog 67 #[.int .u32 (u x), .int .i64 (n : Int)] w fun e w' => e = .returned (.int .u32 (u (rr x n))) ∧ w = w' := by
  have e := rr_or' x n h1 h2
  have HE := Lib.hid e
  clear e
  go_enter Tryd.func67, Tryd.ntmps67
  go_wp2_with fail
  go_ret
  exact ⟨ret_eq (congrArg (Value.int .u32) HE.out), rfl⟩
theorem rot_x (x : UInt32) (n : Nat) (h1 : 1 ≤ n) (h2 : n < 32) (w : World) :
    Calls Tryd.prog 67 #[.int .u32 (u x), .int .i64 (n : Int)] w fun e w' => e = .returned (.int .u32 (u (rr x n))) ∧ w = w' := rot_ref x n h1 h2 w
theorem rot_7 (x : UInt32) (w : World) : Calls Tryd.prog 67 #[.int .u32 (u x), .int .i64 7] w fun e w' => e = .returned (.int .u32 (u (rr x 7))) ∧ w = w' := rot_ref x 7 (by decide) (by decide) w
theorem rot_18 (x : UInt32) (w : World) : Calls Tryd.prog 67 #[.int .u32 (u x), .int .i64 18] w fun e w' => e = .returned (.int .u32 (u (rr x 18))) ∧ w = w' := rot_ref x 18 (by decide) (by decide) w
theorem rot_17 (x : UInt32) (w : World) : Calls Tryd.prog 67 #[.int .u32 (u x), .int .i64 17] w fun e w' => e = .returned (.int .u32 (u (rr x 17))) ∧ w = w' := rot_ref x 17 (by decide) (by decide) w
theorem rot_19 (x : UInt32) (w : World) : Calls Tryd.prog 67 #[.int .u32 (u x), .int .i64 19] w fun e w' => e = .returned (.int .u32 (u (rr x 19))) ∧ w = w' := rot_ref x 19 (by decide) (by decide) w
theorem rot_6 (x : UInt32) (w : World) : Calls Tryd.prog 67 #[.int .u32 (u x), .int .i64 6] w fun e w' => e = .returned (.int .u32 (u (rr x 6))) ∧ w = w' := rot_ref x 6 (by decide) (by decide) w
theorem rot_11 (x : UInt32) (w : World) : Calls Tryd.prog 67 #[.int .u32 (u x), .int .i64 11] w fun e w' => e = .returned (.int .u32 (u (rr x 11))) ∧ w = w' := rot_ref x 11 (by decide) (by decide) w
theorem rot_25 (x : UInt32) (w : World) : Calls Tryd.prog 67 #[.int .u32 (u x), .int .i64 25] w fun e w' => e = .returned (.int .u32 (u (rr x 25))) ∧ w = w' := rot_ref x 25 (by decide) (by decide) w
theorem rot_2 (x : UInt32) (w : World) : Calls Tryd.prog 67 #[.int .u32 (u x), .int .i64 2] w fun e w' => e = .returned (.int .u32 (u (rr x 2))) ∧ w = w' := rot_ref x 2 (by decide) (by decide) w
theorem rot_13 (x : UInt32) (w : World) : Calls Tryd.prog 67 #[.int .u32 (u x), .int .i64 13] w fun e w' => e = .returned (.int .u32 (u (rr x 13))) ∧ w = w' := rot_ref x 13 (by decide) (by decide) w
theorem rot_22 (x : UInt32) (w : World) : Calls Tryd.prog 67 #[.int .u32 (u x), .int .i64 22] w fun e w' => e = .returned (.int .u32 (u (rr x 22))) ∧ w = w' := rot_ref x 22 (by decide) (by decide) w
/-- what the table's cells are -/
def KC : Array Value := #[.int .u32 1116352408, .int .u32 1899447441, .int .u32 3049323471, .int .u32 3921009573, .int .u32 961987163, .int .u32 1508970993, .int .u32 2453635748, .int .u32 2870763221, .int .u32 3624381080, .int .u32 310598401, .int .u32 607225278, .int .u32 1426881987, .int .u32 1925078388, .int .u32 2162078206, .int .u32 2614888103, .int .u32 3248222580, .int .u32 3835390401, .int .u32 4022224774, .int .u32 264347078, .int .u32 604807628, .int .u32 770255983, .int .u32 1249150122, .int .u32 1555081692, .int .u32 1996064986, .int .u32 2554220882, .int .u32 2821834349, .int .u32 2952996808, .int .u32 3210313671, .int .u32 3336571891, .int .u32 3584528711, .int .u32 113926993, .int .u32 338241895, .int .u32 666307205, .int .u32 773529912, .int .u32 1294757372, .int .u32 1396182291, .int .u32 1695183700, .int .u32 1986661051, .int .u32 2177026350, .int .u32 2456956037, .int .u32 2730485921, .int .u32 2820302411, .int .u32 3259730800, .int .u32 3345764771, .int .u32 3516065817, .int .u32 3600352804, .int .u32 4094571909, .int .u32 275423344, .int .u32 430227734, .int .u32 506948616, .int .u32 659060556, .int .u32 883997877, .int .u32 958139571, .int .u32 1322822218, .int .u32 1537002063, .int .u32 1747873779, .int .u32 1955562222, .int .u32 2024104815, .int .u32 2227730452, .int .u32 2361852424, .int .u32 2428436474, .int .u32 2756734187, .int .u32 3204031479, .int .u32 3329325298]
theorem K_cells : wcells K = KC := by rfl
set_option maxRecDepth 100000 in
set_option maxHeartbeats 1000000 in
theorem table_ref (w : World) :
    Calls Tryd.prog 65 #[] w fun e w' => e = .returned (.agg (wcells K)) ∧ Below w.heap.size w w' := by
  have hs : (Tryd.prog.info? 93).map (·.size) = some KC.size := by kernel_rfl
  have hone : KC.all (·.oneCell') = true := by rw [← K_cells]; exact wcells_one K
  have HSZ := Lib.hid hs
  have HONE := Lib.hid hone
  clear hs hone
  rw [K_cells]
  go_enter Tryd.func65, Tryd.ntmps65
  go_wp2_with (refine wpList_store_row rfl 93 (.tmp 0) _ rfl w.heap.size KC rfl rfl 93 _ (heap_alloc_new _ _) HSZ.out rfl HONE.out ?_)
  rw [World.setRow_alloc_new]
  simp only [Act.put]
  refine bodyPost_ret (v := .agg KC) (results_cell_row rfl _ _ w.heap.size 93 _ (0, 0) _ rfl (heap_alloc_new _ _) Tryd.underlying93 rfl HSZ.out) rfl ⟨rfl, below_new _ _⟩
def slLen : Value → Nat
  | .slice _ n _ => n
  | _ => 0
/-- append of a slice that is read, to an own row -/
theorem append_src {w : World} {ops : Array Oper} {rest : List Oper} {o : Oper} {a : Act} {Q : Exit → Act → World → Prop} (hgd : o.guard = none) (s x : Operand)
    (ho : o.op = .call { callee := .builtin .append, args := #[s, x], argTypes := #[42, 42] }) (base : Nat) (v : Value) (n : Nat) (xs : List Value) (hs : a.eval s = v) (hown : w.ownsRow base 5 1 v n xs)
    (A : Option Addr) (L : List UInt8) (c m : Nat) (hm : L.length = m) (hx : a.eval x = .slice A m c) (hA : A = none → c = 0) (hsrc : SrcAt A L w) (h63 : n + m ≤ 1000000000) (hbase : base ≤ w.heap.size)
    (h : ∀ v' w', w'.ownsRow base 5 1 v' (n + m) (xs ++ bvals L) → w.grownBy w' v.ownBlock → wpList Tryd.prog ops Q rest (a.put o.dst v') w') : wpList Tryd.prog ops Q (o :: rest) a w := by
  obtain ⟨i0, hi, hz0, hz1, hz2⟩ := info_parts Tryd.info_byte
  subst hm
  cases A with
  | none =>
    have hL : L = [] := by
      by_cases e : L = []
      · exact e
      · obtain ⟨g, o, e2, _⟩ := hsrc e
        cases e2
    subst hL
    obtain rfl := hA rfl
    exact wpList_append_own_none hgd s x 42 ho base 5 i0 1 Tryd.underlying42 hi v n xs hs hown hx (h v w (by simpa [bvals] using hown) (World.grownBy.refl _ _))
  | some ad =>
    refine wpList_append_own _ hgd s x 42 ho base 5 i0 (.int .u8 0) 1 1 Tryd.underlying42 hi hz0 hz1 hz2 rfl (by decide) v n xs hs hown ad L.length c (bvals L) hx (by rw [bvals_len, Nat.mul_one]) ?_ ?_ (by unfold maxLen; omega) (by omega) hbase (fun v' w' h1 h2 _ => h v' w' h1 h2)
    · intro j u hj
      unfold bvals at hj
      rw [List.getElem?_map] at hj
      obtain ⟨y, hy, rfl⟩ := Option.map_eq_some_iff.1 hj
      obtain ⟨g, o, e, hc⟩ := hsrc (by intro e; rw [e] at hy; simp at hy)
      obtain rfl := Option.some.inj e
      rw [add_eq]
      exact hc j y hy
    · intro v hv
      unfold bvals at hv
      obtain ⟨x, _, rfl⟩ := List.mem_map.1 hv
      rfl
set_option maxRecDepth 100000 in
set_option maxHeartbeats 2000000 in
theorem padded_ref (l : List UInt8) (A : Option Addr) (c : Nat) (hl : l.length ≤ 100000) (hc : l.length ≤ c) (hA : A = none → c = 0) (w : World) (hs : SrcAt A l w) :
    Calls Tryd.prog 66 #[.slice A l.length c] w fun e w' => ∃ v, e = .returned v ∧ w'.ownsRow w.heap.size 5 1 v (l ++ ending l.length).length (bvals (l ++ ending l.length)) ∧ Below w.heap.size w w' := by
  obtain ⟨n, hn⟩ : ∃ n, l.length = n := ⟨_, rfl⟩
  rw [hn] at hl hc ⊢
  have HN := Lib.hid hn
  have HA := Lib.hid hA
  have HS := Lib.hid (hs.on (below_new w (.cells #[] 5)))
  have hown0 : (w.alloc (.cells #[] 5)).ownsRow w.heap.size 5 1 (.slice (some ⟨w.heap.size, 0, none⟩) 0 0) 0 (bvals []) := ⟨rfl, Or.inr ⟨w.heap.size, 0, #[], rfl, Nat.le_refl _, heap_alloc_new _ _, Nat.le_refl _, Nat.zero_le _, rfl, rfl⟩⟩
  have HO0 := Lib.hid hown0
  obtain ⟨i0, hi, hz0, hz1, hz2⟩ := info_parts Tryd.info_byte
  clear hn hs hA hown0
  go_enter Tryd.func66, Tryd.ntmps66
  go_upto_region 2 with (at_builtin; refine append_src rfl (.tmp 6) (.tmp 7) rfl w.heap.size _ _ _ rfl HO0.out A l c n HN.out rfl HA.out HS.out (by omega) (by simp) ?_; intro v1 w1 hown1 hg1; have HO1 := Lib.hid hown1; have HG1 := Lib.hid hg1; clear hown1 hg1)
  have hb1 : Below w.heap.size w w1 := (below_new w _).grown HG1.out (by simp) (fun k hk => by cases hk; exact Nat.le_refl _)
  have HB1 := Lib.hid hb1
  rw [Nat.zero_add] at HO1
  clear hb1 HG1
  have hsz1 := HB1.out.size
  go_wp2_with (at_builtin; refine wpList_append_own _ rfl (.tmp 9) (.tmp 10) 42 rfl w.heap.size 5 i0 (.int .u8 0) 1 1 Tryd.underlying42 hi hz0 hz1 hz2 rfl (by decide) _ _ _ rfl (HO1.out.alloc _) ⟨w1.heap.size, 0, none⟩ 1 1 [.int .u8 128] rfl rfl (cells_one _ _ _) (by simp [Value.oneCell']) (by unfold maxLen; omega) (by omega) (by simp; omega) ?_; intro v' w5 hown5 hgrow5 hnil; have HO5 := Lib.hid hown5; have HG5 := Lib.hid hgrow5; clear hown5 hgrow5 hnil)
  obtain ⟨b5, s5⟩ := own_step' HO1.out HG5.out HB1.out HB1.out.size
  have hz5 : w.heap.size < w5.heap.size := by
    have h := HG5.out.size
    simp at h
    omega
  have ho5 : w5.ownsRow w.heap.size 5 1 v' (n + 1 + 0) (bvals (l ++ 128 :: List.replicate 0 0)) := by
    have h := HO5.out
    rw [show bvals [] ++ bvals l = bvals l from rfl] at h
    rw [bvals_app]
    exact h
  have HOL := Lib.hid ho5
  have HBL := Lib.hid b5
  obtain ⟨Z, hZ⟩ : ∃ Z, (119 - n % 64) % 64 = Z := ⟨_, rfl⟩
  have HZ := Lib.hid hZ
  clear b5 s5 ho5 hsz1 hZ HO1 HB1 HO5 HG5 HS HO0 HA
  go_loopw [3] (fun v wr => ∃ z : Nat, z ≤ Z ∧ wr.ownsRow w.heap.size 5 1 v (n + 1 + z) (bvals (l ++ 128 :: List.replicate z 0)) ∧ Below w.heap.size w wr ∧ w.heap.size < wr.heap.size) (fun v _ => n + 100 - slLen v)
  case atStart => exact ⟨0, by omega, HOL.out, HBL.out, hz5⟩
  case round =>
    obtain ⟨z, hz, hown, hbel, hlt⟩ := hrel
    clear HOL HBL hz5
    have HO := Lib.hid hown
    have HB := Lib.hid hbel
    obtain ⟨g, cap, rfl, hg1, hg2, hg3, hg4, _⟩ := own_cells1 hown (by omega)
    clear hown hbel
    have hZ := HZ.out
    by_cases hm : (n + 1 + z) % 64 = 56
    · have hzz : z = Z := by omega
      subst hzz
      have hb56 : (((n + 1 + z : Nat) : Int) % 64 != 56) = false := by rw [bne_eq_false_iff_eq]; omega
      obtain ⟨L, hL⟩ : ∃ L, n + 1 + z = L := ⟨_, rfl⟩
      rw [hL] at hb56 hg3
      have hLb : L ≤ 100200 := by omega
      have HL := Lib.hid hL
      have hown2 : wr.ownsRow w.heap.size 5 1 (.slice (some ⟨g, 0, none⟩) (n + 1 + z) cap) (L + 0) (bvals (l ++ endK n 0)) := by
        have h := HO.out
        unfold endK
        rw [HZ.out, List.take_zero, List.append_nil, ← hL]
        exact h
      have HO2 := Lib.hid hown2
      rw [hL] at HO2
      try rw [hL]
      clear hm hZ hL hown2 HO
      go_wp2_with fail
      go_loopw [3, 5] (fun v i wr => ∃ j : Nat, j ≤ 8 ∧ i = .int .i64 (7 - (j : Int)) ∧ wr.ownsRow w.heap.size 5 1 v (L + j) (bvals (l ++ endK n j)) ∧ Below w.heap.size w wr ∧ w.heap.size < wr.heap.size) (fun _ i _ => (intOf i + 1).toNat)
      case atStart => exact ⟨0, by omega, rfl, HO2.out, HB.out, hlt⟩
      case round =>
        obtain ⟨j, hj, rfl, hown, hbel, hlt2⟩ := hrel
        clear HO2 HB hlt
        have HO := Lib.hid hown
        have HB := Lib.hid hbel
        clear hown hbel
        by_cases hj8 : j < 8
        · have hge : (0 : Int) ≤ 7 - (j : Int) := by omega
          have HE := Lib.hid (be8_at n j hj8)
          have hs1 : 8 * (7 - (j : Int)) = 56 - 8 * (j : Int) := by omega
          go_wp2_with (at_builtin; refine wpList_append_own _ rfl (.tmp 27) (.tmp 34) 42 rfl w.heap.size 5 i0 (.int .u8 0) 1 1 Tryd.underlying42 hi hz0 hz1 hz2 rfl (by decide) _ _ _ rfl (HO.out.alloc _) ⟨wr.heap.size, 0, none⟩ 1 1 [_] rfl rfl (cells_one _ _ _) (by simp [Value.oneCell']) (by unfold maxLen; omega) (by omega) (by simp; omega) ?_; intro v' w5 hown5 hgrow5 hnil; have HO5 := Lib.hid hown5; have HG5 := Lib.hid hgrow5; clear hown5 hgrow5 hnil)
          obtain ⟨b5, s5⟩ := own_step' HO.out HG5.out HB.out HB.out.size
          have hz5 : w.heap.size < w5.heap.size := by
            have h := HG5.out.size
            simp at h
            omega
          refine ⟨⟨j + 1, by omega, congrArg (Value.int _) (by omega), ?_, b5, hz5⟩, by simp [intOf]; omega⟩
          have h := HO5.out
          rw [show (n : Int) * 8 = 8 * (n : Int) by omega, HE.out] at h
          rw [endK_step n j hj8, ← List.append_assoc, bvals_app]
          exact h
        · have hj8' : j = 8 := by omega
          subst hj8'
          have hlt3 : ¬ (0 : Int) ≤ 7 - ((8 : Nat) : Int) := by omega
          have hlen : l.length + (ending n).length = L + 8 := by
            rw [HN.out, ← endK_all, endK_len n 8 (by omega), HZ.out, ← HL.out]
            omega
          have HLEN := Lib.hid hlen
          clear hlen
          go_wp2_with fail
          go_ret
          refine ⟨_, rfl, ?_, HB.out⟩
          rw [HLEN.out, ← endK_all]
          exact HO.out
    · have hb56 : (((n + 1 + z : Nat) : Int) % 64 != 56) = true := by rw [bne_iff_ne]; omega
      obtain ⟨L, hL⟩ : ∃ L, n + 1 + z = L := ⟨_, rfl⟩
      have hzZ : z + 1 ≤ Z := by omega
      have hLb : L ≤ 100200 := by omega
      have HL := Lib.hid hL
      rw [hL] at HO hb56 hg3
      try rw [hL]
      clear hL hm hZ
      go_wp2_with (at_builtin; refine wpList_append_own _ rfl (.tmp 16) (.tmp 17) 42 rfl w.heap.size 5 i0 (.int .u8 0) 1 1 Tryd.underlying42 hi hz0 hz1 hz2 rfl (by decide) _ _ _ rfl (HO.out.alloc _) ⟨wr.heap.size, 0, none⟩ 1 1 [.int .u8 0] rfl rfl (cells_one _ _ _) (by simp [Value.oneCell']) (by unfold maxLen; omega) (by omega) (by simp; omega) ?_; intro v' w5 hown5 hgrow5 hnil; have HO5 := Lib.hid hown5; have HG5 := Lib.hid hgrow5; clear hown5 hgrow5 hnil)
      obtain ⟨b5, s5⟩ := own_step' HO.out HG5.out HB.out HB.out.size
      have hz5 : w.heap.size < w5.heap.size := by
        have h := HG5.out.size
        simp at h
        omega
      obtain ⟨g2, cap2, rfl, _⟩ := own_cells1 HO5.out (by omega)
      refine ⟨⟨z + 1, hzZ, ?_, b5, hz5⟩, by simp [slLen]; have := HL.out; have := HZ.out; omega⟩
      have h := HO5.out
      rw [← HL.out] at h
      rw [show l ++ 128 :: List.replicate (z + 1) 0 = (l ++ 128 :: List.replicate z 0) ++ [0] by rw [List.replicate_succ']; simp, bvals_app]
      rw [← HL.out]
      exact h
end Go.Proofs.YtafolokkjpbieaaDoor
