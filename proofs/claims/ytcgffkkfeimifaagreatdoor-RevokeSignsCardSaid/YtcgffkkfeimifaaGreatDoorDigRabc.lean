import Derived.Test.YtcgffkkfeimifaaGreatDoorDigDoor
import Derived.Test.YtcgffkkfeimifaaGreatDoorDigSame
import Derived.Laws.AppendOwnNone
namespace Go.Proofs.YtcgffkkfeimifaaGreatDoor
open Go.RowKit Sha
set_option linter.unusedVariables false
set_option linter.unusedSimpArgs false
set_option maxRecDepth 100000 in
set_option maxHeartbeats 1000000 in
theorem rot_ref (x : UInt32) (n : Nat) (h1 : 1 ≤ n) (h2 : n < 32) (w : World) :
  Calls Tryz.prog 153 #[.int .u32 (u x), .int .i64 (n : Int)] w fun e w' => e = .returned (.int .u32 (u (rr x n))) ∧ w = w' := by
 have e := rr_or' x n h1 h2
 have HE := Lib.hid e
 clear e
 go_enter Tryz.func153, Tryz.ntmps153
 go_wp2_with fail
 go_ret
 exact ⟨ret_eq (congrArg (Value.int .u32) HE.out), rfl⟩
theorem rot_7 (x : UInt32) (w : World) : Calls Tryz.prog 153 #[.int .u32 (u x), .int .i64 7] w fun e w' => e = .returned (.int .u32 (u (rr x 7))) ∧ w = w' := rot_ref x 7 (by decide) (by decide) w
theorem rot_18 (x : UInt32) (w : World) : Calls Tryz.prog 153 #[.int .u32 (u x), .int .i64 18] w fun e w' => e = .returned (.int .u32 (u (rr x 18))) ∧ w = w' := rot_ref x 18 (by decide) (by decide) w
theorem rot_17 (x : UInt32) (w : World) : Calls Tryz.prog 153 #[.int .u32 (u x), .int .i64 17] w fun e w' => e = .returned (.int .u32 (u (rr x 17))) ∧ w = w' := rot_ref x 17 (by decide) (by decide) w
theorem rot_19 (x : UInt32) (w : World) : Calls Tryz.prog 153 #[.int .u32 (u x), .int .i64 19] w fun e w' => e = .returned (.int .u32 (u (rr x 19))) ∧ w = w' := rot_ref x 19 (by decide) (by decide) w
theorem rot_6 (x : UInt32) (w : World) : Calls Tryz.prog 153 #[.int .u32 (u x), .int .i64 6] w fun e w' => e = .returned (.int .u32 (u (rr x 6))) ∧ w = w' := rot_ref x 6 (by decide) (by decide) w
theorem rot_11 (x : UInt32) (w : World) : Calls Tryz.prog 153 #[.int .u32 (u x), .int .i64 11] w fun e w' => e = .returned (.int .u32 (u (rr x 11))) ∧ w = w' := rot_ref x 11 (by decide) (by decide) w
theorem rot_25 (x : UInt32) (w : World) : Calls Tryz.prog 153 #[.int .u32 (u x), .int .i64 25] w fun e w' => e = .returned (.int .u32 (u (rr x 25))) ∧ w = w' := rot_ref x 25 (by decide) (by decide) w
theorem rot_2 (x : UInt32) (w : World) : Calls Tryz.prog 153 #[.int .u32 (u x), .int .i64 2] w fun e w' => e = .returned (.int .u32 (u (rr x 2))) ∧ w = w' := rot_ref x 2 (by decide) (by decide) w
theorem rot_13 (x : UInt32) (w : World) : Calls Tryz.prog 153 #[.int .u32 (u x), .int .i64 13] w fun e w' => e = .returned (.int .u32 (u (rr x 13))) ∧ w = w' := rot_ref x 13 (by decide) (by decide) w
theorem rot_22 (x : UInt32) (w : World) : Calls Tryz.prog 153 #[.int .u32 (u x), .int .i64 22] w fun e w' => e = .returned (.int .u32 (u (rr x 22))) ∧ w = w' := rot_ref x 22 (by decide) (by decide) w
def KC : Array Value := #[.int .u32 1116352408, .int .u32 1899447441, .int .u32 3049323471, .int .u32 3921009573, .int .u32 961987163, .int .u32 1508970993, .int .u32 2453635748, .int .u32 2870763221, .int .u32 3624381080, .int .u32 310598401, .int .u32 607225278, .int .u32 1426881987, .int .u32 1925078388, .int .u32 2162078206, .int .u32 2614888103, .int .u32 3248222580, .int .u32 3835390401, .int .u32 4022224774, .int .u32 264347078, .int .u32 604807628, .int .u32 770255983, .int .u32 1249150122, .int .u32 1555081692, .int .u32 1996064986, .int .u32 2554220882, .int .u32 2821834349, .int .u32 2952996808, .int .u32 3210313671, .int .u32 3336571891, .int .u32 3584528711, .int .u32 113926993, .int .u32 338241895, .int .u32 666307205, .int .u32 773529912, .int .u32 1294757372, .int .u32 1396182291, .int .u32 1695183700, .int .u32 1986661051, .int .u32 2177026350, .int .u32 2456956037, .int .u32 2730485921, .int .u32 2820302411, .int .u32 3259730800, .int .u32 3345764771, .int .u32 3516065817, .int .u32 3600352804, .int .u32 4094571909, .int .u32 275423344, .int .u32 430227734, .int .u32 506948616, .int .u32 659060556, .int .u32 883997877, .int .u32 958139571, .int .u32 1322822218, .int .u32 1537002063, .int .u32 1747873779, .int .u32 1955562222, .int .u32 2024104815, .int .u32 2227730452, .int .u32 2361852424, .int .u32 2428436474, .int .u32 2756734187, .int .u32 3204031479, .int .u32 3329325298]
theorem K_cells : wcells K = KC := by rfl
set_option maxRecDepth 100000 in
set_option maxHeartbeats 1000000 in
theorem table_ref (w : World) :
  Calls Tryz.prog 151 #[] w fun e w' => e = .returned (.agg (wcells K)) ∧ Below w.heap.size w w' := by
 have hs : (Tryz.prog.info? 170).map (·.size) = some KC.size := by kernel_rfl
 have hone : KC.all (·.oneCell') = true := by rw [← K_cells]; exact wcells_one K
 have HSZ := Lib.hid hs
 have HONE := Lib.hid hone
 clear hs hone
 rw [K_cells]
 go_enter Tryz.func151, Tryz.ntmps151
 go_wp2_with (refine wpList_store_row rfl 170 (.tmp 0) _ rfl w.heap.size KC rfl rfl 170 _ (heap_alloc_new _ _) HSZ.out rfl HONE.out ?_)
 rw [World.setRow_alloc_new]
 simp only [Act.put]
 refine bodyPost_ret (v := .agg KC) (results_cell_row rfl _ _ w.heap.size 170 _ (0, 0) _ rfl (heap_alloc_new _ _) Tryz.underlying170 rfl HSZ.out) rfl ⟨rfl, below_new _ _⟩
def slLen : Value → Nat
 | .slice _ n _ => n
 | _ => 0
theorem append_src7 {w : World} {ops : Array Oper} {rest : List Oper} {o : Oper} {a : Act} {Q : Exit → Act → World → Prop} (hgd : o.guard = none) (s x : Operand)
  (ho : o.op = .call { callee := .builtin .append, args := #[s, x], argTypes := #[34, 34] }) (base : Nat) (v : Value) (n : Nat) (xs : List Value) (hs : a.eval s = v) (hown : w.ownsRow base 5 1 v n xs)
  (A : Option Addr) (L : List UInt8) (c m : Nat) (hm : L.length = m) (hx : a.eval x = .slice A m c) (hA : A = none → c = 0) (hsrc : SrcAt A L w) (h63 : n + m ≤ 1000000000) (hbase : base ≤ w.heap.size)
  (h : ∀ v' w', w'.ownsRow base 5 1 v' (n + m) (xs ++ bvals L) → w.grownBy w' v.ownBlock → wpList Tryz.prog ops Q rest (a.put o.dst v') w') : wpList Tryz.prog ops Q (o :: rest) a w := by
 obtain ⟨i0, hi, hz0, hz1, hz2⟩ := info_parts Tryz.info_byte
 subst hm
 cases A with
 | none =>
  have hL : L = [] := by
   by_cases e : L = []
   ·
    exact e
   ·
    obtain ⟨g, o, e2, _⟩ := hsrc e
    cases e2
  subst hL
  obtain rfl := hA rfl
  exact wpList_append_own_none hgd s x 34 ho base 5 i0 1 Tryz.underlying34 hi v n xs hs hown hx (h v w (by simpa [bvals] using hown) (World.grownBy.refl _ _))
 | some ad =>
  refine wpList_append_own _ hgd s x 34 ho base 5 i0 (.int .u8 0) 1 1 Tryz.underlying34 hi hz0 hz1 hz2 rfl (by decide) v n xs hs hown ad L.length c (bvals L) hx (by rw [bvals_len, Nat.mul_one]) ?_ ?_ (by unfold maxLen; omega) (by omega) hbase (fun v' w' h1 h2 _ => h v' w' h1 h2)
  ·
   intro j u hj
   unfold bvals at hj
   rw [List.getElem?_map] at hj
   obtain ⟨y, hy, rfl⟩ := Option.map_eq_some_iff.1 hj
   obtain ⟨g, o, e, hc⟩ := hsrc (by intro e; rw [e] at hy; simp at hy)
   obtain rfl := Option.some.inj e
   rw [add_eq]
   exact hc j y hy
  ·
   intro v hv
   unfold bvals at hv
   obtain ⟨x, _, rfl⟩ := List.mem_map.1 hv
   rfl
set_option maxRecDepth 100000 in
set_option maxHeartbeats 2000000 in
theorem padded_ref (l : List UInt8) (A : Option Addr) (c : Nat) (hl : l.length ≤ 100000) (hc : l.length ≤ c) (hA : A = none → c = 0) (w : World) (hs : SrcAt A l w) :
  Calls Tryz.prog 152 #[.slice A l.length c] w fun e w' => ∃ v, e = .returned v ∧ w'.ownsRow w.heap.size 5 1 v (l ++ ending l.length).length (bvals (l ++ ending l.length)) ∧ Below w.heap.size w w' := by
 obtain ⟨n, hn⟩ : ∃ n, l.length = n := ⟨_, rfl⟩
 rw [hn] at hl hc ⊢
 have HN := Lib.hid hn
 have HA := Lib.hid hA
 have HS := Lib.hid (hs.on (below_new w (.cells #[] 5)))
 have hown0 : (w.alloc (.cells #[] 5)).ownsRow w.heap.size 5 1 (.slice (some ⟨w.heap.size, 0, none⟩) 0 0) 0 (bvals []) := ⟨rfl, Or.inr ⟨w.heap.size, 0, #[], rfl, Nat.le_refl _, heap_alloc_new _ _, Nat.le_refl _, Nat.zero_le _, rfl, rfl⟩⟩
 have HO0 := Lib.hid hown0
 obtain ⟨i0, hi, hz0, hz1, hz2⟩ := info_parts Tryz.info_byte
 clear hn hs hA hown0
 go_enter Tryz.func152, Tryz.ntmps152
 go_upto_region 2 with (at_builtin; refine append_src7 rfl (.tmp 6) (.tmp 7) rfl w.heap.size _ _ _ rfl HO0.out A l c n HN.out rfl HA.out HS.out (by omega) (by simp) ?_; intro v1 w1 hown1 hg1; have HO1 := Lib.hid hown1; have HG1 := Lib.hid hg1; clear hown1 hg1)
 have hb1 : Below w.heap.size w w1 := (below_new w _).grown HG1.out (by simp) (fun k hk => by cases hk; exact Nat.le_refl _)
 have HB1 := Lib.hid hb1
 rw [Nat.zero_add] at HO1
 clear hb1 HG1
 have hsz1 := HB1.out.size
 go_wp2_with (at_builtin; refine wpList_append_own _ rfl (.tmp 9) (.tmp 10) 34 rfl w.heap.size 5 i0 (.int .u8 0) 1 1 Tryz.underlying34 hi hz0 hz1 hz2 rfl (by decide) _ _ _ rfl (HO1.out.alloc _) ⟨w1.heap.size, 0, none⟩ 1 1 [.int .u8 128] rfl rfl (cells_one _ _ _) (by simp [Value.oneCell']) (by unfold maxLen; omega) (by omega) (by simp; omega) ?_; intro v' w5 hown5 hgrow5 hnil; have HO5 := Lib.hid hown5; have HG5 := Lib.hid hgrow5; clear hown5 hgrow5 hnil)
 obtain ⟨b5, s5⟩ := own_step' HO1.out HG5.out HB1.out HB1.out.size
 have hz5 : w.heap.size < w5.heap.size := by
  have h := HG5.out.size
  simp at h
  omega
 have ho5 : w5.ownsRow w.heap.size 5 1 v' (n + 1 + 0) (bvals (l ++ 128 :: List.replicate 0 0)) := by
  have h := HO5.out
  rw [show bvals [] ++ bvals l = bvals l from rfl] at h
  rw [bvals_app]
  exact h
 have HOL := Lib.hid ho5
 have HBL := Lib.hid b5
 obtain ⟨Z, hZ⟩ : ∃ Z, (119 - n % 64) % 64 = Z := ⟨_, rfl⟩
 have HZ := Lib.hid hZ
 clear b5 s5 ho5 hsz1 hZ HO1 HB1 HO5 HG5 HS HO0 HA
 go_loopw [3] (fun v wr => ∃ z : Nat, z ≤ Z ∧ wr.ownsRow w.heap.size 5 1 v (n + 1 + z) (bvals (l ++ 128 :: List.replicate z 0)) ∧ Below w.heap.size w wr ∧ w.heap.size < wr.heap.size) (fun v _ => n + 100 - slLen v)
 case atStart => exact ⟨0, by omega, HOL.out, HBL.out, hz5⟩
 case round =>
  obtain ⟨z, hz, hown, hbel, hlt⟩ := hrel
  clear HOL HBL hz5
  have HO := Lib.hid hown
  have HB := Lib.hid hbel
  obtain ⟨g, cap, rfl, hg1, hg2, hg3, hg4, _⟩ := own_cells1 hown (by omega)
  clear hown hbel
  have hZ := HZ.out
  by_cases hm : (n + 1 + z) % 64 = 56
  ·
   have hzz : z = Z := by omega
   subst hzz
   have hb56 : (((n + 1 + z : Nat) : Int) % 64 != 56) = false := by rw [bne_eq_false_iff_eq]; omega
   obtain ⟨L, hL⟩ : ∃ L, n + 1 + z = L := ⟨_, rfl⟩
   rw [hL] at hb56 hg3
   have hLb : L ≤ 100200 := by omega
   have HL := Lib.hid hL
   have hown2 : wr.ownsRow w.heap.size 5 1 (.slice (some ⟨g, 0, none⟩) (n + 1 + z) cap) (L + 0) (bvals (l ++ endK n 0)) := by
    have h := HO.out
    unfold endK
    rw [HZ.out, List.take_zero, List.append_nil, ← hL]
    exact h
   have HO2 := Lib.hid hown2
   rw [hL] at HO2
   try rw [hL]
   clear hm hZ hL hown2 HO
   go_wp2_with fail
   go_loopw [3, 5] (fun v i wr => ∃ j : Nat, j ≤ 8 ∧ i = .int .i64 (7 - (j : Int)) ∧ wr.ownsRow w.heap.size 5 1 v (L + j) (bvals (l ++ endK n j)) ∧ Below w.heap.size w wr ∧ w.heap.size < wr.heap.size) (fun _ i _ => (intOf i + 1).toNat)
   case atStart => exact ⟨0, by omega, rfl, HO2.out, HB.out, hlt⟩
   case round =>
    obtain ⟨j, hj, rfl, hown, hbel, hlt2⟩ := hrel
    clear HO2 HB hlt
    have HO := Lib.hid hown
    have HB := Lib.hid hbel
    clear hown hbel
    by_cases hj8 : j < 8
    ·
     have hge : (0 : Int) ≤ 7 - (j : Int) := by omega
     have HE := Lib.hid (be8_at n j hj8)
     have hs1 : 8 * (7 - (j : Int)) = 56 - 8 * (j : Int) := by omega
     go_wp2_with (at_builtin; refine wpList_append_own _ rfl (.tmp 27) (.tmp 34) 34 rfl w.heap.size 5 i0 (.int .u8 0) 1 1 Tryz.underlying34 hi hz0 hz1 hz2 rfl (by decide) _ _ _ rfl (HO.out.alloc _) ⟨wr.heap.size, 0, none⟩ 1 1 [_] rfl rfl (cells_one _ _ _) (by simp [Value.oneCell']) (by unfold maxLen; omega) (by omega) (by simp; omega) ?_; intro v' w5 hown5 hgrow5 hnil; have HO5 := Lib.hid hown5; have HG5 := Lib.hid hgrow5; clear hown5 hgrow5 hnil)
     obtain ⟨b5, s5⟩ := own_step' HO.out HG5.out HB.out HB.out.size
     have hz5 : w.heap.size < w5.heap.size := by
      have h := HG5.out.size
      simp at h
      omega
     refine ⟨⟨j + 1, by omega, congrArg (Value.int _) (by omega), ?_, b5, hz5⟩, by simp [intOf]; omega⟩
     have h := HO5.out
     rw [show (n : Int) * 8 = 8 * (n : Int) by omega, HE.out] at h
     rw [endK_step n j hj8, ← List.append_assoc, bvals_app]
     exact h
    ·
     have hj8' : j = 8 := by omega
     subst hj8'
     have hlt3 : ¬ (0 : Int) ≤ 7 - ((8 : Nat) : Int) := by omega
     have hlen : l.length + (ending n).length = L + 8 := by
      rw [HN.out, ← endK_all, endK_len n 8 (by omega), HZ.out, ← HL.out]
      omega
     have HLEN := Lib.hid hlen
     clear hlen
     go_wp2_with fail
     go_ret
     refine ⟨_, rfl, ?_, HB.out⟩
     rw [HLEN.out, ← endK_all]
     exact HO.out
  ·
   have hb56 : (((n + 1 + z : Nat) : Int) % 64 != 56) = true := by rw [bne_iff_ne]; omega
   obtain ⟨L, hL⟩ : ∃ L, n + 1 + z = L := ⟨_, rfl⟩
   have hzZ : z + 1 ≤ Z := by omega
   have hLb : L ≤ 100200 := by omega
   have HL := Lib.hid hL
   rw [hL] at HO hb56 hg3
   try rw [hL]
   clear hL hm hZ
   go_wp2_with (at_builtin; refine wpList_append_own _ rfl (.tmp 16) (.tmp 17) 34 rfl w.heap.size 5 i0 (.int .u8 0) 1 1 Tryz.underlying34 hi hz0 hz1 hz2 rfl (by decide) _ _ _ rfl (HO.out.alloc _) ⟨wr.heap.size, 0, none⟩ 1 1 [.int .u8 0] rfl rfl (cells_one _ _ _) (by simp [Value.oneCell']) (by unfold maxLen; omega) (by omega) (by simp; omega) ?_; intro v' w5 hown5 hgrow5 hnil; have HO5 := Lib.hid hown5; have HG5 := Lib.hid hgrow5; clear hown5 hgrow5 hnil)
   obtain ⟨b5, s5⟩ := own_step' HO.out HG5.out HB.out HB.out.size
   have hz5 : w.heap.size < w5.heap.size := by
    have h := HG5.out.size
    simp at h
    omega
   obtain ⟨g2, cap2, rfl, _⟩ := own_cells1 HO5.out (by omega)
   refine ⟨⟨z + 1, hzZ, ?_, b5, hz5⟩, by simp [slLen]; have := HL.out; have := HZ.out; omega⟩
   have h := HO5.out
   rw [← HL.out] at h
   rw [show l ++ 128 :: List.replicate (z + 1) 0 = (l ++ 128 :: List.replicate z 0) ++ [0] by rw [List.replicate_succ']; simp, bvals_app]
   rw [← HL.out]
   exact h
end Go.Proofs.YtcgffkkfeimifaaGreatDoor
namespace Go.Proofs.YtcgffkkfeimifaaGreatDoor
open Go.RowKit Sha
set_option linter.unusedVariables false
set_option linter.unusedSimpArgs false
theorem whole_len (n : Nat) : n + (ending n).length = 64 * ((n + (ending n).length) / 64) := by
 rw [← endK_all, endK_len n 8 (by omega)]
 omega
def SC : Array Value := #[.int .u32 1779033703, .int .u32 3144134277, .int .u32 1013904242, .int .u32 2773480762, .int .u32 1359893119, .int .u32 2600822924, .int .u32 528734635, .int .u32 1541459225]
theorem S_cells : wcells Sha.start.list = SC := by rfl
theorem u_take2 (a : UInt32) (c : UInt8) : (u a * 256 + (c.toNat : Int)) % 4294967296 = u (takeIn a c) := by
 unfold u
 rw [takeIn_nat]
 have := c.toNat_lt
 omega
theorem u_e1 (p : UInt32) : bits .xor .u32 (bits .xor .u32 (u (rr p 6)) (u (rr p 11))) (u (rr p 25)) = u (e1 p) := by
 rw [u_xor, u_xor]
 rfl
theorem u_e0 (p : UInt32) : bits .xor .u32 (bits .xor .u32 (u (rr p 2)) (u (rr p 13))) (u (rr p 22)) = u (e0 p) := by
 rw [u_xor, u_xor]
 rfl
structure SR (w : World) (B3 B4 g : Nat) (T : List UInt8) (m : Nat) (wr : World) : Prop where
 r2 : wr.heap[w.heap.size]? = some (.cells (bcells (List.replicate 32 0)) 157 (0, 0))
 r3 : wr.heap[B3]? = some (.cells (wcells K) 170 (0, 0))
 r4 : wr.heap[B4]? = some (.cells (wcells (Sha.run m Sha.start T).list) 172 (0, 0))
 src : ∀ j x, T[j]? = some x → wr.cell? ⟨g, j, none⟩ = some (.int .u8 (x.toNat : Int))
 bl : Below w.heap.size w wr
 lt : g < wr.heap.size
set_option maxRecDepth 100000 in
set_option maxHeartbeats 40000000 in
theorem sum_ref (l : List UInt8) (A : Option Addr) (c : Nat) (hl : l.length ≤ 100000) (hc : l.length ≤ c) (hA : A = none → c = 0) (w : World) (hs : SrcAt A l w) :
  Calls Tryz.prog 145 #[.slice A l.length c] w fun e w' => e = .returned (.agg (bcells (sha l))) ∧ Below w.heap.size w w' := by
 have hpad := fun (V : World) (hb : Below w.heap.size w V) => padded_ref l A c hl hc hA V (hs.on hb)
 obtain ⟨T, hT⟩ : ∃ T, l ++ ending l.length = T := ⟨_, rfl⟩
 obtain ⟨M, hM⟩ : ∃ M, T.length / 64 = M := ⟨_, rfl⟩
 have hTl : T.length = 64 * M := by
  have h := whole_len l.length
  rw [← hM, ← hT, List.length_append]
  exact h
 have hM0 : 0 < M := by
  have h1 : 1 ≤ T.length := by rw [← hT, List.length_append, ← endK_all, endK_len _ 8 (by omega)]; omega
  omega
 have hMb : M ≤ 10000 := by
  have h1 : T.length ≤ 100200 := by rw [← hT, List.length_append, ← endK_all, endK_len _ 8 (by omega)]; omega
  omega
 obtain ⟨F, hF⟩ : ∃ F, sha l = F := ⟨_, rfl⟩
 have hF2 : hp (Sha.run M Sha.start T).list 32 = F := by
  rw [← hF, ← hM, ← hT]
  rfl
 rw [hT, hTl] at hpad
 rw [hF]
 obtain ⟨C, hC⟩ : ∃ C, wcells K = C := ⟨_, rfl⟩
 have hCs : (Tryz.prog.info? 170).map (·.size) = some C.size := by rw [← hC, wcells_size, K_len]; kernel_rfl
 have hCo : C.all (·.oneCell') = true := by rw [← hC]; exact wcells_one K
 have hCz : (64 : Nat) = C.size := by rw [← hC, wcells_size, K_len]
 have htab : ∀ V : World, Calls Tryz.prog 151 #[] V fun e w' => e = .returned (.agg C) ∧ Below V.heap.size V w' := fun V => by
  have h := table_ref V
  rw [hC] at h
  exact h
 have hSs : (Tryz.prog.info? 172).map (·.size) = some SC.size := by kernel_rfl
 obtain ⟨n, hn⟩ : ∃ n, l.length = n := ⟨_, rfl⟩
 rw [hn] at hpad ⊢
 have HPAD := Lib.hid hpad
 have HTAB := Lib.hid htab
 have HTL := Lib.hid hTl
 have HF := Lib.hid hF2
 have HC := Lib.hid hC
 have HCS := Lib.hid hCs
 have HCO := Lib.hid hCo
 have HCZ := Lib.hid hCz
 have HSS := Lib.hid hSs
 clear hpad hT hM hTl hF hF2 hC hCs hCo hCz htab hn hs hA hc hl hSs
 go_enter Tryz.func145, Tryz.ntmps145
 go_wp2_with fail
 refine (HTAB.out _).mono ?_
 rintro e w1 ⟨rfl, hb1⟩
 have HB1 := Lib.hid ((below_new w _).trans (hb1.mono (by simp)))
 have HZ1 : RowKit.Hid (w1.heap[w.heap.size]? = some (.cells (bcells (List.replicate 32 0)) 157 (0, 0))) := Lib.hid ((hb1.block _ (by simp)).trans ((heap_alloc_new _ _).trans rfl))
 have hz1 : w.heap.size < w1.heap.size := by have := hb1.size; simp at this; omega
 clear hb1
 go_upto_region 3 with (first | (refine wpList_store_row rfl 170 (.tmp 3) (.tmp 31) rfl w1.heap.size C rfl rfl 170 _ (heap_alloc_new _ _) HCS.out HCZ.out HCO.out ?_))
 rw [World.setRow_alloc_new]
 obtain ⟨B3, hB3⟩ : ∃ B3, w1.heap.size = B3 := ⟨_, rfl⟩
 simp only [hB3]
 generalize hV2 : World.alloc (World.alloc w1 _) _ = V2
 have a3 : V2.heap[B3]? = some (.cells C 170 (0, 0)) := by rw [← hV2, ← hB3]; exact heap_alloc2_old _ _ _
 have a4 : V2.heap[B3 + 1]? = some (.cells SC 172 (0, 0)) := by rw [← hV2, ← hB3]; exact heap_alloc2_new _ _ _
 have a2 : V2.heap[w.heap.size]? = some (.cells (bcells (List.replicate 32 0)) 157 (0, 0)) := by
  rw [← hV2, Below.heap_alloc _ _ _ (by simp; omega), Below.heap_alloc _ _ _ (by omega)]
  exact HZ1.out
 have ab : Below w.heap.size w V2 := by rw [← hV2]; exact (HB1.out.alloc (by omega) _).alloc (by simp; omega) _
 have az : V2.heap.size = B3 + 1 + 1 := by rw [← hV2, ← hB3]; simp
 rw [hB3] at hz1
 have A2 := Lib.hid a2
 have A3 := Lib.hid a3
 have A4 := Lib.hid a4
 have AB := Lib.hid ab
 have AZ := Lib.hid az
 clear a2 a3 a4 ab az hV2 hB3 HZ1 HB1 HSS
 go_wp2_with fail
 refine (HPAD.out _ AB.out).mono ?_
 rintro e w3 ⟨v3, rfl, hown3, hb3⟩
 obtain ⟨g, cap, rfl, hg1, hg2, hg3, hg4, hcell⟩ := own_cells1 hown3 (by omega)
 have hsrc : ∀ j x, T[j]? = some x → w3.cell? ⟨g, j, none⟩ = some (.int .u8 (x.toNat : Int)) := fun j x hj => hcell j _ (by unfold bvals; rw [List.getElem?_map, hj]; rfl)
 have hz2 := AZ.out
 have hSR : SR w B3 (B3 + 1) g T 0 w3 := ⟨(hb3.block _ (by omega)).trans A2.out, by rw [HC.out]; exact (hb3.block _ (by omega)).trans A3.out, (hb3.block _ (by omega)).trans (A4.out.trans (by rw [← S_cells]; rfl)), hsrc, AB.out.trans (hb3.mono (by omega)), hg2⟩
 have SR0 := Lib.hid hSR
 have hgB : B3 + 1 < g := by omega
 clear hown3 hb3 hcell hsrc hSR hz2 A2 A3 A4 AB AZ hg1 hg2 hg4 HCS HCO HCZ
 go_wp2_with fail
 go_loopw [6] (fun at' wr => ∃ m : Nat, m ≤ M ∧ at' = .int .i64 ((64 * m : Nat) : Int) ∧ RowKit.Hid (SR w B3 (B3 + 1) g T m wr)) (fun at' _ => 64 * M + 64 - (intOf at').toNat)
 case atStart => exact ⟨0, by omega, rfl, SR0⟩
 case round =>
  obtain ⟨m, hm, rfl, SRm⟩ := hrel
  clear SR0
  obtain ⟨P, hP⟩ : ∃ P, 64 * m = P := ⟨_, rfl⟩
  have HP0 := Lib.hid hP
  try rw [hP]
  by_cases hlt : m < M
  ·
   have hPi : (P : Int) < ((64 * M : Nat) : Int) := by omega
   have hPb : P + 64 ≤ 64 * M := by omega
   have hPs : P ≤ 700000 := by omega
   obtain ⟨N, hN⟩ : ∃ N, 64 * M = N := ⟨_, rfl⟩
   rw [hN] at hPi hPb hg3
   try rw [hN]
   have HNN := Lib.hid hN
   clear hP hN
   go_wp2_with fail
   obtain ⟨B7, hB7⟩ : ∃ B7, wr.heap.size = B7 := ⟨_, rfl⟩
   obtain ⟨x, hx⟩ : ∃ x, (T.drop P).take 64 = x := ⟨_, rfl⟩
   generalize hV : World.alloc wr _ = V
   have hv7 : V.heap[B7]? = some (.cells (wcells (pw x 0)) 170 (0, 0)) := by rw [← hV, ← hB7]; exact (heap_alloc_new _ _).trans rfl
   have hbV : Below wr.heap.size wr V := by rw [← hV]; exact below_new _ _
   have hxl : x.length = 64 := by rw [← hx, List.length_take, List.length_drop, HTL.out, HNN.out]; omega
   have hxc : ∀ k, k < 64 → V.cell? ⟨g, P + k, none⟩ = some (.int .u8 ((x.getD k 0).toNat : Int)) := fun k hk => by
    have hk2 : k < x.length := by omega
    have h1 : T[P + k]? = some (x.getD k 0) := by
     rw [List.getD_eq_getElem?_getD, ← hx, List.getElem?_take, if_pos hk, List.getElem?_drop, List.getElem?_eq_getElem (by rw [HTL.out, HNN.out]; omega)]
     rfl
    have h2 := SRm.out.src _ _ h1
    exact (hbV.cell (p := ⟨g, P + k, none⟩) SRm.out.lt).trans h2
   have hg7 : g < B7 := by rw [← hB7]; exact SRm.out.lt
   have s2 : V.heap[w.heap.size]? = some (.cells (bcells (List.replicate 32 0)) 157 (0, 0)) := (hbV.block _ (by omega)).trans SRm.out.r2
   have s3 : V.heap[B3]? = some (.cells (wcells K) 170 (0, 0)) := (hbV.block _ (by omega)).trans SRm.out.r3
   have s4 : V.heap[B3 + 1]? = some (.cells (wcells (Sha.run m Sha.start T).list) 172 (0, 0)) := (hbV.block _ (by omega)).trans SRm.out.r4
   have sb : Below w.heap.size w V := SRm.out.bl.trans (hbV.mono SRm.out.bl.size)
   have ssrc : ∀ j x, T[j]? = some x → V.cell? ⟨g, j, none⟩ = some (.int .u8 (x.toNat : Int)) := fun j x h => (hbV.cell (p := ⟨g, j, none⟩) SRm.out.lt).trans (SRm.out.src j x h)
   obtain ⟨r, hr⟩ : ∃ r, Sha.run m Sha.start T = r := ⟨_, rfl⟩
   rw [hr] at s4
   have HR := Lib.hid hr
   have HX := Lib.hid hx
   have HXL := Lib.hid hxl
   have HXC := Lib.hid hxc
   have HV7 := Lib.hid (OnlyB.here hv7)
   have S2 := Lib.hid s2
   have S3 := Lib.hid s3
   have S4 := Lib.hid s4
   have SB := Lib.hid sb
   have SSRC := Lib.hid ssrc
   try rw [hB7]
   have hzV : V.heap.size = B7 + 1 := by rw [← hV, ← hB7]; simp
   have HZV := Lib.hid hzV
   clear hB7 hx hV hv7 hbV hxl hxc s2 s3 s4 sb ssrc hr SRm hzV
   go_loopw [8] (fun i wz => ∃ k : Nat, k ≤ 16 ∧ i = .int .i64 (k : Int) ∧ RowKit.Hid (OnlyB B7 170 V wz (wcells (pw x (4 * k))))) (fun i _ => 16 - (intOf i).toNat)
   case atStart => exact ⟨0, by omega, rfl, HV7⟩
   case round =>
    obtain ⟨k, hk, rfl, HROW⟩ := hrel
    by_cases hk16 : k < 16
    ·
     have hki : (k : Int) < 16 := by omega
     go_wp2_with fail
     go_loopw [9] (fun j wz => ∃ j' : Nat, j' ≤ 4 ∧ j = .int .i64 (j' : Int) ∧ RowKit.Hid (OnlyB B7 170 V wz (wcells (pw x (4 * k + j'))))) (fun j _ => 4 - (intOf j).toNat)
     case atStart => exact ⟨0, by omega, rfl, HROW⟩
     case round =>
      clear HROW
      obtain ⟨j, hj, rfl, HROW⟩ := hrel
      by_cases hj4 : j < 4
      ·
       have hji : (j : Int) < 4 := by omega
       have hq : (4 * k + j) / 4 = k := by omega
       have hc := HROW.out.cell k
       rw [wcells_at _ _ (by rw [pw_len]; omega)] at hc
       have hf := HROW.out.free k
       have hd := HXC.out (4 * k + j) (by omega)
       have hdz : wr.cell? ⟨g, P + (4 * k + j), none⟩ = some (.int .u8 ((x.getD (4 * k + j) 0).toNat : Int)) := (cell_of_heap2 (HROW.out.oth g (by omega))).trans hd
       obtain ⟨a, ha⟩ : ∃ a, (pw x (4 * k + j)).getD k 0 = a := ⟨_, rfl⟩
       obtain ⟨b, hb⟩ : ∃ b, x.getD (4 * k + j) 0 = b := ⟨_, rfl⟩
       rw [ha] at hc
       rw [hb] at hdz
       have HST := Lib.hid (show pw x (4 * k + j + 1) = (pw x (4 * k + j)).set k (takeIn a b) by rw [pw, hq, ha, hb])
       have hb8 : b.toNat < 256 := b.toNat_lt
       have w1 : IntKind.i64.wrap (4 * (k : Int)) = 4 * (k : Int) := IntWalk.i64_in _ (by omega)
       have w2 : IntKind.i64.wrap ((P : Int) + 4 * (k : Int)) = (P : Int) + 4 * (k : Int) := IntWalk.i64_in _ (by omega)
       have w3 : IntKind.i64.wrap ((P : Int) + 4 * (k : Int) + (j : Int)) = (P : Int) + 4 * (k : Int) + (j : Int) := IntWalk.i64_in _ (by omega)
       have n3 : ((P : Int) + 4 * (k : Int) + (j : Int)).toNat = P + (4 * k + j) := by omega
       have l3 : (0 : Int) ≤ (P : Int) + 4 * (k : Int) + (j : Int) := by omega
       have g3 : (P : Int) + 4 * (k : Int) + (j : Int) < (N : Int) := by omega
       have k64 : (k : Int) < 64 := by omega
       clear hd ha hb hq
       go_wp2_with fail
       go_still_tail 17, (by kernel_rfl)
       change wpList _ _ _ _ _ wr.drew
       clear w1 w2 w3 n3 l3 g3 k64
       go_wp2_with fail
       refine ⟨⟨j + 1, by omega, by go_num, Lib.hid ?_⟩, by simp [intOf]; omega⟩
       have h := (HROW.out.set k (.int .u32 (u (takeIn a b)))).drew
       rw [wcells_set] at h
       rw [u_take2, show 4 * k + (j + 1) = 4 * k + j + 1 by omega, HST.out]
       exact h
      ·
       have hjj : j = 4 := by omega
       subst hjj
       have hjg : ¬ ((4 : Nat) : Int) < 4 := by omega
       go_wp2_with fail
       exact ⟨⟨k + 1, by omega, by go_num, Lib.hid (by rw [show 4 * (k + 1) = 4 * k + 4 by omega]; exact HROW.out)⟩, by simp [intOf]; omega⟩
    ·
     have hkk : k = 16 := by omega
     subst hkk
     have hkg : ¬ ((16 : Nat) : Int) < 16 := by omega
     go_wp2_with fail
     go_loopw [10] (fun v wz => ∃ i : Nat, 16 ≤ i ∧ i ≤ 64 ∧ v = .int .i64 (i : Int) ∧ RowKit.Hid (OnlyB B7 170 V wz (wcells (mo x (i - 16))))) (fun v _ => 64 - (intOf v).toNat)
     case atStart => exact ⟨16, by omega, by omega, rfl, HROW⟩
     case round =>
      clear HROW
      obtain ⟨i, hi1, hi2, rfl, HROW⟩ := hrel
      by_cases hlt : i < 64
      ·
       obtain ⟨p2, hp2⟩ : ∃ a, (mo x (i - 16)).getD (i - 2) 0 = a := ⟨_, rfl⟩
       obtain ⟨p7, hp7⟩ : ∃ a, (mo x (i - 16)).getD (i - 7) 0 = a := ⟨_, rfl⟩
       obtain ⟨p15, hp15⟩ : ∃ a, (mo x (i - 16)).getD (i - 15) 0 = a := ⟨_, rfl⟩
       obtain ⟨p16, hp16⟩ : ∃ a, (mo x (i - 16)).getD (i - 16) 0 = a := ⟨_, rfl⟩
       have c2 := HROW.out.cell (i - 2)
       have c7 := HROW.out.cell (i - 7)
       have c15 := HROW.out.cell (i - 15)
       have c16 := HROW.out.cell (i - 16)
       rw [wcells_at _ _ (by rw [mo_len]; omega), hp2] at c2
       rw [wcells_at _ _ (by rw [mo_len]; omega), hp7] at c7
       rw [wcells_at _ _ (by rw [mo_len]; omega), hp15] at c15
       rw [wcells_at _ _ (by rw [mo_len]; omega), hp16] at c16
       have ci := HROW.out.cell i
       rw [wcells_at _ _ (by rw [mo_len]; omega)] at ci
       have fi := HROW.out.free i
       have HP := Lib.hid (show newW (mo x (i - 16)) i = s1 p2 + p7 + s0 p15 + p16 by unfold newW; rw [hp2, hp7, hp15, hp16])
       have hi64 : (i : Int) < 64 := by omega
       obtain ⟨q, hq⟩ : ∃ q, (mo x (i - 16)).getD i 0 = q := ⟨_, rfl⟩
       rw [hq] at ci
       have HC2 := Lib.hid c2
       have HC7 := Lib.hid c7
       have HC15 := Lib.hid c15
       have HC16 := Lib.hid c16
       have HCi := Lib.hid ci
       have HFi := Lib.hid fi
       clear hp2 hp7 hp15 hp16 hq c2 c7 c16 ci fi
       go_wp2_with fail
       go_quiet (first | (go_at_call 153; with_reducible exact quiet_same (rot_7 p15)) | (go_at_call 153; with_reducible exact quiet_same (rot_18 p15)))
       rw [u_s0]
       generalize hv1 : World.drewN wr _ = wr1
       have HV1 : RowKit.Hid (OnlyB B7 170 V wr1 (wcells (mo x (i - 16)))) := Lib.hid (by rw [← hv1]; exact HROW.out.drewN _)
       have c2 : wr1.cell? ⟨B7, i - 2, none⟩ = some (.int .u32 (u p2)) := by rw [← hv1]; exact HC2.out
       clear hv1 c15
       go_wp2_with fail
       go_quiet (first | (go_at_call 153; with_reducible exact quiet_same (rot_17 p2)) | (go_at_call 153; with_reducible exact quiet_same (rot_19 p2)))
       rw [u_s1]
       generalize hv2 : World.drewN wr1 _ = wr2
       have HV2 : RowKit.Hid (OnlyB B7 170 V wr2 (wcells (mo x (i - 16)))) := Lib.hid (by rw [← hv2]; exact HV1.out.drewN _)
       have hcc : ∀ j : Nat, wr2.cell? ⟨B7, j, none⟩ = wr.cell? ⟨B7, j, none⟩ := fun j => (HV2.out.cell j).trans (HROW.out.cell j).symm
       have hff := HV2.out.free i
       have c7 : wr2.cell? ⟨B7, i - 7, none⟩ = some (.int .u32 (u p7)) := (hcc _).trans HC7.out
       have c16 : wr2.cell? ⟨B7, i - 16, none⟩ = some (.int .u32 (u p16)) := (hcc _).trans HC16.out
       have ci : wr2.cell? ⟨B7, i, none⟩ = some (.int .u32 (u q)) := (hcc _).trans HCi.out
       clear hv2 c2 hcc
       go_wp2_with fail
       have w7 : IntKind.i64.wrap ((i : Int) - 7) = (i : Int) - 7 := IntWalk.i64_in _ (by omega)
       have w16 : IntKind.i64.wrap ((i : Int) - 16) = (i : Int) - 16 := IntWalk.i64_in _ (by omega)
       have n7 : ((i : Int) - 7).toNat = i - 7 := by omega
       have n16 : ((i : Int) - 16).toNat = i - 16 := by omega
       have l7 : (7 : Int) ≤ (i : Int) := by omega
       have l16 : (16 : Int) ≤ (i : Int) := by omega
       have g7 : (i : Int) - 7 < 64 := by omega
       have g16 : (i : Int) - 16 < 64 := by omega
       go_still_tail 15, (by kernel_rfl)
       change wpList _ _ _ _ _ wr2.drew
       clear w7 w16 n7 n16 l7 l16 g7 g16
       go_wp2_with fail
       go_roundw
       case rel =>
        refine ⟨i + 1, by omega, by omega, by go_num, Lib.hid ?_⟩
        have h := (HV2.out.set i (.int .u32 (u (s1 p2 + p7 + s0 p15 + p16)))).drew
        rw [wcells_set] at h
        rw [u_add4, mo_step x i (by omega), HP.out]
        exact h
       case measure => simp [intOf]; omega
      ·
       have hi64 : i = 64 := by omega
       subst hi64
       have hge : ¬ ((64 : Nat) : Int) < 64 := by omega
       obtain ⟨U, rfl⟩ : ∃ U, U = wr := ⟨_, rfl⟩
       have hs : U.heap[B7]? = some (.cells (wcells (sched x)) 170 (0, 0)) := HROW.out.own
       have so : ∀ b, b ≠ B7 → U.heap[b]? = V.heap[b]? := HROW.out.oth
       have sbz : Below w.heap.size w U := SB.out.trans (HROW.out.below (n := w.heap.size) (by omega))
       have s4z : U.heap[B3 + 1]? = some (.cells (wcells r.list) 172 (0, 0)) := (so _ (by omega)).trans S4.out
       have s3z : U.heap[B3]? = some (.cells (wcells K) 170 (0, 0)) := (so _ (by omega)).trans S3.out
       have s2z : U.heap[w.heap.size]? = some (.cells (bcells (List.replicate 32 0)) 157 (0, 0)) := (so _ (by omega)).trans S2.out
       have srcz : ∀ j x, T[j]? = some x → U.cell? ⟨g, j, none⟩ = some (.int .u8 (x.toNat : Int)) := fun j x h => (cell_of_heap2 (so g (by omega))).trans (SSRC.out j x h)
       have hzz : U.heap.size = B7 + 1 := HROW.out.size.trans HZV.out
       have q : ∀ j y, r.list[j]? = some y → U.cell? ⟨B3 + 1, j, none⟩ = some (.int .u32 (u y)) := fun j y hj => by
        obtain ⟨hlt, e⟩ := List.getElem?_eq_some_iff.1 hj
        rw [cell_of_row _ _ _ _ _ _ s4z, wcells_at _ _ hlt, List.getD_eq_getElem?_getD, hj]
        rfl
       have q0 := q 0 r.a rfl
       have q1 := q 1 r.b rfl
       have q2 := q 2 r.c rfl
       have q3 := q 3 r.d rfl
       have q4 := q 4 r.e rfl
       have q5 := q 5 r.f rfl
       have q6 := q 6 r.g rfl
       have q7 := q 7 r.h rfl
       have ZS := Lib.hid hs
       have Z2 := Lib.hid s2z
       have Z3 := Lib.hid s3z
       have Z4 := Lib.hid s4z
       have ZB := Lib.hid sbz
       have ZR := Lib.hid srcz
       have ZZ := Lib.hid hzz
       clear q hs so sbz s4z s3z s2z srcz hzz HROW HV7 S2 S3 S4 SB SSRC HXC HZV
       go_wp2_with fail
       go_quiet (fail)
       go_wp2_with fail
       go_loopw [13, 14, 15, 16, 17, 18, 19, 20, 21] (fun s6 s7 s8 s9 s10 s11 s12 s13 i wz => ∃ (k : Nat) (m' : Nat) (a b c d e f g' h : UInt32), k ≤ 64 ∧ i = .int .i64 (k : Int) ∧ RowKit.Hid (turn (sched x) k r = ⟨a, b, c, d, e, f, g', h⟩) ∧ s6 = .int .u32 (u a) ∧ s7 = .int .u32 (u b) ∧ s8 = .int .u32 (u c) ∧ s9 = .int .u32 (u d) ∧ s10 = .int .u32 (u e) ∧ s11 = .int .u32 (u f) ∧ s12 = .int .u32 (u g') ∧ s13 = .int .u32 (u h) ∧ RowKit.Hid (wz = U.drewN m')) (fun _ _ _ _ _ _ _ _ i _ => 64 - (intOf i).toNat)
       case atStart => exact ⟨0, _, r.a, r.b, r.c, r.d, r.e, r.f, r.g, r.h, by omega, rfl, Lib.hid rfl, rfl, rfl, rfl, rfl, rfl, rfl, rfl, rfl, Lib.hid rfl⟩
       case round =>
        obtain ⟨k, m', a, b, c', d, e, f, g', h, hk, rfl, HT, rfl, rfl, rfl, rfl, rfl, rfl, rfl, rfl, HWR⟩ := hrel
        clear q0 q1 q2 q3 q4 q5 q6 q7
        by_cases hlt : k < 64
        ·
         obtain ⟨kk, hkk⟩ : ∃ y, K.getD k 0 = y := ⟨_, rfl⟩
         obtain ⟨ww, hww⟩ : ∃ y, (sched x).getD k 0 = y := ⟨_, rfl⟩
         have ck : wr.cell? ⟨B3, k, none⟩ = some (.int .u32 (u kk)) := by
          rw [HWR.out, cell_of_row (U.drewN m') _ k _ _ _ Z3.out, wcells_at _ _ hlt, hkk]
         have cw : wr.cell? ⟨B7, k, none⟩ = some (.int .u32 (u ww)) := by
          rw [HWR.out, cell_of_row (U.drewN m') _ k _ _ _ ZS.out, wcells_at _ _ (by rw [sched_len]; exact hlt), hww]
         have HST := Lib.hid (show turn (sched x) (k + 1) r = Sha.step ⟨a, b, c', d, e, f, g', h⟩ kk ww by rw [turn, HT.out, hkk, hww])
         have hk64 : (k : Int) < 64 := by omega
         clear hkk hww
         go_wp2_with fail
         (with_reducible refine (rot_6 e _).mono ?_)
         rintro e' w9 ⟨rfl, rfl⟩
         go_wp2_with fail
         (with_reducible refine (rot_11 e _).mono ?_)
         rintro e' w9 ⟨rfl, rfl⟩
         go_wp2_with fail
         (with_reducible refine (rot_25 e _).mono ?_)
         rintro e' w9 ⟨rfl, rfl⟩
         go_wp2_with fail
         (with_reducible refine (rot_2 a _).mono ?_)
         rintro e' w9 ⟨rfl, rfl⟩
         go_wp2_with fail
         (with_reducible refine (rot_13 a _).mono ?_)
         rintro e' w9 ⟨rfl, rfl⟩
         go_wp2_with fail
         (with_reducible refine (rot_22 a _).mono ?_)
         rintro e' w9 ⟨rfl, rfl⟩
         go_wp2_with fail
         rw [u_e1 e, u_e0 a]
         go_quiet (fail)
         rw [mx, u_t]
         obtain ⟨TT, hT⟩ : ∃ TT, h + e1 e + ((e &&& f) ^^^ (~~~ e &&& g')) + kk + ww = TT := ⟨_, rfl⟩
         rw [hT]
         have HTT := Lib.hid hT
         clear hT ck cw
         generalize hv1 : World.drewN wr _ = wr1
         have HV1 : RowKit.Hid (∃ m, wr1 = U.drewN m) := Lib.hid ⟨_, by rw [← hv1, HWR.out, World.drewN_drewN]⟩
         clear hv1
         go_wp2_with fail
         obtain ⟨m1, hm1⟩ := HV1.out
         refine ⟨⟨k + 1, m1, TT + (e0 a + ((a &&& b) ^^^ (a &&& c') ^^^ (b &&& c'))), a, b, c', d + TT, e, f, g', by omega, by go_num, Lib.hid (by rw [HST.out, step_eq, HTT.out]), ?_, rfl, rfl, rfl, ?_, rfl, rfl, rfl, Lib.hid hm1⟩, by simp [intOf]; omega⟩
         ·
          rw [← u_add, ← u_u]
         ·
          rw [← u_add]
        ·
         have hk64 : k = 64 := by omega
         subst hk64
         have hge : ¬ ((64 : Nat) : Int) < 64 := by omega
         go_wp2_with fail
         obtain ⟨BA, hBA⟩ : ∃ BA, wr.heap.size = BA := ⟨_, rfl⟩
         have hUz : wr.heap.size = B7 + 1 := by rw [HWR.out]; exact ZZ.out
         have y4 : wr.heap[B3 + 1]? = some (.cells (wcells r.list) 172 (0, 0)) := by rw [HWR.out]; exact Z4.out
         have y3 : wr.heap[B3]? = some (.cells (wcells K) 170 (0, 0)) := by rw [HWR.out]; exact Z3.out
         have y2 : wr.heap[w.heap.size]? = some (.cells (bcells (List.replicate 32 0)) 157 (0, 0)) := by rw [HWR.out]; exact Z2.out
         have yb : Below w.heap.size w wr := by rw [HWR.out]; exact below_drewN ZB.out _
         have yr : ∀ j x, T[j]? = some x → wr.cell? ⟨g, j, none⟩ = some (.int .u8 (x.toNat : Int)) := by rw [HWR.out]; exact ZR.out
         generalize hV3 : World.alloc wr _ = V3
         have x4 : V3.heap[B3 + 1]? = some (.cells (wcells (pl r.list [a, b, c', d, e, f, g', h] 0)) 172 (0, 0)) := by
          rw [← hV3, Below.heap_alloc _ _ _ (by omega)]; exact y4
         have xa : V3.heap[BA]? = some (.cells (wcells [a, b, c', d, e, f, g', h]) 172 (0, 0)) := by
          rw [← hV3, ← hBA]; exact heap_alloc_new _ _
         have x3 : V3.heap[B3]? = some (.cells (wcells K) 170 (0, 0)) := by rw [← hV3, Below.heap_alloc _ _ _ (by omega)]; exact y3
         have x2 : V3.heap[w.heap.size]? = some (.cells (bcells (List.replicate 32 0)) 157 (0, 0)) := by rw [← hV3, Below.heap_alloc _ _ _ (by omega)]; exact y2
         have xb : Below w.heap.size w V3 := by rw [← hV3]; exact yb.alloc (by omega) _
         have xr : ∀ j x, T[j]? = some x → V3.cell? ⟨g, j, none⟩ = some (.int .u8 (x.toNat : Int)) := fun j x hj => by
          rw [← hV3, cell_of_heap2 (Below.heap_alloc _ _ _ (by omega))]; exact yr j x hj
         have xz : V3.heap.size = BA + 1 := by rw [← hV3, ← hBA]; simp
         have hBA7 : BA = B7 + 1 := by rw [← hBA]; exact hUz
         try simp only [hBA]
         have X4 := Lib.hid (OnlyB.here x4)
         have XA := Lib.hid xa
         have X3 := Lib.hid x3
         have X2 := Lib.hid x2
         have XB := Lib.hid xb
         have XR := Lib.hid xr
         have XZ := Lib.hid xz
         clear hV3 x4 xa x3 x2 xb xr y4 y3 y2 yb yr hBA hUz HWR ZS Z2 Z3 Z4 ZB ZR ZZ xz
         subst hBA7
         go_loopw [27] (fun i wz => ∃ k : Nat, k ≤ 8 ∧ i = .int .i64 (k : Int) ∧ RowKit.Hid (OnlyB (B3 + 1) 172 V3 wz (wcells (pl r.list [a, b, c', d, e, f, g', h] k)))) (fun i _ => 8 - (intOf i).toNat)
         case atStart => exact ⟨0, by omega, rfl, X4⟩
         case round =>
          clear X4
          obtain ⟨k, hk, rfl, HROW⟩ := hrel
          by_cases hlt : k < 8
          ·
           obtain ⟨y, hy⟩ : ∃ y, [a, b, c', d, e, f, g', h].getD k 0 = y := ⟨_, rfl⟩
           obtain ⟨z, hz⟩ : ∃ z, (pl r.list [a, b, c', d, e, f, g', h] k).getD k 0 = z := ⟨_, rfl⟩
           have hc := HROW.out.cell k
           rw [wcells_at _ _ (by rw [pl_len, list_len]; omega), hz] at hc
           have hf := HROW.out.free k
           have hd : wr.cell? ⟨B7 + 1, k, none⟩ = some (.int .u32 (u y)) := by
            rw [cell_of_heap2 (HROW.out.oth (B7 + 1) (by omega)), cell_of_row _ _ _ _ _ _ XA.out, wcells_at _ _ (by simpa using hlt), hy]
           have HY := Lib.hid hy
           have HZ := Lib.hid hz
           have hk8 : (k : Int) < 8 := by omega
           clear hy hz
           go_wp2_with fail
           go_still_tail 9, (by kernel_rfl)
           change wpList _ _ _ _ _ wr.drew
           go_wp2_with fail
           refine ⟨⟨k + 1, by omega, by go_num, Lib.hid ?_⟩, by simp [intOf]; omega⟩
           have h1 := (HROW.out.set k (.int .u32 (u (z + y)))).drew
           rw [wcells_set] at h1
           rw [u_add, pl, HY.out, HZ.out]
           exact h1
          ·
           have hk8 : k = 8 := by omega
           subst hk8
           have hge : ¬ ((8 : Nat) : Int) < 8 := by omega
           go_wp2_with fail
           have hfin : pl r.list [a, b, c', d, e, f, g', h] 8 = (Sha.run (m + 1) Sha.start T).list := by
            show pl r.list (Regs.list ⟨a, b, c', d, e, f, g', h⟩) 8 = _
            rw [pl_all, Sha.run, HR.out, HP0.out, HX.out]
            unfold after
            rw [HT.out]
           have hown := HROW.out.own
           rw [hfin] at hown
           refine ⟨⟨m + 1, by omega, congrArg (Value.int _) (by have := HP0.out; omega), Lib.hid ⟨(HROW.out.oth _ (by omega)).trans X2.out, (HROW.out.oth _ (by omega)).trans X3.out, hown, fun j x hj => (cell_of_heap2 (HROW.out.oth g (by omega))).trans (XR.out j x hj), XB.out.trans (HROW.out.below (n := w.heap.size) (by omega)), ?_⟩⟩, by simp [intOf]; omega⟩
           rw [HROW.out.size, XZ.out]
           omega
  ·
   have hmM : m = M := by omega
   subst hmM
   have hge : ¬ (P : Int) < ((64 * m : Nat) : Int) := by omega
   rw [hP]
   have hge2 : ¬ (P : Int) < (P : Int) := by omega
   clear hge hP
   go_wp2_with fail
   obtain ⟨BO, hBO⟩ : ∃ BO, wr.heap.size = BO := ⟨_, rfl⟩
   obtain ⟨l8, hl8⟩ : ∃ l8, (Sha.run m Sha.start T).list = l8 := ⟨_, rfl⟩
   have h8 : l8.length = 8 := by rw [← hl8, list_len]
   have r4 := SRm.out.r4
   rw [hl8] at HF r4
   have hF32 : F.length = 32 := by rw [← HF.out, hp_len]
   generalize hV4 : World.alloc wr _ = V4
   have wz2 := SRm.out.bl.size
   have w4lt : B3 + 1 < wr.heap.size := (Array.getElem?_eq_some_iff.1 r4).1
   have x4 : V4.heap[B3 + 1]? = some (.cells (wcells l8) 172 (0, 0)) := by rw [← hV4, Below.heap_alloc _ _ _ w4lt]; exact r4
   have x2 : V4.heap[w.heap.size]? = some (.cells (bcells (List.replicate 32 0)) 157 (0, 0)) := by rw [← hV4, Below.heap_alloc _ _ _ (by omega)]; exact SRm.out.r2
   have xo : V4.heap[BO]? = some (.cells (bcells (hp l8 0)) 157 (0, 0)) := by rw [← hV4, ← hBO]; exact (heap_alloc_new _ _).trans rfl
   have xb : Below w.heap.size w V4 := by rw [← hV4]; exact SRm.out.bl.alloc wz2 _
   rw [hBO] at w4lt
   try simp only [hBO]
   have X4 := Lib.hid x4
   have X2 := Lib.hid x2
   have XO := Lib.hid (OnlyB.here xo)
   have XB := Lib.hid xb
   have H8 := Lib.hid h8
   have HF32 := Lib.hid hF32
   clear hBO hl8 h8 r4 hV4 wz2 x4 x2 xo xb SRm hF32 hge2
   go_loopw [29] (fun i wz => ∃ k : Nat, k ≤ 8 ∧ i = .int .i64 (k : Int) ∧ RowKit.Hid (OnlyB BO 157 V4 wz (bcells (hp l8 (4 * k))))) (fun i _ => 8 - (intOf i).toNat)
   case atStart => exact ⟨0, by omega, rfl, XO⟩
   case round =>
    clear XO
    obtain ⟨k, hk, rfl, HROW⟩ := hrel
    by_cases hk8 : k < 8
    ·
     have hki : (k : Int) < 8 := by omega
     go_wp2_with fail
     go_loopw [30] (fun i wz => ∃ j : Nat, j ≤ 4 ∧ i = .int .i64 (j : Int) ∧ RowKit.Hid (OnlyB BO 157 V4 wz (bcells (hp l8 (4 * k + j))))) (fun i _ => 4 - (intOf i).toNat)
     case atStart => exact ⟨0, by omega, rfl, HROW⟩
     case round =>
      clear HROW
      obtain ⟨j, hj, rfl, HROW⟩ := hrel
      by_cases hj4 : j < 4
      ·
       have hji : (j : Int) < 4 := by omega
       have hq : (4 * k + j) / 4 = k := by omega
       have hq2 : (4 * k + j) % 4 = j := by omega
       obtain ⟨y, hy⟩ : ∃ y, l8.getD k 0 = y := ⟨_, rfl⟩
       have hc : wr.cell? ⟨B3 + 1, k, none⟩ = some (.int .u32 (u y)) := by
        rw [cell_of_heap2 (HROW.out.oth _ (by omega)), cell_of_row _ _ _ _ _ _ X4.out, wcells_at _ _ (by rw [H8.out]; exact hk8), hy]
       have hd := HROW.out.cell (4 * k + j)
       rw [bcells_at _ _ (by rw [hp_len]; omega)] at hd
       have hf := HROW.out.free (4 * k + j)
       have hb := u_byte l8 (4 * k + j)
       rw [hq, hq2, hy] at hb
       have HB := Lib.hid hb
       have hn : (24 - 8 * (j : Int)).toNat = 8 * (3 - j) := by omega
       have hge : (0 : Int) ≤ 24 - 8 * (j : Int) := by omega
       obtain ⟨z, hz⟩ : ∃ z, (hp l8 (4 * k + j)).getD (4 * k + j) 0 = z := ⟨_, rfl⟩
       rw [hz] at hd
       clear hy hb hq hq2 hz
       go_wp2_with fail
       refine ⟨⟨j + 1, by omega, by go_num, Lib.hid ?_⟩, by simp [intOf]; omega⟩
       have h := HROW.out.set (4 * k + j) (.int .u8 ((byteAt l8 (4 * k + j)).toNat : Int))
       rw [bcells_set] at h
       rw [HB.out, show 4 * k + (j + 1) = 4 * k + j + 1 by omega, hp]
       exact h
      ·
       have hjj : j = 4 := by omega
       subst hjj
       have hjg : ¬ ((4 : Nat) : Int) < 4 := by omega
       go_wp2_with fail
       exact ⟨⟨k + 1, by omega, by go_num, Lib.hid (by rw [show 4 * (k + 1) = 4 * k + 4 by omega]; exact HROW.out)⟩, by simp [intOf]; omega⟩
    ·
     have hkk : k = 8 := by omega
     subst hkk
     have hkg : ¬ ((8 : Nat) : Int) < 8 := by omega
     have hgO := HROW.out.own
     rw [HF.out] at hgO
     have hg2 : wr.heap[w.heap.size]? = some (.cells (bcells (List.replicate 32 0)) 157 (0, 0)) := (HROW.out.oth _ (by omega)).trans X2.out
     have hsz : (Tryz.prog.info? 157).map (·.size) = some (bcells F).size := by rw [bcells_size, HF32.out]; kernel_rfl
     have hso : (bcells (List.replicate 32 0)).size = (bcells F).size := by rw [bcells_size, bcells_size, HF32.out]; rfl
     have HGO := Lib.hid hgO
     have HG2 := Lib.hid hg2
     have HSW := Lib.hid hsz
     have HSO := Lib.hid hso
     have hbl := XB.out.trans (HROW.out.below (n := w.heap.size) (by omega))
     have HBL := Lib.hid hbl
     clear hgO hg2 hsz hso hbl
     go_wp2_with (first | (refine wpList_load_row rfl 157 _ rfl BO rfl 157 (bcells F) (0, 0) _ HGO.out Tryz.underlying157 rfl HSW.out ?_) | (refine wpList_store_row rfl 157 _ _ rfl w.heap.size (bcells F) rfl rfl 157 (bcells (List.replicate 32 0)) HG2.out HSW.out HSO.out (bcells_one _) ?_))
     refine bodyPost_ret (v := .agg (bcells F)) (results_cell_row rfl _ _ w.heap.size 157 _ (0, 0) _ rfl (setRow_heap _ _ _ _ _ _ HG2.out) Tryz.underlying157 rfl HSW.out) rfl ⟨rfl, ?_⟩
     exact below_row HBL.out (Nat.le_refl _) _
end Go.Proofs.YtcgffkkfeimifaaGreatDoor
namespace Go.Proofs.YtcgffkkfeimifaaGreatDoor
open Go.RowKit Sha
set_option linter.unusedVariables false
set_option linter.unusedSimpArgs false
def fk (F : List UInt8) : Nat → List UInt8
 | 0 => List.replicate 16 0
 | k + 1 => (fk F k).set k (F.getD k 0)
theorem fk_len (F : List UInt8) : ∀ k, (fk F k).length = 16
 | 0 => by simp [fk]
 | k + 1 => by rw [fk, List.length_set, fk_len F k]
theorem fk_get (F : List UInt8) : ∀ k j, j < k → k ≤ 16 → (fk F k)[j]? = some (F.getD j 0)
 | 0, j, h, _ => by omega
 | k + 1, j, h, hk => by
  rw [fk, List.getElem?_set]
  by_cases e : k = j
  ·
   rw [if_pos e, if_pos (by rw [fk_len]; omega), e]
  ·
   rw [if_neg e]
   exact fk_get F k j (by omega) (by omega)
theorem fk_all (F : List UInt8) (hF : F.length = 32) : fk F 16 = F.take 16 := by
 apply List.ext_getElem?
 intro j
 by_cases h : j < 16
 ·
  rw [fk_get F 16 j h (Nat.le_refl _), List.getElem?_take, if_pos h, List.getD_eq_getElem?_getD, List.getElem?_eq_getElem (by omega)]
  rfl
 ·
  rw [List.getElem?_eq_none (by rw [fk_len]; omega), List.getElem?_eq_none (by rw [List.length_take]; omega)]
set_option maxRecDepth 100000 in
set_option maxHeartbeats 4000000 in
theorem short_ref (l : List UInt8) (A : Option Addr) (c : Nat) (hl : l.length ≤ 100000) (hc : l.length ≤ c) (hA : A = none → c = 0) (w : World) (hs : SrcAt A l w) :
  Calls Tryz.prog 121 #[.slice A l.length c] w fun e w' => e = .returned (.agg (bcells ((sha l).take 16))) ∧ Below w.heap.size w w' := by
 have hsum := fun (V : World) (hb : Below w.heap.size w V) => sum_ref l A c hl hc hA V (hs.on hb)
 obtain ⟨F, hF⟩ : ∃ F, sha l = F := ⟨_, rfl⟩
 have hF32 : F.length = 32 := by rw [← hF]; exact sha_len _
 rw [hF] at hsum ⊢
 have hfin := fk_all F hF32
 obtain ⟨n, hn⟩ : ∃ n, l.length = n := ⟨_, rfl⟩
 rw [hn] at hsum ⊢
 have HSUM := Lib.hid hsum
 have HFIN := Lib.hid hfin
 have HF32 := Lib.hid hF32
 have hsz : (Tryz.prog.info? 157).map (·.size) = some (bcells F).size := by rw [bcells_size, hF32]; kernel_rfl
 have hso : (32 : Nat) = (bcells F).size := by rw [bcells_size, hF32]
 have HSZ := Lib.hid hsz
 have HSO := Lib.hid hso
 clear hsum hF hF32 hfin hn hs hA hc hl hsz hso
 go_enter Tryz.func121, Tryz.ntmps121
 go_wp2_with fail
 refine (HSUM.out _ (below_new _ _)).mono ?_
 rintro e w1 ⟨rfl, hb1⟩
 have HB1 := Lib.hid ((below_new w _).trans (hb1.mono (by simp)))
 have HZ1 : RowKit.Hid (w1.heap[w.heap.size]? = some (.cells (bcells (fk F 0)) 41 (0, 0))) := Lib.hid ((hb1.block _ (by simp)).trans ((heap_alloc_new _ _).trans rfl))
 have hz1 : w.heap.size < w1.heap.size := by have := hb1.size; simp at this; omega
 clear hb1
 go_wp2_with (refine wpList_store_row rfl 157 _ _ rfl w1.heap.size (bcells F) rfl rfl 157 _ (heap_alloc_new _ _) HSZ.out HSO.out (bcells_one _) ?_)
 rw [World.setRow_alloc_new]
 obtain ⟨B, hB⟩ : ∃ B, w1.heap.size = B := ⟨_, rfl⟩
 simp only [hB]
 generalize hV : World.alloc (World.alloc w1 _) _ = V
 have a3 : V.heap[B]? = some (.cells (bcells F) 157 (0, 0)) := by rw [← hV, ← hB]; exact heap_alloc2_old _ _ _
 have a4 : V.heap[B + 1]? = some (.cells (bcells (fk F 0)) 41 (0, 0)) := by rw [← hV, ← hB]; exact heap_alloc2_new _ _ _
 have a2 : V.heap[w.heap.size]? = some (.cells (bcells (fk F 0)) 41 (0, 0)) := by
  rw [← hV, Below.heap_alloc _ _ _ (by simp; omega), Below.heap_alloc _ _ _ (by omega)]
  exact HZ1.out
 have ab : Below w.heap.size w V := by rw [← hV]; exact (HB1.out.alloc (by omega) _).alloc (by simp; omega) _
 rw [hB] at hz1
 have A3 := Lib.hid a3
 have A4 := Lib.hid (OnlyB.here a4)
 have A2 := Lib.hid a2
 have AB := Lib.hid ab
 clear a2 a3 a4 ab hV hB HZ1 HB1
 go_loopw [5] (fun i wz => ∃ k : Nat, k ≤ 16 ∧ i = .int .i64 (k : Int) ∧ RowKit.Hid (OnlyB (B + 1) 41 V wz (bcells (fk F k)))) (fun i _ => 16 - (intOf i).toNat)
 case atStart => exact ⟨0, by omega, rfl, A4⟩
 case round =>
  clear A4
  obtain ⟨k, hk, rfl, HROW⟩ := hrel
  by_cases hlt : k < 16
  ·
   have hki : (k : Int) < 16 := by omega
   have hk32 : (k : Int) < 32 := by omega
   have hd := HROW.out.cell k
   rw [bcells_at _ _ (by rw [fk_len]; exact hlt)] at hd
   have hf := HROW.out.free k
   have hc : wr.cell? ⟨B, k, none⟩ = some (.int .u8 ((F.getD k 0).toNat : Int)) := by
    rw [cell_of_heap2 (HROW.out.oth B (by omega)), cell_of_row _ _ _ _ _ _ A3.out, bcells_at _ _ (by rw [HF32.out]; omega)]
   obtain ⟨y, hy⟩ : ∃ y, F.getD k 0 = y := ⟨_, rfl⟩
   obtain ⟨z, hz⟩ : ∃ z, (fk F k).getD k 0 = z := ⟨_, rfl⟩
   rw [hy] at hc
   rw [hz] at hd
   have HY := Lib.hid hy
   clear hy hz
   go_wp2_with fail
   refine ⟨⟨k + 1, by omega, by go_num, Lib.hid ?_⟩, by simp [intOf]; omega⟩
   have h := HROW.out.set k (.int .u8 (y.toNat : Int))
   rw [bcells_set] at h
   rw [fk, HY.out]
   exact h
  ·
   have hkk : k = 16 := by omega
   subst hkk
   have hkg : ¬ ((16 : Nat) : Int) < 16 := by omega
   have hgO := HROW.out.own
   rw [HFIN.out] at hgO
   have hg2 : wr.heap[w.heap.size]? = some (.cells (bcells (fk F 0)) 41 (0, 0)) := (HROW.out.oth _ (by omega)).trans A2.out
   have hT16 : (F.take 16).length = 16 := by rw [List.length_take, HF32.out]; rfl
   have hs2 : (Tryz.prog.info? 41).map (·.size) = some (bcells (F.take 16)).size := by rw [bcells_size, hT16]; kernel_rfl
   have ho2 : (bcells (fk F 0)).size = (bcells (F.take 16)).size := by rw [bcells_size, bcells_size, fk_len, hT16]
   have HGO := Lib.hid hgO
   have HG2 := Lib.hid hg2
   have HS2 := Lib.hid hs2
   have HO2 := Lib.hid ho2
   have HBL := Lib.hid (AB.out.trans (HROW.out.below (n := w.heap.size) (by omega)))
   clear hgO hg2 hs2 ho2 hT16
   go_wp2_with (first | (refine wpList_load_row rfl 41 _ rfl (B + 1) rfl 41 (bcells (F.take 16)) (0, 0) _ HGO.out Tryz.underlying41 rfl HS2.out ?_) | (refine wpList_store_row rfl 41 _ _ rfl w.heap.size (bcells (F.take 16)) rfl rfl 41 (bcells (fk F 0)) HG2.out HS2.out HO2.out (bcells_one _) ?_))
   refine bodyPost_ret (v := .agg (bcells (F.take 16))) (results_cell_row rfl _ _ w.heap.size 41 _ (0, 0) _ rfl (setRow_heap _ _ _ _ _ _ HG2.out) Tryz.underlying41 rfl HS2.out) rfl ⟨rfl, ?_⟩
   exact below_row HBL.out (Nat.le_refl _) _
theorem own_rd7 {w : World} {base : Nat} {v : Value} {l : List UInt8} (h : w.ownsRow base 5 1 v l.length (bvals l)) :
  ∃ A c, v = .slice A l.length c ∧ l.length ≤ c ∧ c ≤ maxLen ∧ (A = none → c = 0) ∧ SrcAt A l w := by
 obtain ⟨hl', h | ⟨g, cap, cur, hv, hb, hg, hnc, hcm, hcs, ht⟩⟩ := h
 ·
  obtain ⟨rfl, h2⟩ := h
  have hl : l = [] := List.length_eq_zero_iff.1 h2
  subst hl
  exact ⟨none, 0, rfl, Nat.le_refl _, Nat.zero_le _, fun _ => rfl, fun e => absurd rfl e⟩
 ·
  refine ⟨some ⟨g, 0, none⟩, cap, hv, hnc, hcm, fun e => (by cases e), fun _ => ⟨g, 0, rfl, fun j x hj => ?_⟩⟩
  rw [Nat.zero_add, cell_of_row w g j cur _ _ hg, ← Array.getElem?_toList]
  have h2 : (cur.toList.take (l.length * 1))[j]? = some (.int .u8 (x.toNat : Int)) := by
   rw [ht]
   unfold bvals
   rw [List.getElem?_map, hj]
   rfl
  rw [List.getElem?_take] at h2
  split at h2
  ·
   exact h2
  ·
   cases h2
end Go.Proofs.YtcgffkkfeimifaaGreatDoor
