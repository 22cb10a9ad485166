import Derived.Test.YtcgffkkfeimifaaGreatRxE
import Derived.Deep.RegionHeld3
namespace Go.Proofs.YtcgffkkfeimifaaGreat
namespace Sg
open Go.RowKit Sha Oc
set_option linter.unusedVariables false
set_option linter.unusedSimpArgs false
theorem append_sh {w : World} {ops : Array Oper} {rest : List Oper} {o : Oper} {a : Act} {Q : Exit → Act → World → Prop} (hgd : o.guard = none) (s x : Operand)
  (ho : o.op = .call { callee := .builtin .append, args := #[s, x], argTypes := #[26, 26] }) (base : Nat) (v : Value) (n : Nat) (xs : List Value) (hs : a.eval s = v) (hown : w.ownsRow base 108 16 v n xs)
  (ad : Addr) (m c : Nat) (L : List UInt8) (hx : a.eval x = .slice (some ad) m c) (hm : L.length = m * 16) (hc : ∀ j u, (bvals L)[j]? = some u → w.cell? (ad.add j) = some u) (h63 : n + m ≤ 1000000) (hbase : base ≤ w.heap.size)
  (h : ∀ v' w', w'.ownsRow base 108 16 v' (n + m) (xs ++ bvals L) → w.grownBy w' v.ownBlock → wpList Tryz.prog ops Q rest (a.put o.dst v') w') : wpList Tryz.prog ops Q (o :: rest) a w := by
 obtain ⟨i0, hi, hz0, hz1, hz2⟩ := info_parts Tryz.info_short
 exact wpList_append_own _ hgd s x 26 ho base 108 i0 (.agg (bcells (List.replicate 16 0))) 16 16 Tryz.underlying26 hi hz0 hz1 hz2 rfl (by decide) v n xs hs hown ad m c (bvals L) hx (by rw [bvals_len, hm]) hc (fun u hu => by
  unfold bvals at hu
  obtain ⟨x, _, rfl⟩ := List.mem_map.1 hu
  rfl) (by unfold maxLen; omega) (by omega) hbase (fun v' w' h1 h2 _ => h v' w' h1 h2)
theorem own_geH {w : World} {b n k : Nat} {v : Value} {xs : List Value} {T : TypeId} {c : Nat} (h : w.ownsRow b T c v n xs) (hk : v.ownBlock = some k) : b ≤ k ∧ k < w.heap.size := by
 obtain ⟨h1, ⟨rfl, _⟩ | ⟨g, cap, cur, rfl, h3, h4, _⟩⟩ := h
 ·
  cases hk
 ·
  obtain rfl : g = k := by simpa [Value.ownBlock] using hk
  exact ⟨h3, (Array.getElem?_eq_some_iff.1 h4).1⟩
theorem own_onH {w V : World} {b n : Nat} {v : Value} {xs : List Value} {T : TypeId} {c : Nat} (h : w.ownsRow b T c v n xs) (hb : Below w.heap.size w V) : V.ownsRow b T c v n xs := by
 obtain ⟨h1, h2 | ⟨g, cap, cur, h3, h4, h5, h6⟩⟩ := h
 ·
  exact ⟨h1, .inl h2⟩
 ·
  exact ⟨h1, .inr ⟨g, cap, cur, h3, h4, (hb.block g (Array.getElem?_eq_some_iff.1 h5).1).trans h5, h6⟩⟩
theorem chs_take : ∀ (q : Nat) (b : List UInt8), 16 * q ≤ b.length → (∀ l ∈ chs q b, l.length = 16) ∧ (chs q b).flatten = b.take (16 * q)
 | 0, b, _ => ⟨fun l hl => (by rw [chs] at hl; cases hl), by rw [chs]; rfl⟩
 | q + 1, b, h => by
  obtain ⟨h1, h2⟩ := chs_take q (b.drop 16) (by rw [List.length_drop]; omega)
  rw [chs]
  refine ⟨fun l hl => ?_, ?_⟩
  ·
   rcases List.mem_cons.1 hl with rfl | hl
   ·
    rw [List.length_take]; omega
   ·
    exact h1 l hl
  ·
   rw [List.flatten_cons, h2, show 16 * (q + 1) = 16 + 16 * q by omega, List.take_add]
theorem bcells_set (L : List UInt8) (k : Nat) (y : UInt8) : (bcells L).setIfInBounds k (.int .u8 (y.toNat : Int)) = bcells (L.set k y) := by
 unfold bcells
 rw [List.setIfInBounds_toArray, List.map_set]
theorem cell_short_new (w : World) (L : List UInt8) (T : TypeId) : ∀ j u, (bvals L)[j]? = some u → (w.alloc (.cells (bcells L) T)).cell? ((⟨w.heap.size, 0, none⟩ : Addr).add j) = some u := fun j u hj => by
 rw [add_eq, Nat.zero_add, cell_of_row _ _ _ _ _ _ (heap_alloc_new w _)]
 unfold bcells
 unfold bvals at hj
 simpa using hj
def ShsPost (b : List UInt8) (w : World) (e : Ending) (w' : World) : Prop := ∃ A c, e = .returned (.slice A (b.length / 16) c) ∧ (A = none → c = 0) ∧ Shs A (chO b) w' ∧ Below w.heap.size w w'
set_option maxRecDepth 100000 in
set_option maxHeartbeats 8000000 in
theorem shorts10_ref (b : List UInt8) (hb : b.length ≤ 100000) (A : Option Addr) (c : Nat) (w : World) (hs : SrcAt A b w) :
  Calls Tryz.prog 60 #[.slice A b.length c] w (ShsPost b w) := by
 obtain ⟨n, hn⟩ : ∃ n, b.length = n := ⟨_, rfl⟩
 have HN := Lib.hid hn
 have HS := Lib.hid hs
 have HZ := Lib.hid (Below.refl w.heap.size w)
 unfold ShsPost
 rw [hn] at hb ⊢
 clear hs hn
 go_enter Tryz.func60, Tryz.ntmps60
 go_wp2_with fail
 go_loopw [3, 4] (fun vv ix wr => ∃ q i : Nat, i ≤ n ∧ ix = .int .i64 (i : Int) ∧ RowKit.Hid (i = 16 * q) ∧ RowKit.Hid (Below w.heap.size w wr) ∧ RowKit.Hid (wr.ownsRow w.heap.size 108 16 vv q (bvals (b.take i)))) (fun _ ix _ => n + 1 - (intOf ix).toNat)
 case atStart => exact ⟨0, 0, by omega, rfl, Lib.hid rfl, HZ, Lib.hid ⟨rfl, .inl ⟨rfl, rfl⟩⟩⟩
 case round =>
  clear HZ
  obtain ⟨q, i, hq, rfl, HI, HB, HO⟩ := hrel
  by_cases hlt : i + 16 ≤ n
  ·
   have hki : (i : Int) + 16 ≤ (n : Int) := by omega
   go_upto_region 6 with (fail)
   obtain ⟨SB, hSB⟩ : ∃ SB, wr.heap.size = SB := ⟨_, rfl⟩
   have hr1 : (wr.alloc (.cells (bcells (List.replicate 16 0)) 108)).heap[wr.heap.size]? = some (.cells (bcells (List.replicate 16 0)) 108 (0, 0)) := heap_alloc_new wr _
   have hb1 : Below wr.heap.size wr (wr.alloc (.cells (bcells (List.replicate 16 0)) 108)) := below_new _ _
   have ez : bcells (List.replicate 16 0) = #[.int .u8 0, .int .u8 0, .int .u8 0, .int .u8 0, .int .u8 0, .int .u8 0, .int .u8 0, .int .u8 0, .int .u8 0, .int .u8 0, .int .u8 0, .int .u8 0, .int .u8 0, .int .u8 0, .int .u8 0, .int .u8 0] := rfl
   rw [← ez]
   generalize World.alloc wr _ = W1 at hr1 hb1 ⊢
   rw [hSB] at hr1 ⊢
   obtain ⟨x, hx⟩ : ∃ x, (b.drop i).take 16 = x := ⟨_, rfl⟩
   have hx16 : x.length = 16 := by rw [← hx, List.length_take, List.length_drop, HN.out]; omega
   have hxb : ∀ k, k < 16 → x[k]? = b[i + k]? := fun k hk => by rw [← hx, List.getElem?_take, if_pos hk, List.getElem?_drop]
   have HR1 := Lib.hid hr1
   have HB1 := Lib.hid hb1
   have HSB := Lib.hid hSB
   have HX := Lib.hid hx
   have HX16 := Lib.hid hx16
   have HXB := Lib.hid hxb
   have HL0 : RowKit.Hid (∀ j, j < 0 → (List.replicate 16 (0 : UInt8))[j]? = x[j]?) := Lib.hid (fun j hj => absurd hj (by omega))
   clear hr1 hb1 hSB hx hx16 hxb ez
   go_wp2_with fail
   go_loopw [6] (fun ix wz => ∃ (k : Nat) (L : List UInt8), k ≤ 16 ∧ ix = .int .i64 (k : Int) ∧ RowKit.Hid (L.length = 16 ∧ ∀ j, j < k → L[j]? = x[j]?) ∧ RowKit.Hid (wz.heap[SB]? = some (.cells (bcells L) 108 (0, 0))) ∧ RowKit.Hid (Below wr.heap.size wr wz)) (fun ix _ => 16 - (intOf ix).toNat)
   case atStart => exact ⟨0, List.replicate 16 0, by omega, rfl, Lib.hid ⟨rfl, HL0.out⟩, HR1, HB1⟩
   case round =>
    clear HL0 HR1 HB1
    obtain ⟨k, L, hk, rfl, HL, HR, HBZ⟩ := hrel
    by_cases hk2 : k < 16
    ·
     have hk3 : (k : Int) < 16 := by omega
     obtain ⟨y, hy⟩ : ∃ y, b[i + k]? = some y := ⟨_, List.getElem?_eq_getElem (by rw [HN.out]; omega)⟩
     have hne : b ≠ [] := fun e => by rw [e] at hy; simp at hy
     obtain ⟨g, o, e1, hc⟩ := HS.out hne
     have HY := Lib.hid hy
     have hc1 : wr.cell? ⟨g, o + (i + k), none⟩ = some (.int .u8 (y.toNat : Int)) := by
      rw [(chain HB.out HBZ.out).cell (p := ⟨g, o + (i + k), none⟩) (World.block_lt_of_cell? _ _ (hc _ _ hy))]
      exact hc _ _ hy
     obtain ⟨u, hu⟩ : ∃ u, L[k]? = some u := ⟨_, List.getElem?_eq_getElem (by rw [HL.out.1]; exact hk2)⟩
     have hcs : wr.cell? ⟨SB, k, none⟩ = some (.int .u8 (u.toNat : Int)) := by
      rw [cell_of_row _ _ _ _ _ _ HR.out]
      unfold bcells
      rw [List.getElem?_toArray, List.getElem?_map, hu]
      rfl
     have hfz : wr.frozen? ⟨SB, k, none⟩ = false := frozen_of_row _ _ _ _ _ HR.out
     have HR2 := Lib.hid (show (wr.setCell ⟨SB, k, none⟩ (.int .u8 (y.toNat : Int))).heap[SB]? = some (.cells (bcells (L.set k y)) 108 (0, 0)) by rw [← bcells_set]; exact heap_setCell_same _ _ _ _ _ _ HR.out)
     have HBZ2 := Lib.hid (show Below _ _ (wr.setCell ⟨SB, k, none⟩ (.int .u8 (y.toNat : Int))) from HBZ.out.setCell (p := ⟨SB, k, none⟩) (by show _ ≤ SB; have := HSB.out; omega) _)
     have HL2 : RowKit.Hid ((L.set k y).length = 16 ∧ ∀ j, j < k + 1 → (L.set k y)[j]? = x[j]?) := Lib.hid ⟨by rw [List.length_set]; exact HL.out.1, fun j hj => by
      by_cases e : j = k
      ·
       subst e
       rw [List.getElem?_set_self (by rw [HL.out.1]; exact hk2), HXB.out j hk2, HY.out]
      ·
       rw [List.getElem?_set_ne (fun h => e h.symm)]
       exact HL.out.2 j (by omega)⟩
     subst e1
     clear hy hc hu HL HR
     have hik : i + k < n := by omega
     go_wp2_with fail
     exact ⟨⟨k + 1, L.set k y, by omega, by go_num, HL2, HR2, HBZ2⟩, by simp [intOf]; omega⟩
    ·
     have hkk : k = 16 := by omega
     have hLx : L = x := by
      refine List.ext_getElem? (fun j => ?_)
      by_cases hj : j < 16
      ·
       exact HL.out.2 j (by omega)
      ·
       rw [List.getElem?_eq_none (by rw [HL.out.1]; omega), List.getElem?_eq_none (by rw [HX16.out]; omega)]
     subst hLx
     subst hkk
     have HOZ := Lib.hid (own_onH HO.out HBZ.out)
     have HBW := Lib.hid (chain HB.out HBZ.out)
     clear HL HO HB HBZ
     have HFL := fill_16 L HX16.out
     have hbs : (bcells L).size = 16 := by rw [bcells_size, HX16.out]
     go_upto_region 10 with (fail)
     go_wp2_with (first | (refine wpList_load_row rfl 108 (.tmp 5) rfl SB rfl 108 (bcells L) (0, 0) _ HR.out Tryz.underlying108 rfl (by rw [bcells_size, HX16.out]; kernel_rfl) ?_) | (at_builtin; go_loud (refine append_sh rfl (.tmp 26) (.tmp 28) rfl w.heap.size u3 q (bvals (b.take i)) rfl (HOZ.out.alloc _) ⟨wr.heap.size, 0, none⟩ 1 1 L rfl (by rw [HX16.out]) (cell_short_new wr L _) (by have := HI.out; omega) (by have := HBW.out.size; simp; omega) ?_); intro v4 w4 ho4 hg4; have HO4 := Lib.hid ho4; have HG4 := Lib.hid hg4; clear ho4 hg4))
     have hbf := (HBW.out.alloc HBW.out.size _).grown HG4.out (by have := HBW.out.size; simp; omega) (fun j hj => (own_geH HOZ.out hj).1)
     have hof : w4.ownsRow w.heap.size 108 16 v4 (q + 1) (bvals (b.take (i + 16))) := by
      rw [List.take_add, HX.out, bvals_app]
      exact HO4.out
     exact ⟨⟨q + 1, i + 16, by omega, by go_num, Lib.hid (by have := HI.out; omega), Lib.hid hbf, Lib.hid hof⟩, by simp [intOf]; omega⟩
  ·
   have hge : ¬ (i : Int) + 16 ≤ (n : Int) := by omega
   have hq16 : n / 16 = q := by have := HI.out; omega
   have hcl : (chO b).length = q := by unfold chO; rw [chs_len, HN.out, hq16]
   have hct := chs_take q b (by rw [HN.out]; have := HI.out; omega)
   have hce : chO b = chs q b := by unfold chO; rw [HN.out, hq16]
   have hown : wr.ownsRow w.heap.size 108 16 u3 (chO b).length (bvals (chO b).flatten) := by
    rw [hcl, hce, hct.2, ← HI.out]
    exact HO.out
   obtain ⟨A9, c9, e9, _, hn9, hs9⟩ := shorts_own (ls := chO b) (by rw [hce]; exact hct.1) hown
   rw [hcl] at e9
   have HF := Lib.hid (And.intro hn9 hs9)
   subst e9
   have HQ16 := Lib.hid hq16
   clear hown hce hct hcl hq16 hn9 hs9 HO
   go_wp2_with fail
   refine bodyPost_ret (v := .slice A9 q c9) (by simp [results, Tryz.results60, go_sem]) rfl ⟨A9, c9, by rw [HQ16.out], HF.out.1, HF.out.2, HB.out⟩
end Sg
end Go.Proofs.YtcgffkkfeimifaaGreat
namespace Go.Proofs.YtcgffkkfeimifaaGreat
namespace Sg
open Go.RowKit Sha Oc
set_option linter.unusedVariables false
set_option linter.unusedSimpArgs false
theorem at_open {R : Nat → Prop} {w : World} {o : Oct} {x y : Value} (h : At R w o x y) : ∃ A c B n d, x = .slice A (bytO o).length c ∧ y = .slice B n d ∧ (A = none → c = 0) ∧ SrcAt A (bytO o) w := by
 obtain ⟨t, b, l⟩ := o
 obtain ⟨A, c, B, d, g, off, vb, vl, rfl, rfl, _, _, hcn, hs, _⟩ := h.elsR
 exact ⟨A, c, B, _, d, rfl, rfl, hcn, hs⟩
def RgPost (v : Oct) (w : World) (e : Ending) (w' : World) : Prop := ∃ C1 C2 k1 k2, e = .returned (.agg #[.int .i64 (smR (nmR (kid v 0) 1) 1000), .slice C1 ((bytO (kid v 1)).length / 16) k1, .slice C2 ((bytO (kid v 2)).length / 16) k2]) ∧ (C1 = none → k1 = 0) ∧ (C2 = none → k2 = 0) ∧ Shs C1 (chO (bytO (kid v 1))) w' ∧ Shs C2 (chO (bytO (kid v 2))) w' ∧ Below w.heap.size w w'
set_option maxRecDepth 100000 in
set_option maxHeartbeats 4000000 in
theorem readsig_ref (v : Oct) (hk : (kids v).length ≤ 100000) (hq1 : (bytO (kid v 1)).length ≤ 100000) (hq2 : (bytO (kid v 2)).length ≤ 100000) (w : World) (x y : Value) (hat : At (fun _ => True) w v x y) :
  Calls Tryz.prog 28 #[.agg (cell3 v x y)] w (RgPost v w) := by
 have hA := fun (k : Nat) (V : World) (hb : Below w.heap.size w V) => at10_ref v k hk V x y (hat.on hb)
 have HAT0 := Lib.hid (hA 0)
 have HAT1 := Lib.hid (hA 1)
 have HAT2 := Lib.hid (hA 2)
 unfold AtPost at HAT0 HAT1 HAT2
 unfold RgPost
 obtain ⟨o0, ho0⟩ : ∃ o, kid v 0 = o := ⟨_, rfl⟩
 obtain ⟨o1, ho1⟩ : ∃ o, kid v 1 = o := ⟨_, rfl⟩
 obtain ⟨o2, ho2⟩ : ∃ o, kid v 2 = o := ⟨_, rfl⟩
 rw [ho0] at HAT0
 rw [ho1] at HAT1 hq1
 rw [ho2] at HAT2 hq2
 rw [ho0, ho1, ho2]
 have HQ1 := Lib.hid hq1
 have HQ2 := Lib.hid hq2
 obtain ⟨A, m, c, B, n, d, rfl, rfl⟩ := hat.slices
 obtain ⟨tz, htz⟩ : ∃ tz : Int, ((tagO v).toNat : Int) = tz := ⟨_, rfl⟩
 unfold cell3
 rw [htz]
 clear hA hat htz ho0 ho1 ho2 hq1 hq2 hk
 obtain ⟨hw0, hra, hrb⟩ := two_rows w (.cells #[.int .u8 tz, .slice A m c, .slice B n d] 50) (.cells #[.int .i64 0, .slice none 0 0, .slice none 0 0] 28)
 go_enter Tryz.func28, Tryz.ntmps28
 go_upto_region 1 with (fail)
 generalize World.alloc (World.alloc w _) _ = V at hw0 hra hrb ⊢
 have mkS : ∀ z : World, z.heap[w.heap.size]? = some (.cells #[.int .u8 tz, .slice A m c, .slice B n d] 50 (0, 0)) → (fun (z : World) => z.cell? ⟨w.heap.size, 2, none⟩ = some (.slice B n d)) z := fun z h => cell_of_row _ _ _ _ _ _ h
 refine wp_region_held_drew (S := fun (z : World) => z.cell? ⟨w.heap.size, 2, none⟩ = some (.slice B n d)) (by kernel_rfl) (mkS _ (by exact hra)) (fun hHeld => ?_)
 generalize hU : World.drew V = U at hHeld ⊢
 have hbU : Below V.heap.size V U := by rw [← hU]; exact (Below.refl _ _).drew
 clear hU
 have HWR := Lib.hid (chain hw0 hbU)
 have HSG := Lib.hid (row_on hra hbU)
 have HRU := Lib.hid (row_on hrb hbU)
 have HB_U := Lib.hid (Below.refl U.heap.size U)
 clear hw0 hra hrb hbU
 have hfd : ∀ (a b c : Value) (w : World), (Instr.field 50 (.agg #[a, b, c]) 1).run Tryz.prog w = .ok b w := fun _ _ _ _ => by first | rfl | kernel_rfl
 refine wpAnyH_take (i := 0) (oi := { dst := some 3, op := .fieldAddr 50 (.tmp 1) 2, type := 0, pos := "ref.go:176", after := #[], guard := none }) (v := ?_) rfl (by kernel_rfl) (by kernel_rfl) (by kernel_rfl) (fun _ _ _ h => h) (Or.inl ⟨by rfl, ?_⟩) hHeld ?_
 rotate_left
 ·
  intro w hSw
  clear hSw
  go_simp
  try with_reducible rfl
 try simp only [Act.put, List.setIfInBounds_toArray, List.set_cons_zero, List.set_cons_succ]
 refine wpAnyH_take (i := 1) (oi := { dst := some 4, op := .load 48 (.tmp 3), type := 48, pos := "ref.go:176", after := #[{ on := 0, ground := .data }], guard := none }) (v := ?_) rfl (by kernel_rfl) (by kernel_rfl) (by kernel_rfl) (fun _ _ _ h => h) (Or.inl ⟨by rfl, ?_⟩) hHeld ?_
 rotate_left
 ·
  intro w hSw
  have hfc0 := hSw
  clear hSw
  go_simp
  try with_reducible rfl
 try simp only [Act.put, List.setIfInBounds_toArray, List.set_cons_zero, List.set_cons_succ]
 refine wpAnyH_take (i := 5) (oi := { dst := some 8, op := .fieldAddr 50 (.tmp 1) 2, type := 0, pos := "ref.go:176", after := #[], guard := none }) (v := ?_) rfl (by kernel_rfl) (by kernel_rfl) (by kernel_rfl) (fun _ _ _ h => h) (Or.inl ⟨by rfl, ?_⟩) hHeld ?_
 rotate_left
 ·
  intro w hSw
  clear hSw
  go_simp
  try with_reducible rfl
 try simp only [Act.put, List.setIfInBounds_toArray, List.set_cons_zero, List.set_cons_succ]
 refine wpAnyH_take (i := 6) (oi := { dst := some 9, op := .load 48 (.tmp 8), type := 48, pos := "ref.go:176", after := #[{ on := 5, ground := .data }], guard := none }) (v := ?_) rfl (by kernel_rfl) (by kernel_rfl) (by kernel_rfl) (fun _ _ _ h => h) (Or.inl ⟨by rfl, ?_⟩) hHeld ?_
 rotate_left
 ·
  intro w hSw
  have hfc0 := hSw
  clear hSw
  go_simp
  try with_reducible rfl
 try simp only [Act.put, List.setIfInBounds_toArray, List.set_cons_zero, List.set_cons_succ]
 refine wpAnyH_take (i := 10) (oi := { dst := some 13, op := .fieldAddr 50 (.tmp 1) 2, type := 0, pos := "ref.go:176", after := #[], guard := none }) (v := ?_) rfl (by kernel_rfl) (by kernel_rfl) (by kernel_rfl) (fun _ _ _ h => h) (Or.inl ⟨by rfl, ?_⟩) hHeld ?_
 rotate_left
 ·
  intro w hSw
  clear hSw
  go_simp
  try with_reducible rfl
 try simp only [Act.put, List.setIfInBounds_toArray, List.set_cons_zero, List.set_cons_succ]
 refine wpAnyH_take (i := 11) (oi := { dst := some 14, op := .load 48 (.tmp 13), type := 48, pos := "ref.go:176", after := #[{ on := 10, ground := .data }], guard := none }) (v := ?_) rfl (by kernel_rfl) (by kernel_rfl) (by kernel_rfl) (fun _ _ _ h => h) (Or.inl ⟨by rfl, ?_⟩) hHeld ?_
 rotate_left
 ·
  intro w hSw
  have hfc0 := hSw
  clear hSw
  go_simp
  try with_reducible rfl
 try simp only [Act.put, List.setIfInBounds_toArray, List.set_cons_zero, List.set_cons_succ]
 refine wpAnyH_ready (rs := [2]) (by kernel_rfl) (by simp) (AllReadyH.cons (o := { dst := some 5, op := .call { callee := .value (.func 26), args := #[.tmp 4, .const (.int .i64 0)], argTypes := #[48, 3] }, type := 50, pos := "ref.go:176", after := #[{ on := 1, ground := .data }], guard := none }) rfl (fun K hK => ?_) AllReadyH.nil)
 go_simp
 refine (HAT0.out U (chain HWR.out HB_U.out)).mono ?_
 rintro e z2 ⟨x0, y0, rfl, hat, hb⟩
 have HB_z2 := Lib.hid (chain HB_U.out hb)
 have HX0 := Lib.hid hat
 obtain ⟨A0, c0, B0, n0, d0, rfl, rfl, _, _⟩ := at_open hat
 clear hat hb
 unfold cell3
 go_simp
 refine hK.out _ _ (mkS _ (row_on HSG.out HB_z2.out)) (fun hHeld2 => ?_)
 clear hK K hHeld
 have hHeld := hHeld2
 clear hHeld2
 try simp only [Act.put, List.setIfInBounds_toArray, List.set_cons_zero, List.set_cons_succ]
 refine wpAnyH_ready (rs := [3]) (by kernel_rfl) (by simp) (AllReadyH.cons (o := { dst := some 6, op := .call { callee := .value (.func 27), args := #[.tmp 5, .const (.int .u8 1)], argTypes := #[50, 5] }, type := 22, pos := "ref.go:176", after := #[{ on := 2, ground := .data }, { on := 2, ground := .chain }], guard := none }) rfl (fun K hK => ?_) AllReadyH.nil)
 go_simp
 have hc := number10_ref o0 1 z2 _ _ HX0.out
 unfold cell3 at hc
 refine hc.mono ?_
 clear hc
 rintro e z3 ⟨rfl, hb⟩
 have HB_z3 := Lib.hid (chain HB_z2.out hb)
 clear hb
 go_simp
 refine hK.out _ _ (mkS _ (row_on HSG.out HB_z3.out)) (fun hHeld2 => ?_)
 clear hK K hHeld
 have hHeld := hHeld2
 clear hHeld2
 try simp only [Act.put, List.setIfInBounds_toArray, List.set_cons_zero, List.set_cons_succ]
 refine wpAnyH_ready (rs := [4]) (by kernel_rfl) (by simp) (AllReadyH.cons (o := { dst := some 7, op := .call { callee := .value (.func 29), args := #[.tmp 6, .const (.int .u64 1000)], argTypes := #[22, 22] }, type := 3, pos := "ref.go:176", after := #[{ on := 3, ground := .data }, { on := 3, ground := .chain }], guard := none }) rfl (fun K hK => ?_) AllReadyH.nil)
 go_simp
 refine (small10_ref (nmR o0 1) 1000 (nmR_range _ _).1 (by decide) z3).mono ?_
 rintro e z4 ⟨rfl, hb⟩
 have HB_z4 := Lib.hid (chain HB_z3.out hb)
 clear hb
 go_simp
 refine hK.out _ _ (mkS _ (row_on HSG.out HB_z4.out)) (fun hHeld2 => ?_)
 clear hK K hHeld
 have hHeld := hHeld2
 clear hHeld2
 try simp only [Act.put, List.setIfInBounds_toArray, List.set_cons_zero, List.set_cons_succ]
 refine wpAnyH_ready (rs := [7]) (by kernel_rfl) (by simp) (AllReadyH.cons (o := { dst := some 10, op := .call { callee := .value (.func 26), args := #[.tmp 9, .const (.int .i64 1)], argTypes := #[48, 3] }, type := 50, pos := "ref.go:176", after := #[{ on := 6, ground := .data }, { on := 4, ground := .chain }], guard := none }) rfl (fun K hK => ?_) AllReadyH.nil)
 go_simp
 refine (HAT1.out z4 (chain HWR.out HB_z4.out)).mono ?_
 rintro e z7 ⟨x1, y1, rfl, hat, hb⟩
 have HB_z7 := Lib.hid (chain HB_z4.out hb)
 have HX1 := Lib.hid hat
 obtain ⟨A1, c1, B1, n1, d1, rfl, rfl, _, hs1⟩ := at_open hat
 have HS1 := Lib.hid hs1
 clear hs1
 clear hat hb
 unfold cell3
 go_simp
 refine hK.out _ _ (mkS _ (row_on HSG.out HB_z7.out)) (fun hHeld2 => ?_)
 clear hK K hHeld
 have hHeld := hHeld2
 clear hHeld2
 try simp only [Act.put, List.setIfInBounds_toArray, List.set_cons_zero, List.set_cons_succ]
 refine wpAnyH_take (i := 8) (oi := { dst := some 11, op := .field 50 (.tmp 10) 1, type := 31, pos := "ref.go:176", after := #[{ on := 7, ground := .data }], guard := none }) (v := ?_) rfl (by kernel_rfl) (by kernel_rfl) (by kernel_rfl) (fun _ _ _ h => h) (Or.inl ⟨by rfl, ?_⟩) hHeld ?_
 rotate_left
 ·
  intro w hSw
  clear hSw
  go_simp
  try with_reducible rfl
 try simp only [Act.put, List.setIfInBounds_toArray, List.set_cons_zero, List.set_cons_succ]
 refine wpAnyH_ready (rs := [9]) (by kernel_rfl) (by simp) (AllReadyH.cons (o := { dst := some 12, op := .call { callee := .value (.func 60), args := #[.tmp 11], argTypes := #[31] }, type := 26, pos := "ref.go:176", after := #[{ on := 8, ground := .data }, { on := 7, ground := .chain }], guard := none }) rfl (fun K hK => ?_) AllReadyH.nil)
 go_simp
 refine (shorts10_ref (bytO o1) HQ1.out A1 c1 z7 HS1.out).mono ?_
 rintro e z9 ⟨C1, k1, rfl, hn1, hsh, hb⟩
 have HB_z9 := Lib.hid (chain HB_z7.out hb)
 have HSH1 := Lib.hid hsh
 have HC1 := Lib.hid hn1
 clear hb hsh hn1
 go_simp
 refine hK.out _ _ (mkS _ (row_on HSG.out HB_z9.out)) (fun hHeld2 => ?_)
 clear hK K hHeld
 have hHeld := hHeld2
 clear hHeld2
 try simp only [Act.put, List.setIfInBounds_toArray, List.set_cons_zero, List.set_cons_succ]
 refine wpAnyH_ready (rs := [12]) (by kernel_rfl) (by simp) (AllReadyH.cons (o := { dst := some 15, op := .call { callee := .value (.func 26), args := #[.tmp 14, .const (.int .i64 2)], argTypes := #[48, 3] }, type := 50, pos := "ref.go:176", after := #[{ on := 11, ground := .data }, { on := 9, ground := .chain }], guard := none }) rfl (fun K hK => ?_) AllReadyH.nil)
 go_simp
 refine (HAT2.out z9 (chain HWR.out HB_z9.out)).mono ?_
 rintro e z12 ⟨x2, y2, rfl, hat, hb⟩
 have HB_z12 := Lib.hid (chain HB_z9.out hb)
 have HX2 := Lib.hid hat
 have HSH1 := Lib.hid (HSH1.out.on hb)
 obtain ⟨A2, c2, B2, n2, d2, rfl, rfl, _, hs2⟩ := at_open hat
 have HS2 := Lib.hid hs2
 clear hs2
 clear hat hb
 unfold cell3
 go_simp
 refine hK.out _ _ (mkS _ (row_on HSG.out HB_z12.out)) (fun hHeld2 => ?_)
 clear hK K hHeld
 have hHeld := hHeld2
 clear hHeld2
 try simp only [Act.put, List.setIfInBounds_toArray, List.set_cons_zero, List.set_cons_succ]
 refine wpAnyH_take (i := 13) (oi := { dst := some 16, op := .field 50 (.tmp 15) 1, type := 31, pos := "ref.go:176", after := #[{ on := 12, ground := .data }], guard := none }) (v := ?_) rfl (by kernel_rfl) (by kernel_rfl) (by kernel_rfl) (fun _ _ _ h => h) (Or.inl ⟨by rfl, ?_⟩) hHeld ?_
 rotate_left
 ·
  intro w hSw
  clear hSw
  go_simp
  try with_reducible rfl
 try simp only [Act.put, List.setIfInBounds_toArray, List.set_cons_zero, List.set_cons_succ]
 refine wpAnyH_ready (rs := [14]) (by kernel_rfl) (by simp) (AllReadyH.cons (o := { dst := some 17, op := .call { callee := .value (.func 60), args := #[.tmp 16], argTypes := #[31] }, type := 26, pos := "ref.go:176", after := #[{ on := 13, ground := .data }, { on := 12, ground := .chain }], guard := none }) rfl (fun K hK => ?_) AllReadyH.nil)
 go_simp
 refine (shorts10_ref (bytO o2) HQ2.out A2 c2 z12 HS2.out).mono ?_
 rintro e z14 ⟨C2, k2, rfl, hn2, hsh, hb⟩
 have HB_z14 := Lib.hid (chain HB_z12.out hb)
 have HSH1 := Lib.hid (HSH1.out.on hb)
 have HSH2 := Lib.hid hsh
 have HC2 := Lib.hid hn2
 clear hb hsh hn2
 go_simp
 refine hK.out _ _ (mkS _ (row_on HSG.out HB_z14.out)) (fun hHeld2 => ?_)
 clear hK K hHeld
 have hHeld := hHeld2
 clear hHeld2
 try simp only [Act.put, List.setIfInBounds_toArray, List.set_cons_zero, List.set_cons_succ]
 refine wpAnyH_take (i := 15) (oi := { dst := some 18, op := .build 28 #[(0, .tmp 7), (1, .tmp 12), (2, .tmp 17)], type := 28, pos := "ref.go:176", after := #[{ on := 4, ground := .data }, { on := 9, ground := .data }, { on := 14, ground := .data }], guard := none }) (v := ?_) rfl (by kernel_rfl) (by kernel_rfl) (by kernel_rfl) (fun _ _ _ h => h) (Or.inl ⟨by rfl, ?_⟩) hHeld ?_
 rotate_left
 ·
  intro w hSw
  clear hSw
  go_simp
  try with_reducible rfl
 try simp only [Act.put, List.setIfInBounds_toArray, List.set_cons_zero, List.set_cons_succ]
 refine wpAnyH_ready (rs := [16]) (by kernel_rfl) (by simp) (AllReadyH.cons (o := { dst := none, op := .store 28 (.tmp 2) (.tmp 18), type := 0, pos := "ref.go:176", after := #[{ on := 15, ground := .data }, { on := 14, ground := .chain }, { on := 0, ground := .phase }, { on := 1, ground := .phase }, { on := 2, ground := .phase }, { on := 3, ground := .phase }, { on := 4, ground := .phase }, { on := 5, ground := .phase }, { on := 6, ground := .phase }, { on := 7, ground := .phase }, { on := 8, ground := .phase }, { on := 9, ground := .phase }, { on := 10, ground := .phase }, { on := 11, ground := .phase }, { on := 12, ground := .phase }, { on := 13, ground := .phase }, { on := 14, ground := .phase }, { on := 15, ground := .phase }], guard := none }) rfl (fun K hK => ?_) AllReadyH.nil)
 try rw [if_pos (by rfl)]
 have HR3 := Lib.hid (row_on HRU.out HB_z14.out)
 refine wp_store_mid 28 (.tmp 2) (.tmp 18) rfl (w.heap.size + 1) 0 #[.int .i64 (smR (nmR o0 1) 1000), .slice C1 ((bytO o1).length / 16) k1, .slice C2 ((bytO o2).length / 16) k2] rfl rfl (there_row HR3.out 3 (show 3 ≤ 3 by decide)) (sz3s _ _ _) (one3 _ _ _ rfl rfl rfl) ?_
 have HOO := Lib.hid (fun (b : Nat) (hb : b ≠ w.heap.size + 1) => heap_setCells_other [.int .i64 (smR (nmR o0 1) 1000), .slice C1 ((bytO o1).length / 16) k1, .slice C2 ((bytO o2).length / 16) k2] 0 z14 hb)
 have HR4 := Lib.hid (row_setCells HR3.out (cs := #[.int .i64 (smR (nmR o0 1) 1000), .slice C1 ((bytO o1).length / 16) k1, .slice C2 ((bytO o2).length / 16) k2]) rfl)
 have HB4 := Lib.hid (below_setCells [.int .i64 (smR (nmR o0 1) 1000), .slice C1 ((bytO o1).length / 16) k1, .slice C2 ((bytO o2).length / 16) k2] 0 z14 (chain HWR.out HB_z14.out) (show w.heap.size ≤ w.heap.size + 1 by omega))
 have HK1 := Lib.hid (shs_keep HSH1.out HR3.out (show 3 < 16 by decide) HOO.out)
 have HK2 := Lib.hid (shs_keep HSH2.out HR3.out (show 3 < 16 by decide) HOO.out)
 refine hK.out _ _ (mkS _ ((HOO.out w.heap.size (by omega)).trans (row_on HSG.out HB_z14.out))) (fun hHeld2 => ?_)
 clear hK K hHeld hHeld2
 try simp only [Act.put, List.setIfInBounds_toArray, List.set_cons_zero, List.set_cons_succ]
 refine wpAnyH_done (by kernel_rfl) ?_ _
 generalize World.setCells z14 _ _ _ = z9 at HR4 HB4 HOO HK1 HK2 ⊢
 clear mkS
 go_wp2_with fail
 refine bodyPost_ret (v := .agg #[.int .i64 (smR (nmR o0 1) 1000), .slice C1 ((bytO o1).length / 16) k1, .slice C2 ((bytO o2).length / 16) k2]) (results_cell_row rfl _ _ (w.heap.size + 1) 28 _ (0, 0) _ rfl HR4.out Tryz.underlying28 rfl (sz3s _ _ _)) rfl ⟨C1, C2, k1, k2, rfl, HC1.out, HC2.out, HK1.out, HK2.out, HB4.out⟩
end Sg
end Go.Proofs.YtcgffkkfeimifaaGreat
namespace Go.Proofs.YtcgffkkfeimifaaGreat
namespace Sg
open Go.RowKit Sha Oc
set_option linter.unusedVariables false
set_option linter.unusedSimpArgs false
def rfL (v : Oct) : Rl := ⟨⟨(bytO (kid (kid v 0) 0)).toArray⟩, nmR (kid (kid v 0) 1) 2, smR (nmR (kid (kid v 0) 2) 3) maxT, smR (nmR (kid (kid v 0) 3) 4) maxT, (kids (kid (kid v 0) 4)).map (fun o => nmR o 5), ⟨smR (nmR (kid (kid v 1) 0) 1) 1000, chO (bytO (kid (kid v 1) 1)), chO (bytO (kid (kid v 1) 2))⟩⟩
theorem nm_of {tg : UInt8} {M : Int} {v : Oct} (h : NumG tg M v) (hM : M ≤ maxU) : nmR v tg = (numX v : Int) := by
 obtain ⟨e, h1, h2, _⟩ := num_of h
 have h3 := (num_mk tg maxU (numX v) h2 (by omega)).1
 rw [← e] at h3
 exact (num_of h3).2.2.2
theorem sm_of {x M : Int} (h : x ≤ M) : smR x M = x := by
 unfold smR
 rw [if_neg (by omega)]
theorem chO_16 (b : List UInt8) : ∀ l ∈ chO b, l.length = 16 := (chs_take (b.length / 16) b (by omega)).1
theorem rfL_wf (v : Oct) : Wf (rfL v) := by
 refine ⟨nmR_range _ _, fun x hx => ?_, chO_16 _, chO_16 _⟩
 have hx' : x ∈ (kids (kid (kid v 0) 4)).map (fun o => nmR o 5) := hx
 obtain ⟨o, _, rfl⟩ := List.mem_map.1 hx'
 exact (nmR_range _ _).2
theorem rfL_of {v : Oct} (h : WholeG v) : rfL v = rlO v := by
 obtain ⟨h0, ⟨b0, b1, b2, b3, b4, s0, s1⟩, c0, c1, c2, c3⟩ := h
 have e2 := nm_of b2 (Int.le_refl _)
 have e3 := nm_of b3 (by decide)
 have e4 := nm_of b4 (by decide)
 have e5 := nm_of c1 (by decide)
 have l3 := (num_of b3).2.1
 have l4 := (num_of b4).2.1
 have l5 := (num_of c1).2.1
 have e6 : (kids (kid (kid v 0) 4)).map (fun o => nmR o 5) = serO (kid (kid v 0) 4) := by
  unfold serO
  exact List.map_congr_left (fun o ho => nm_of (s1 o ho) (Int.le_refl _))
 unfold rfL rlO sgO
 rw [e2, e3, e4, e5, e6, sm_of l3, sm_of l4, sm_of (by omega)]
theorem rvD_ref (b : List UInt8) : rvD b = if (decV b).2 = 0 ∧ rvC (rfL (decV b).1) = 0 ∧ enc (rlV (rfL (decV b).1)) = b then (rfL (decV b).1, 0) else (rl0, 12) := by
 by_cases hc : (decV b).2 = 0 ∧ rvC (rfL (decV b).1) = 0 ∧ enc (rlV (rfL (decV b).1)) = b
 ·
  rw [if_pos hc]
  obtain ⟨h1, h2, h3⟩ := hc
  have hf := (rfL_wf (decV b).1).fit h2
  have h := rvD_enc hf h2 (fit_ck hf).2.1
  rw [h3] at h
  exact h
 ·
  rw [if_neg hc]
  rcases rvD_err b with h0 | h0
  ·
   exfalso
   apply hc
   unfold rvD at h0
   by_cases hd : (decV b).2 = 0 ∧ (wholeS (rl0, 0) (decV b).1).2 = 0 ∧ rvC (wholeS (rl0, 0) (decV b).1).1 = 0
   ·
    obtain ⟨h1, h2, h3⟩ := hd
    have hw := (whole_zero _).1 h2
    rw [whole_one _ hw, ← rfL_of hw] at h3
    refine ⟨h1, h3, ?_⟩
    rw [rfL_of hw, whole_of hw]
    exact (decV_only b (decV b).1 (Prod.ext rfl h1)).1
   ·
    rw [if_neg hd] at h0
    exact absurd h0 (by decide)
  ·
   exact h0
end Sg
end Go.Proofs.YtcgffkkfeimifaaGreat
