import Derived.Test.YtcgffkkfeimifaaGreatDoorDigRabc
import Derived.Test.YtcgffkkfeimifaaGreatDoorDigDoor
import Derived.Test.YtcgffkkfeimifaaGreatDoorOneMath
import Derived.Deep.MidRow
import Derived.ArgAppend
namespace Go.Proofs.YtcgffkkfeimifaaGreatDoor
open Go.RowKit Sha Ots
set_option linter.unusedVariables false
set_option linter.unusedSimpArgs false
theorem stp_len (x : List UInt8) (i j : Nat) : (stp x i j).length = 16 := sh_len _
theorem sz16 (l : List UInt8) (hl : l.length = 16) : (Tryz.prog.info? 41).map (·.size) = some (bcells l).size := by rw [bcells_size, hl]; kernel_rfl
theorem u8_of (i : Nat) (h : i < 256) : ((i : Int)) % 256 = ((UInt8.ofNat i).toNat : Int) := by
 rw [UInt8.toNat_ofNat']
 omega
theorem u8_wrap (i : Nat) (h : i < 256) : IntKind.u8.wrap (i : Int) = ((UInt8.ofNat i).toNat : Int) := by
 rw [← u8_of i h]
 simp [IntKind.wrap, IntKind.bits, IntKind.signed]
theorem append_full {w : World} {ops : Array Oper} {rest : List Oper} {o : Oper} {a : Act} {Q : Exit → Act → World → Prop} (hgd : o.guard = none) (s x : Operand)
  (ho : o.op = .call { callee := .builtin .append, args := #[s, x], argTypes := #[34, 34] }) (B n cap : Nat) (L : List UInt8) (t : TypeId) (fr : Nat × Nat) (hs : a.eval s = .slice (some ⟨B, 0, none⟩) n cap) (hL : L.length = n) (hB : w.heap[B]? = some (.cells (bcells L) t fr))
  (C m c : Nat) (N : List UInt8) (t2 : TypeId) (fr2 : Nat × Nat) (hx : a.eval x = .slice (some ⟨C, 0, none⟩) m c) (hN : N.length = m) (hC : w.heap[C]? = some (.cells (bcells N) t2 fr2)) (hfull : cap < n + m) (hb : n + m ≤ 1000000)
  (h : ∀ v' w', w'.ownsRow w.heap.size 5 1 v' (L ++ N).length (bvals (L ++ N)) → Below w.heap.size w w' → wpList Tryz.prog ops Q rest (a.put o.dst v') w') : wpList Tryz.prog ops Q (o :: rest) a w := by
 obtain ⟨i0, hi, hz0, hz1, hz2⟩ := info_parts Tryz.info_byte
 have hat : ∀ (D : Nat) (M : List UInt8) (t : TypeId) (fr : Nat × Nat), w.heap[D]? = some (.cells (bcells M) t fr) → ∀ j u, (bvals M)[j]? = some u → w.cell? ((⟨D, 0, none⟩ : Addr).add j) = some u := fun D M t fr hD j u hj => by
  unfold bvals at hj
  rw [List.getElem?_map] at hj
  obtain ⟨y, hy, rfl⟩ := Option.map_eq_some_iff.1 hj
  have hlt := (List.getElem?_eq_some_iff.1 hy).1
  rw [add_eq, Nat.zero_add, cell_of_row w D j _ _ _ hD, bcells_at _ _ hlt, List.getD_eq_getElem?_getD, hy]
  rfl
 have hone : ∀ v ∈ bvals N, v.oneCell' = true := fun v hv => by
  unfold bvals at hv
  obtain ⟨x, _, rfl⟩ := List.mem_map.1 hv
  rfl
 refine wpList_append_grows w hgd s x 34 ho 5 i0 (.int .u8 0) 1 1 Tryz.underlying34 hi hz0 hz1 hz2 rfl (by decide) (some ⟨B, 0, none⟩) n cap (bvals L) hs (fun e => by cases e) (by rw [bvals_len, hL, Nat.mul_one]) (fun b hb' => ?_) ⟨C, 0, none⟩ m c (bvals N) hx (by rw [bvals_len, hN, Nat.mul_one]) (hat C N t2 fr2 hC) hone hfull (by unfold maxLen; omega) (by omega) (fun v' w' h1 h2 => ?_)
 ·
  obtain rfl := Option.some.inj hb'
  exact hat B L t fr hB
 ·
  refine h v' w' ?_ ?_
  ·
   rw [bvals_app, List.length_append, hL, hN]
   exact h1
  ·
   exact ⟨h2.os, h2.tape, h2.output, h2.size, fun k hk => h2.block k hk (by simp)⟩
theorem own_base {w : World} {b b' n : Nat} {v : Value} {xs : List Value} (h : w.ownsRow b 5 1 v n xs) (hb : b' ≤ b) : w.ownsRow b' 5 1 v n xs := by
 obtain ⟨h1, h2 | ⟨g, cap, cur, h3, h4, h5⟩⟩ := h
 ·
  exact ⟨h1, .inl h2⟩
 ·
  exact ⟨h1, .inr ⟨g, cap, cur, h3, by omega, h5⟩⟩
set_option maxRecDepth 100000 in
set_option maxHeartbeats 1000000 in
theorem mark_any (l : List UInt8) (hl : l.length = 16) (i j : Nat) (hi : i < 256) (hj : j < 256) (w : World) (env : DEnv w) :
  Calls Tryz.prog 131 #[.agg (bcells l), .int .i64 (i : Int), .int .i64 (j : Int)] w fun e w' => e = .returned (.agg (bcells (stp l i j))) ∧ Below w.heap.size w w' := by
 have hsho : ∀ (V : World) (v : Value), Below w.heap.size w V → V.ownsRow w.heap.size 5 1 v (l ++ [UInt8.ofNat i, UInt8.ofNat j]).length (bvals (l ++ [UInt8.ofNat i, UInt8.ofNat j])) → Calls Tryz.prog 108 #[v] V fun e w' => e = .returned (.agg (bcells (stp l i j))) ∧ Below V.heap.size V w' := fun V v hb ho => by
  obtain ⟨A, c, rfl, h1, h2, h3, h4⟩ := own_rd7 ho
  exact short_any _ A c (by rw [List.length_append, hl]; show 16 + 2 ≤ 100000; decide) h1 h2 V h4 (env.on hb)
 obtain ⟨F, hF⟩ : ∃ F, stp l i j = F := ⟨_, rfl⟩
 have hF16 : F.length = 16 := by rw [← hF]; exact stp_len _ _ _
 rw [hF] at hsho ⊢
 have hwi := u8_wrap i hi
 have hwj := u8_wrap j hj
 obtain ⟨a, ha⟩ : ∃ a, UInt8.ofNat i = a := ⟨_, rfl⟩
 obtain ⟨b, hb⟩ : ∃ b, UInt8.ofNat j = b := ⟨_, rfl⟩
 rw [ha] at hwi hsho
 rw [hb] at hwj hsho
 have SH := Lib.hid hsho
 have hsz := sz16 F hF16
 have hso : (16 : Nat) = (bcells F).size := by rw [bcells_size, hF16]
 have HSZ := Lib.hid hsz
 have HSO := Lib.hid hso
 have s1 := slice_short
 have HL := Lib.hid hl
 clear hsho hF hF16 hi hj ha hb hsz hso env hl
 go_enter Tryz.func131, Tryz.ntmps131
 go_wp2_with (at_builtin; go_loud (refine append_full rfl (.tmp 7) (.tmp 12) rfl w.heap.size 16 16 l 41 (0, 0) rfl HL.out (heap3_first _ _ _ _) (w.heap.size + 1 + 1) 2 2 [a, b] 5 (0, 0) rfl rfl (heap3_last _ _ _ _) (by decide) (by decide) ?_); intro v1 w1 ho1 hb1; go_loud (have HO1 := Lib.hid (own_base ho1 (show w.heap.size ≤ _ by simp <;> omega))); go_loud (have HB1 := Lib.hid ((below3 w _ _ _).trans (hb1.mono (by simp <;> omega)))); go_loud (have HR1 := Lib.hid ((hb1.block (w.heap.size + 1) (by simp <;> omega)).trans (heap3_mid _ _ _ _))); clear ho1 hb1)
 refine (SH.out w1 v1 HB1.out HO1.out).mono ?_
 rintro e w2 ⟨rfl, hb2⟩
 have hlt : w.heap.size + 1 < w1.heap.size := (Array.getElem?_eq_some_iff.1 HR1.out).1
 have HR2 := Lib.hid ((hb2.block (w.heap.size + 1) hlt).trans HR1.out)
 have HB2 := Lib.hid (HB1.out.trans (hb2.mono (by omega)))
 clear hb2 hlt HR1 HB1 HO1
 go_wp2_with (refine wpList_store_row rfl 41 (.tmp 6) (.tmp 14) rfl (w.heap.size + 1) (bcells F) rfl rfl 41 _ HR2.out HSZ.out HSO.out (bcells_one _) ?_)
 refine bodyPost_ret (v := .agg (bcells F)) (results_cell_row rfl _ _ (w.heap.size + 1) 41 _ (0, 0) _ rfl (setRow_heap _ _ _ _ _ _ HR2.out) Tryz.underlying41 rfl HSZ.out) rfl ⟨rfl, ?_⟩
 exact below_row HB2.out (by omega) _
theorem mark_nat (l : List UInt8) (hl : l.length = 16) (i j : Nat) (hi : i < 256) (hj : j < 256) (w V : World) (env : DEnv w) (hb : Below w.heap.size w V) :
  Calls Tryz.prog 131 #[.agg (bcells l), .int .i64 (i : Int), .int .i64 (j : Int)] V fun e w' => e = .returned (.agg (bcells (stp l i j))) ∧ Below V.heap.size V w' := mark_any l hl i j hi hj V (env.on hb)
set_option maxRecDepth 100000 in
set_option maxHeartbeats 1000000 in
theorem begin_any (l : List UInt8) (hl : l.length = 16) (i : Nat) (hi : i < 256) (w : World) (env : DEnv w) :
  Calls Tryz.prog 107 #[.agg (bcells l), .int .i64 (i : Int)] w fun e w' => e = .returned (.agg (bcells (stp l i 255))) ∧ Below w.heap.size w w' := by
 have hm := fun (V : World) (hb : Below w.heap.size w V) => mark_nat l hl i 255 hi (by decide) w V env hb
 obtain ⟨F, hF⟩ : ∃ F, stp l i 255 = F := ⟨_, rfl⟩
 have hF16 : F.length = 16 := by rw [← hF]; exact stp_len _ _ _
 rw [hF] at hm ⊢
 have HM := Lib.hid hm
 have HSZ0 := Lib.hid (sz16 l hl)
 have HSZ := Lib.hid (sz16 F hF16)
 have hso : (16 : Nat) = (bcells F).size := by rw [bcells_size, hF16]
 have HSO := Lib.hid hso
 clear hm hF hF16 hl hi hso env
 go_enter Tryz.func107, Tryz.ntmps107
 go_wp2_with (refine wpList_load_row rfl 41 (.tmp 2) rfl w.heap.size rfl 41 (bcells l) (0, 0) _ (heap_alloc2_old _ _ _) Tryz.underlying41 rfl HSZ0.out ?_)
 refine (HM.out _ ((below_new w _).trans ((below_new _ _).mono (by simp)))).mono ?_
 rintro e w2 ⟨rfl, hb2⟩
 have HR2 := Lib.hid ((hb2.block (w.heap.size + 1) (by simp)).trans (heap_alloc2_new _ _ _))
 have HB2 := Lib.hid (((below_new w _).trans ((below_new _ _).mono (by simp))).trans (hb2.mono (by simp; omega)))
 clear hb2
 go_wp2_with (refine wpList_store_row rfl 41 (.tmp 4) (.tmp 7) rfl (w.heap.size + 1) (bcells F) rfl rfl 41 _ HR2.out HSZ.out HSO.out (bcells_one _) ?_)
 refine bodyPost_ret (v := .agg (bcells F)) (results_cell_row rfl _ _ (w.heap.size + 1) 41 _ (0, 0) _ rfl (setRow_heap _ _ _ _ _ _ HR2.out) Tryz.underlying41 rfl HSZ.out) rfl ⟨rfl, ?_⟩
 exact below_row HB2.out (by omega) _
set_option maxRecDepth 100000 in
set_option maxHeartbeats 1000000 in
theorem climb_any (l : List UInt8) (hl : l.length = 16) (i a b : Nat) (hi : i < 256) (hb : b ≤ 256) (w : World) (env : DEnv w) :
  Calls Tryz.prog 106 #[.agg (bcells l), .int .i64 (i : Int), .int .i64 (a : Int), .int .i64 (b : Int)] w fun e w' => e = .returned (.agg (bcells (clm l i a (b - a)))) ∧ Below w.heap.size w w' := by
 have hm := fun (k : Nat) (hk : a + k < b) (V : World) (hbV : Below w.heap.size w V) => mark_nat (clm l i a k) (clm_len l i a hl k) i (a + k) hi (by omega) w V env hbV
 have hl2 := fun k => clm_len l i a hl k
 have hms : ∀ k, stp (clm l i a k) i (a + k) = clm l i a (k + 1) := fun k => by rw [clm]
 simp only [hms] at hm
 obtain ⟨G, hG⟩ : ∃ G : Nat → List UInt8, ∀ k, clm l i a k = G k := ⟨_, fun _ => rfl⟩
 have hl0 : l = G 0 := hG 0
 simp only [hG] at hm hl2 ⊢
 rw [hl0]
 have HM := Lib.hid hm
 have HL := Lib.hid hl2
 clear hm hl2 hms hG hl0 env hl
 go_enter Tryz.func106, Tryz.ntmps106
 go_upto_region 1 with (fail)
 generalize hV : World.alloc (World.alloc w _) _ = V
 have hb0 : Below w.heap.size w V := by rw [← hV]; exact (below_new _ _).alloc (by simp) _
 have hr0 : V.heap[w.heap.size]? = some (.cells (bcells (G 0)) 41 (0, 0)) := by rw [← hV]; exact heap_alloc2_old _ _ _
 have hr1 : V.heap[w.heap.size + 1]? = some (.cells (bcells (List.replicate 16 0)) 41 (0, 0)) := by rw [← hV]; exact (heap_alloc2_new _ _ _).trans rfl
 have HB0 := Lib.hid hb0
 have HR0 := Lib.hid hr0
 have HR1 := Lib.hid hr1
 clear hV hb0 hr0 hr1
 have hc0 : Below w.heap.size w V ∧ V.heap[w.heap.size]? = some (.cells (bcells (G 0)) 41 (0, 0)) ∧ V.heap[w.heap.size + 1]? = some (.cells (bcells (List.replicate 16 0)) 41 (0, 0)) := ⟨HB0.out, HR0.out, HR1.out⟩
 have HC0 := Lib.hid hc0
 clear HB0 HR0 HR1 hc0
 go_wp2_with fail
 go_loopw [9] (fun x wr => ∃ k : Nat, k ≤ b - a ∧ x = .int .i64 ((a + k : Nat) : Int) ∧ RowKit.Hid (Below w.heap.size w wr ∧ wr.heap[w.heap.size]? = some (.cells (bcells (G k)) 41 (0, 0)) ∧ wr.heap[w.heap.size + 1]? = some (.cells (bcells (List.replicate 16 0)) 41 (0, 0)))) (fun x _ => b - (intOf x).toNat)
 case atStart => exact ⟨0, by omega, rfl, HC0⟩
 case round =>
  clear HC0
  obtain ⟨k, hk, rfl, HC⟩ := hrel
  by_cases hlt : a + k < b
  ·
   have hki : ((a + k : Nat) : Int) < (b : Int) := by omega
   have HSZ0 := Lib.hid (sz16 _ (HL.out k))
   have hcall := fun V hV => HM.out k hlt V hV
   obtain ⟨F, hF⟩ : ∃ F, G (k + 1) = F := ⟨_, rfl⟩
   have hF16 : F.length = 16 := by rw [← hF]; exact HL.out _
   rw [hF] at hcall
   have hso : (bcells (G k)).size = (bcells F).size := by rw [bcells_size, bcells_size, hF16]; exact HL.out k
   have HSO := Lib.hid hso
   have HSZ := Lib.hid (sz16 F hF16)
   have HF2 := Lib.hid hF
   have HCALL := Lib.hid hcall
   obtain ⟨C, hC⟩ : ∃ C, G k = C := ⟨_, rfl⟩
   have HC1 := Lib.hid HC.out.1
   have HC2 := Lib.hid HC.out.2.1
   have HC3 := Lib.hid HC.out.2.2
   rw [hC] at HSZ0 HCALL HSO HC2
   clear hcall hF hF16 hso hC HC
   go_wp2_with (refine wpList_load_row rfl 41 (.tmp 4) rfl w.heap.size rfl 41 (bcells C) (0, 0) _ HC2.out Tryz.underlying41 rfl HSZ0.out ?_)
   refine (HCALL.out _ HC1.out).mono ?_
   rintro e w2 ⟨rfl, hb2⟩
   have hlt2 : w.heap.size + 1 < wr.heap.size := (Array.getElem?_eq_some_iff.1 HC3.out).1
   have HR0 := Lib.hid ((hb2.block w.heap.size (by omega)).trans HC2.out)
   have HR1 := Lib.hid ((hb2.block (w.heap.size + 1) hlt2).trans HC3.out)
   have HB2 := Lib.hid (HC1.out.trans (hb2.mono (by omega)))
   clear hb2 hlt2
   go_wp2_with (refine wpList_store_row rfl 41 (.tmp 4) (.tmp 19) rfl w.heap.size (bcells F) rfl rfl 41 _ HR0.out HSZ.out HSO.out (bcells_one _) ?_)
   refine ⟨⟨k + 1, by omega, by go_num, Lib.hid ⟨below_row HB2.out (Nat.le_refl _) _, ?_, ?_⟩⟩, by simp [intOf]; omega⟩
   ·
    rw [HF2.out]
    exact setRow_heap _ _ _ _ _ _ HR0.out
   ·
    exact (setRow_other _ _ _ _ (by omega)).trans HR1.out
  ·
   have hge : ¬ ((a + k : Nat) : Int) < (b : Int) := by omega
   have hkb : k = b - a := by omega
   subst hkb
   have HSZ0 := Lib.hid (sz16 _ (HL.out (b - a)))
   obtain ⟨C, hC⟩ : ∃ C, G (b - a) = C := ⟨_, rfl⟩
   have hC16 : C.length = 16 := by rw [← hC]; exact HL.out _
   have HC1 := Lib.hid HC.out.1
   have HC2 := Lib.hid HC.out.2.1
   have HC3 := Lib.hid HC.out.2.2
   rw [hC] at HSZ0 HC2
   have HCE := Lib.hid hC
   have hso : (bcells (List.replicate 16 (0 : UInt8))).size = (bcells C).size := by rw [bcells_size, bcells_size, hC16]; rfl
   have HSO := Lib.hid hso
   clear hC hC16 HC hso
   go_wp2_with (first | (refine wpList_load_row rfl 41 (.tmp 4) rfl w.heap.size rfl 41 (bcells C) (0, 0) _ HC2.out Tryz.underlying41 rfl HSZ0.out ?_) | (refine wpList_store_row rfl 41 (.tmp 8) (.tmp 20) rfl (w.heap.size + 1) (bcells C) rfl rfl 41 _ HC3.out HSZ0.out HSO.out (bcells_one _) ?_))
   refine bodyPost_ret (v := .agg (bcells C)) (results_cell_row rfl _ _ (w.heap.size + 1) 41 _ (0, 0) _ rfl (setRow_heap _ _ _ _ _ _ HC3.out) Tryz.underlying41 rfl HSZ0.out) rfl ⟨by rw [HCE.out], ?_⟩
   exact below_row HC1.out (by omega) _
end Go.Proofs.YtcgffkkfeimifaaGreatDoor
namespace Go.Proofs.YtcgffkkfeimifaaGreatDoor
open Go.RowKit Sha Ots
set_option linter.unusedVariables false
set_option linter.unusedSimpArgs false
structure Shorts (A : Option Addr) (ls : List (List UInt8)) (w : World) : Prop where
 row : ∀ i l, ls[i]? = some l → ∃ g o, A = some ⟨g, o, none⟩ ∧ w.rangeAt g (o + 16 * i) (bvals l)
 len : ∀ l ∈ ls, l.length = 16
theorem rangeAt_below {n g o : Nat} {w V : World} {cs : List Value} (h : w.rangeAt g o cs) (hb : Below n w V) (hg : g < n) : V.rangeAt g o cs := fun j v hv => by
 rw [hb.cell (p := ⟨g, o + j, none⟩) hg]
 exact h j v hv
theorem rangeAt_lt {g o : Nat} {w : World} {cs : List Value} (h : w.rangeAt g o cs) (hne : cs ≠ []) : g < w.heap.size := by
 cases cs with
 | nil => exact absurd rfl hne
 | cons v r => exact World.block_lt_of_cell? _ _ (h 0 v rfl)
theorem rangeAt_on {g o : Nat} {w V : World} {cs : List Value} (h : w.rangeAt g o cs) (hb : Below w.heap.size w V) : V.rangeAt g o cs := fun j v hv => by
 have h1 := h j v hv
 rw [hb.cell (p := ⟨g, o + j, none⟩) (World.block_lt_of_cell? _ _ h1)]
 exact h1
theorem Shorts.on {A : Option Addr} {ls : List (List UInt8)} {w V : World} (h : Shorts A ls w) (hb : Below w.heap.size w V) : Shorts A ls V :=
 ⟨fun i l hi => by obtain ⟨g, o, e, hr⟩ := h.row i l hi; exact ⟨g, o, e, rangeAt_on hr hb⟩, h.len⟩
theorem there_below {n g o k : Nat} {w V : World} (h : w.there g o k) (hb : Below n w V) (hg : g < n) : V.there g o k := fun j hj => by
 obtain ⟨h1, h2⟩ := h j hj
 exact ⟨by rw [hb.cell (p := ⟨g, o + j, none⟩) hg]; exact h1, by rw [hb.frozen (p := ⟨g, o + j, none⟩) hg]; exact h2⟩
theorem there_lt {g o k : Nat} {w : World} (h : w.there g o k) (hk : 0 < k) : g < w.heap.size := by
 obtain ⟨u, hu⟩ := Option.isSome_iff_exists.1 (h 0 hk).1
 exact World.block_lt_of_cell? _ _ hu
theorem there_part {g o k : Nat} {w : World} (h : w.there g o k) (a n : Nat) (hn : a + n ≤ k) : w.there g (o + a) n := fun j hj => by
 have := h (a + j) (by omega)
 rw [← Nat.add_assoc] at this
 exact this
theorem below_setCells {n g : Nat} {u : World} : ∀ (vs : List Value) (o : Nat) (w : World), Below n u w → n ≤ g → Below n u (w.setCells g o vs)
 | [], _, _, h, _ => h
 | v :: r, o, w, h, hg => by
  rw [World.setCells]
  exact below_setCells r (o + 1) _ (h.trans ⟨rfl, rfl, rfl, by simp [World.setCell], fun k hk => Below.heap_setCell _ _ _ _ (by show k ≠ g; omega)⟩) hg
theorem Tryz.info_short : (Tryz.prog.info? 41).map (fun i => (i.zero, i.size, i.bytes)) = some (some (.agg (bcells (List.replicate 16 0))), 16, 16) := by kernel_rfl
theorem own_there {w : World} {b n c g : Nat} {xs : List Value} (h : w.ownsRow b 41 16 (.slice (some ⟨g, 0, none⟩) n c) n xs) : w.there g 0 (n * 16) := by
 obtain ⟨h1, ⟨e, _⟩ | ⟨g', cap, cur, e, hb, hg, hnc, hcm, hcs, ht⟩⟩ := h
 ·
  cases e
 ·
  injection e with e1 e2 e3
  injection e1 with e4
  injection e4 with e5
  subst e5
  intro j hj
  have hlt : j < cur.size := by rw [hcs]; exact Nat.lt_of_lt_of_le hj (Nat.mul_le_mul_right _ hnc)
  rw [Nat.zero_add]
  refine ⟨?_, frozen_of_row _ _ _ _ _ hg⟩
  rw [cell_of_row _ _ _ _ _ _ hg, Array.getElem?_eq_getElem hlt]
  rfl
structure CA (w : World) (G : Nat → List UInt8) (k : Nat) (V : World) : Prop where
 bl : Below w.heap.size w V
 th : V.there w.heap.size 0 560
 rg : ∀ i, i < k → V.rangeAt w.heap.size (16 * i) (bvals (G i))
set_option maxRecDepth 100000 in
set_option maxHeartbeats 1000000 in
theorem climbAll_any (k : Nat) (caps : Array Value) (G : Nat → List UInt8) (hG : ∀ i, (G i).length = 16) (w : World) (eg : ∀ args w, (callFunc k args).run Tryz.prog w = .ok (.enter k args) w)
  (Z : List (List UInt8)) (hZ : (List.range 35).map G = Z) (hcall : ∀ i, i < 35 → ∀ V, Below w.heap.size w V → Calls Tryz.prog k (#[.int .i64 (i : Int)] ++ caps) V fun e w' => e = .returned (.agg (bcells (G i))) ∧ Below V.heap.size V w') :
  Calls Tryz.prog 104 #[.func (.func k) #[] caps] w fun e w' => e = .returned (.slice (some ⟨w.heap.size, 0, none⟩) 35 35) ∧ Shorts (some ⟨w.heap.size, 0, none⟩) Z w' ∧ Below w.heap.size w w' := by
 obtain ⟨i0, hi, hz0, hz1, hz2⟩ := info_parts Tryz.info_short
 have HI := Lib.hid hi
 have HC := Lib.hid hcall
 have HG := Lib.hid hG
 have HZ := Lib.hid hZ
 clear hcall hG hi hZ
 go_enter Tryz.func104, Tryz.ntmps104
 go_wp2_with (at_make; go_loud (refine wpList_make_full _ rfl (.const (.int .i64 35)) (.const (.int .i64 35)) 28 rfl w.heap.size 41 i0 (.agg (bcells (List.replicate 16 0))) 16 Tryz.underlying28 HI.out hz0 hz1 .i64 .i64 35 35 35 rfl rfl rfl rfl (by rw [hz2]; decide) (by decide) (Nat.le_refl _) ?_); intro w1 ho1 hb1; go_loud (have HT1 := Lib.hid (own_there ho1)); have HB1 : RowKit.Hid (Below w.heap.size w w1) := Lib.hid ⟨hb1.os, hb1.tape, hb1.output, hb1.size, fun k hk => hb1.block k hk (by simp)⟩; clear ho1 hb1)
 have hc0 : CA w G 0 w1 := ⟨HB1.out, HT1.out, fun i h => by omega⟩
 have HC0 := Lib.hid hc0
 clear hc0 HT1 HB1
 go_loopw [4, 6] (fun _ x wr => ∃ m : Nat, m ≤ 35 ∧ x = .int .i64 (m : Int) ∧ RowKit.Hid (CA w G m wr)) (fun _ x _ => 35 - (intOf x).toNat)
 case atStart => exact ⟨0, by omega, rfl, HC0⟩
 case round =>
  clear HC0
  obtain ⟨m, hm, rfl, HCA⟩ := hrel
  by_cases hlt : m < 35
  ·
   have hmi : (m : Int) < 35 := by omega
   have hcl := HC.out m hlt
   obtain ⟨F, hF⟩ : ∃ F, G m = F := ⟨_, rfl⟩
   have hF16 : F.length = 16 := by rw [← hF]; exact HG.out _
   rw [hF] at hcl
   have HSZ := Lib.hid (sz16 F hF16)
   have HCL := Lib.hid hcl
   have HF := Lib.hid hF
   have HF16 := Lib.hid hF16
   clear hcl hF hF16
   go_wp2_with fail
   refine (HCL.out _ HCA.out.bl).mono ?_
   rintro e w2 ⟨rfl, hb2⟩
   have hlt2 := there_lt HCA.out.th (by decide)
   have hth := there_below HCA.out.th hb2 hlt2
   have HB2 := Lib.hid (HCA.out.bl.trans (hb2.mono HCA.out.bl.size))
   have hrg : ∀ i, i < m → w2.rangeAt w.heap.size (16 * i) (bvals (G i)) := fun i hi => rangeAt_below (HCA.out.rg i hi) hb2 hlt2
   have HRG := Lib.hid hrg
   have htp := there_part hth (16 * m) 16 (by omega)
   rw [Nat.zero_add, Nat.mul_comm] at htp
   have hsz : (bcells F).size = 16 := by rw [bcells_size]; exact HF16.out
   have htp2 : w2.there w.heap.size (m * 16) (bcells F).size := by rw [hsz]; exact htp
   have HTP := Lib.hid htp2
   have HTH := Lib.hid hth
   clear hb2 hlt2 hth hrg htp hsz htp2
   go_wp2_with (refine wpList_store_mid rfl 41 (.tmp 14) (.tmp 13) rfl w.heap.size (m * 16) (bcells F) rfl rfl HTP.out HSZ.out (bcells_one _) ?_)
   refine ⟨⟨m + 1, by omega, by go_num, Lib.hid ⟨below_setCells _ _ _ HB2.out (Nat.le_refl _), World.there_setCells HTH.out _ _ _, fun i hi => ?_⟩⟩, by simp [intOf]; omega⟩
   have hbl : (bcells F).toList.length = 16 := by rw [Array.length_toList, bcells_size]; exact HF16.out
   by_cases e : i = m
   ·
    subst e
    rw [HF.out, Nat.mul_comm 16 i]
    exact World.rangeAt_setCells_same _ _ _ _ HTP.out
   ·
    refine World.rangeAt_setCells_apart (HRG.out i (by omega)) _ _ _ (.inr (.inl ?_))
    rw [bvals_len, HG.out i]
    omega
  ·
   have hmm : m = 35 := by omega
   subst hmm
   have hge : ¬ ((35 : Nat) : Int) < 35 := by omega
   go_wp2_with fail
   go_ret
   refine ⟨rfl, ⟨fun i l hil => ?_, fun l hl => ?_⟩, HCA.out.bl⟩
   ·
    rw [← HZ.out, List.getElem?_map] at hil
    obtain ⟨j, hj, rfl⟩ := Option.map_eq_some_iff.1 hil
    obtain ⟨h1, h2⟩ := List.getElem?_eq_some_iff.1 hj
    simp at h1 h2
    subst h2
    refine ⟨w.heap.size, 0, rfl, ?_⟩
    rw [Nat.zero_add]
    exact HCA.out.rg i h1
   ·
    rw [← HZ.out] at hl
    obtain ⟨j, _, rfl⟩ := List.mem_map.1 hl
    exact HG.out j
end Go.Proofs.YtcgffkkfeimifaaGreatDoor
namespace Go.Proofs.YtcgffkkfeimifaaGreatDoor
open Go.RowKit Sha Ots
set_option linter.unusedVariables false
set_option linter.unusedSimpArgs false
theorem flat_len (ls : List (List UInt8)) (h : ∀ l ∈ ls, l.length = 16) : ls.flatten.length = 16 * ls.length := by
 induction ls with
 | nil => rfl
 | cons a r ih => rw [List.flatten_cons, List.length_append, h a (List.mem_cons_self ..), ih fun l hl => h l (List.mem_cons_of_mem _ hl), List.length_cons]; omega
theorem own_ge7 {w : World} {b n k : Nat} {v : Value} {xs : List Value} (h : w.ownsRow b 5 1 v n xs) (hk : v.ownBlock = some k) : b ≤ k ∧ k < w.heap.size := by
 obtain ⟨h1, ⟨rfl, _⟩ | ⟨g, cap, cur, rfl, h3, h4, _⟩⟩ := h
 ·
  cases hk
 ·
  obtain rfl : g = k := by simpa [Value.ownBlock] using hk
  exact ⟨h3, (Array.getElem?_eq_some_iff.1 h4).1⟩
set_option maxRecDepth 100000 in
set_option maxHeartbeats 1000000 in
theorem key_any (ls : List (List UInt8)) (A : Option Addr) (c : Nat) (hn : ls.length ≤ 1000) (w : World) (hs : Shorts A ls w) (env : DEnv w) :
  Calls Tryz.prog 103 #[.slice A ls.length c] w fun e w' => e = .returned (.agg (bcells (sh ls.flatten))) ∧ Below w.heap.size w w' := by
 obtain ⟨F, hF⟩ : ∃ F, ls.flatten = F := ⟨_, rfl⟩
 have hFl : F.length ≤ 16000 := by rw [← hF, flat_len ls hs.len]; omega
 have hsho : ∀ (V : World) (v : Value), Below w.heap.size w V → V.ownsRow (w.heap.size + 1) 5 1 v F.length (bvals F) → Calls Tryz.prog 108 #[v] V fun e w' => e = .returned (.agg (bcells (sh F))) ∧ Below V.heap.size V w' := fun V v hb ho => by
  obtain ⟨A, c, rfl, h1, h2, h3, h4⟩ := own_rd7 ho
  exact short_any _ A c (by omega) h1 h2 V h4 (env.on hb)
 rw [hF]
 obtain ⟨R, hR⟩ : ∃ R, sh F = R := ⟨_, rfl⟩
 have hR16 : R.length = 16 := by rw [← hR]; exact sh_len _
 rw [hR] at hsho ⊢
 obtain ⟨n, hnn⟩ : ∃ n, ls.length = n := ⟨_, rfl⟩
 rw [hnn] at hn ⊢
 have HN := Lib.hid hnn
 have HF := Lib.hid hF
 have HS := Lib.hid hs
 have SH := Lib.hid hsho
 have HSZ := Lib.hid (sz16 R hR16)
 have hso : (16 : Nat) = (bcells R).size := by rw [bcells_size, hR16]
 have HSO := Lib.hid hso
 have HFL := Lib.hid hFl
 have s1 := slice_short
 clear hF hFl hsho hR hR16 hnn hs hso env
 go_enter Tryz.func103, Tryz.ntmps103
 go_wp2_with fail
 have hr0 : (w.alloc (.cells (bcells (List.replicate 16 0)) 41)).heap[w.heap.size]? = some (.cells (bcells (List.replicate 16 0)) 41 (0, 0)) := heap_alloc_new _ _
 have HR0 := Lib.hid hr0
 clear hr0
 go_loopw [3, 5, 8] (fun v _ i wr => ∃ (k : Nat) (done : List UInt8), k ≤ n ∧ i = .int .i64 (k : Int) ∧ RowKit.Hid (F = done ++ (ls.drop k).flatten) ∧ RowKit.Hid (wr.ownsRow (w.heap.size + 1) 5 1 v done.length (bvals done)) ∧ RowKit.Hid (Below w.heap.size w wr ∧ w.heap.size + 1 ≤ wr.heap.size ∧ wr.heap[w.heap.size]? = some (.cells (bcells (List.replicate 16 0)) 41 (0, 0)))) (fun _ _ i _ => n - (intOf i).toNat)
 case atStart => exact ⟨0, [], by omega, rfl, Lib.hid HF.out.symm, Lib.hid ⟨rfl, Or.inl ⟨rfl, rfl⟩⟩, Lib.hid ⟨below_new _ _, by simp, HR0.out⟩⟩
 case round =>
  clear HR0
  obtain ⟨k, done, hk, rfl, HD, HO, HB⟩ := hrel
  by_cases hlt : k < n
  ·
   obtain ⟨x, hx⟩ : ∃ x, ls[k]? = some x := ⟨_, List.getElem?_eq_getElem (by rw [HN.out]; exact hlt)⟩
   obtain ⟨g, o, rfl, hrg⟩ := HS.out.row k x hx
   have hx16 : x.length = 16 := HS.out.len x (List.mem_of_getElem? hx)
   have hrw := rangeAt_on hrg HB.out.1
   rw [Nat.mul_comm] at hrw
   have HRW := Lib.hid hrw
   have hxi : (Tryz.prog.info? 41).map (·.size) = some (bvals x).length := by rw [bvals_len, hx16]; kernel_rfl
   have HXI := Lib.hid hxi
   have hdk : ls.drop k = x :: ls.drop (k + 1) := by
    obtain ⟨hlt2, e⟩ := List.getElem?_eq_some_iff.1 hx
    rw [List.drop_eq_getElem_cons hlt2, e]
   have hd2 : F = (done ++ x) ++ (ls.drop (k + 1)).flatten := by rw [HD.out, hdk, List.flatten_cons, List.append_assoc]
   have hdl : done.length + 16 ≤ 16000 := by
    have h := congrArg List.length hd2
    have h2 := HFL.out
    rw [List.length_append, List.length_append] at h
    omega
   have HD2 := Lib.hid hd2
   have HDL := Lib.hid hdl
   have HX16 := Lib.hid hx16
   have HSZX := Lib.hid (sz16 x hx16)
   have hsox : (16 : Nat) = (bcells x).size := by rw [bcells_size, hx16]
   have HSOX := Lib.hid hsox
   have hki : (k : Int) < (n : Int) := by omega
   clear hx hrg hrw hxi hdk hd2 hdl hx16 hsox HD
   go_wp2_with (first | (refine wpList_load_mid rfl 41 (.tmp 10) rfl g (o + k * 16) rfl (bvals x) _ HRW.out Tryz.underlying41 rfl HXI.out ?_) | (refine wpList_store_row rfl 41 (.tmp 5) (.tmp 11) rfl wr.heap.size (bcells x) rfl rfl 41 _ (heap_alloc_new _ _) HSZX.out HSOX.out (bcells_one _) ?_) | (at_builtin; refine append_src7 rfl (.tmp 12) (.tmp 13) rfl (w.heap.size + 1) _ _ _ rfl (by rw [World.setRow_alloc_new]; exact HO.out.alloc _) (some ⟨wr.heap.size, 0, none⟩) x 16 16 HX16.out rfl (fun e => by cases e) (by rw [World.setRow_alloc_new]; exact srcAt_row (heap_alloc_new _ _)) (by have := HDL.out; omega) (by rw [World.setRow_alloc_new]; have := HB.out.2.1; simp; omega) ?_; rw [World.setRow_alloc_new]; intro v' w5 hown5 hgrow5; have HO5 := Lib.hid hown5; have HG5 := Lib.hid hgrow5; clear hown5 hgrow5))
   have hsz5 := HG5.out.size
   have hszw := HB.out.2.1
   have hne : some w.heap.size ≠ Value.ownBlock u3 := fun e => by
    have := (own_ge7 HO.out e.symm).1
    omega
   refine ⟨⟨k + 1, done ++ x, by omega, by go_num, HD2, Lib.hid ?_, Lib.hid ⟨(HB.out.1.alloc HB.out.1.size _).grown HG5.out (by simp; omega) (fun j hj => ?_), by simp at hsz5; omega, ?_⟩⟩, by simp [intOf]; omega⟩
   ·
    rw [List.length_append, bvals_app, HX16.out]
    exact HO5.out
   ·
    have := (own_ge7 HO.out hj).1
    omega
   ·
    rw [HG5.out.block w.heap.size (by simp; omega) hne, Below.heap_alloc _ _ _ (by omega)]
    exact HB.out.2.2
  ·
   have hge : ¬ (k : Int) < (n : Int) := by omega
   have hfin : F = done := by rw [HD.out, List.drop_of_length_le (by rw [HN.out]; omega)]; simp
   have HO2 : RowKit.Hid (wr.ownsRow (w.heap.size + 1) 5 1 u3 F.length (bvals F)) := Lib.hid (by rw [hfin]; exact HO.out)
   clear hfin HO HD
   go_wp2_with fail
   refine (SH.out _ _ HB.out.1 HO2.out).mono ?_
   rintro e w2 ⟨rfl, hb2⟩
   have HR2 := Lib.hid ((hb2.block w.heap.size (by have := HB.out.2.1; omega)).trans HB.out.2.2)
   have HB2 := Lib.hid (HB.out.1.trans (hb2.mono HB.out.1.size))
   clear hb2
   go_wp2_with (refine wpList_store_row rfl 41 (.tmp 2) (.tmp 17) rfl w.heap.size (bcells R) rfl rfl 41 _ HR2.out HSZ.out HSO.out (bcells_one _) ?_)
   refine bodyPost_ret (v := .agg (bcells R)) (results_cell_row rfl _ _ w.heap.size 41 _ (0, 0) _ rfl (setRow_heap _ _ _ _ _ _ HR2.out) Tryz.underlying41 rfl HSZ.out) rfl ⟨rfl, ?_⟩
   exact below_row HB2.out (Nat.le_refl _) _
end Go.Proofs.YtcgffkkfeimifaaGreatDoor
namespace Go.Proofs.YtcgffkkfeimifaaGreatDoor
open Go.RowKit Sha Ots
set_option linter.unusedVariables false
set_option linter.unusedSimpArgs false
def ivals (l : List Nat) : List Value := l.map fun (d : Nat) => Value.int .i64 (d : Int)
theorem ivals_app (a b : List Nat) : ivals (a ++ b) = ivals a ++ ivals b := by simp [ivals]
def Ints (A : Option Addr) (D : List Nat) (w : World) : Prop := ∀ (j d : Nat), D[j]? = some d → ∃ g o, A = some ⟨g, o, none⟩ ∧ w.cell? ⟨g, o + j, none⟩ = some (.int .i64 (d : Int))
theorem Ints.on {A : Option Addr} {D : List Nat} {w V : World} (h : Ints A D w) (hb : Below w.heap.size w V) : Ints A D V := fun j d hj => by
 obtain ⟨g, o, e, hc⟩ := h j d hj
 exact ⟨g, o, e, by rw [hb.cell (p := ⟨g, o + j, none⟩) (World.block_lt_of_cell? _ _ hc)]; exact hc⟩
theorem ints_own {w : World} {b n c g : Nat} {D : List Nat} (h : w.ownsRow b 3 1 (.slice (some ⟨g, 0, none⟩) n c) n (ivals D)) : Ints (some ⟨g, 0, none⟩) D w := fun j d hj => by
 refine ⟨g, 0, rfl, ?_⟩
 have h2 := h.cells (g := g) rfl j (.int .i64 (d : Int)) (by unfold ivals; rw [List.getElem?_map, hj]; rfl)
 rw [add_eq, Nat.zero_add] at h2
 rw [Nat.zero_add]
 exact h2
theorem Tryz.info_int : (Tryz.prog.info? 3).map (fun i => (i.zero, i.size, i.bytes)) = some (some (.int .i64 0), 1, 8) := by kernel_rfl
theorem new_cells (w : World) (L : List Value) (t : TypeId) : ∀ j u, L[j]? = some u → (w.alloc (.cells L.toArray t)).cell? ((⟨w.heap.size, 0, none⟩ : Addr).add j) = some u := fun j u hj => by
 rw [add_eq, Nat.zero_add, cell_of_row _ _ _ _ _ _ (heap_alloc_new _ _)]
 simpa using hj
theorem nib_take (s : List UInt8) (k : Nat) (h : k < s.length) : nib (s.take (k + 1)) = nib (s.take k) ++ [(s.getD k 0).toNat / 16, (s.getD k 0).toNat % 16] := by
 rw [List.take_succ_eq_append_getElem h]
 unfold nib
 rw [List.flatMap_append, List.getD_eq_getElem?_getD, List.getElem?_eq_getElem h]
 rfl
theorem csum_two (l : List Nat) (a b : Nat) (ha : a ≤ 15) (hb : b ≤ 15) : ((csum (l ++ [a, b]) : Nat) : Int) = (csum l : Nat) + (30 - (a : Int) - (b : Int)) := by
 rw [csum_app]
 simp only [csum]
 omega
set_option maxRecDepth 100000 in
set_option maxHeartbeats 1000000 in
theorem digitsOf_any (s : List UInt8) (hs : s.length = 16) (w : World) :
  Calls Tryz.prog 133 #[.agg (bcells s)] w fun e w' => ∃ X, e = .returned (.slice (some ⟨X, 0, none⟩) 35 35) ∧ w.heap.size ≤ X ∧ Ints (some ⟨X, 0, none⟩) (digs s) w' ∧ Below w.heap.size w w' := by
 obtain ⟨i0, hi, hz0, hz1, hz2⟩ := info_parts Tryz.info_int
 have HI := Lib.hid hi
 have HS := Lib.hid hs
 have HSZ := Lib.hid (sz16 s hs)
 clear hi hs
 go_enter Tryz.func133, Tryz.ntmps133
 go_wp2_with (first | (refine wpList_load_row rfl 41 (.tmp 1) rfl w.heap.size rfl 41 (bcells s) (0, 0) _ HB0.out Tryz.underlying41 rfl HSZ.out ?_) | (at_make; go_loud (refine wpList_make_own _ rfl (.const (.int .i64 0)) (.const (.int .i64 35)) 145 rfl (w.heap.size + 1) 3 i0 (.int .i64 0) 1 Tryz.underlying145 HI.out hz0 hz1 .i64 .i64 35 35 rfl rfl rfl (by rw [hz2]; decide) (by decide) (by simp) ?_); intro w1 ho1 hb1; have HO1 := Lib.hid ho1; have HB0 : RowKit.Hid (w1.heap[w.heap.size]? = some (.cells (bcells s) 41 (0, 0))) := Lib.hid ((hb1.block _ (by simp) (by simp)).trans (heap_alloc_new _ _)); have HB1 : RowKit.Hid (Below w.heap.size w w1) := Lib.hid ((below_new w _).trans ⟨hb1.os, hb1.tape, hb1.output, Nat.le_trans (by simp) hb1.size, fun k hk => hb1.block k (by simp; omega) (by simp)⟩); clear ho1 hb1))
 have hos : w1.ownsRow (w.heap.size + 1) 3 1 (.slice (some ⟨w.heap.size + 1, 0, none⟩) 0 35) 0 (ivals (nib (s.take 0))) := by
  have h := HO1.out
  rw [World.size_alloc] at h
  exact h
 have HOS := Lib.hid hos
 clear HO1 hos HB0
 go_loopw [3, 4, 6, 7, 8, 11] (fun v sm _ _ _ x wr => ∃ k : Nat, k ≤ 16 ∧ x = .int .i64 (k : Int) ∧ sm = .int .i64 ((csum (nib (s.take k)) : Nat) : Int) ∧ v = .slice (some ⟨w.heap.size + 1, 0, none⟩) (2 * k) 35 ∧ RowKit.Hid (wr.ownsRow (w.heap.size + 1) 3 1 (.slice (some ⟨w.heap.size + 1, 0, none⟩) (2 * k) 35) (2 * k) (ivals (nib (s.take k)))) ∧ RowKit.Hid (Below w.heap.size w wr)) (fun _ _ _ _ _ x _ => 16 - (intOf x).toNat)
 case atStart => exact ⟨0, by omega, rfl, rfl, rfl, HOS, HB1⟩
 case round =>
  clear HOS HB1
  obtain ⟨k, hk, rfl, rfl, rfl, HO, HB⟩ := hrel
  by_cases hlt : k < 16
  ·
   have hix : ∀ w, (Instr.index 41 (.agg (bcells s)) (.int .i64 (k : Int))).run Tryz.prog w = .ok (.int .u8 ((s.getD k 0).toNat : Int)) w :=
    fun w => run_index_row Tryz.underlying41 (fun _ => by kernel_rfl) (fun _ => by kernel_rfl) k hlt (bcells_at s k (by rw [HS.out]; exact hlt)) w
   have hnt := nib_take s k (by rw [HS.out]; exact hlt)
   have hcl : csum (nib (s.take k)) ≤ 480 := by
    have h := csum_le (nib (s.take k))
    rw [nib_len, List.length_take, HS.out] at h
    omega
   obtain ⟨b, hb⟩ : ∃ b, (s.getD k 0).toNat = b := ⟨_, rfl⟩
   have hb8 : b < 256 := by rw [← hb]; exact (s.getD k 0).toNat_lt
   rw [hb] at hix hnt
   have HNT := Lib.hid hnt
   obtain ⟨D, hD⟩ : ∃ D, nib (s.take k) = D := ⟨_, rfl⟩
   have HD := Lib.hid hD
   rw [hD] at HO HNT hcl ⊢
   obtain ⟨C, hC⟩ : ∃ C, csum D = C := ⟨_, rfl⟩
   rw [hC] at hcl ⊢
   have HC := Lib.hid hC
   clear hnt hb hD hC
   have hne : (ivals [b / 16, b % 16]) = [Value.int .i64 ((b : Int) / 16), Value.int .i64 ((b : Int) % 16)] := by simp [ivals]
   have hcs : ((csum (D ++ [b / 16, b % 16]) : Nat) : Int) = (C : Int) + (30 - (b : Int) / 16 - (b : Int) % 16) := by
    rw [csum_two _ _ _ (by omega) (by omega), HC.out]
    omega
   have HNE := Lib.hid hne
   have HCS := Lib.hid hcs
   clear hne hcs
   go_wp2_with (at_builtin; refine wpList_append_fits _ rfl (.tmp 26) (.tmp 29) 145 rfl (w.heap.size + 1) 3 i0 1 Tryz.underlying145 HI.out hz1 (w.heap.size + 1) (2 * k) 35 (ivals D) rfl (HO.out.alloc _) ⟨wr.heap.size, 0, none⟩ 2 2 [.int .i64 ((b : Int) / 16), .int .i64 ((b : Int) % 16)] rfl rfl (new_cells _ _ _) (by intro u hu; simp at hu; rcases hu with rfl | rfl <;> rfl) (by omega) ?_; intro w5 hown5 hgrow5; have HO5 := Lib.hid hown5; have HG5 := Lib.hid hgrow5; clear hown5 hgrow5)
   refine ⟨⟨k + 1, by omega, by go_num, ?_, ?_, Lib.hid ?_, Lib.hid ((HB.out.alloc HB.out.size _).grown HG5.out (by have := HB.out.size; simp; omega) (fun j hj => (by have hj2 : w.heap.size + 1 = j := (by simpa using hj); omega)))⟩, by simp [intOf]; omega⟩
   ·
    rw [HNT.out, HCS.out]
   ·
    rw [Nat.mul_add]
   ·
    rw [HNT.out, ivals_app, HNE.out, Nat.mul_add]
    exact HO5.out
  ·
   have hkk : k = 16 := by omega
   subst hkk
   have hge : ¬ ((16 : Nat) : Int) < 16 := by omega
   have hst : s.take 16 = s := List.take_of_length_le (by rw [HS.out]; exact Nat.le_refl _)
   rw [hst] at HO ⊢
   have hcl := csum_480 s HS.out
   obtain ⟨D, hD⟩ : ∃ D, nib s = D := ⟨_, rfl⟩
   rw [hD] at HO hcl ⊢
   obtain ⟨C, hC⟩ : ∃ C, csum D = C := ⟨_, rfl⟩
   rw [hC] at hcl ⊢
   have hdg : digs s = D ++ [C / 256, C / 16 % 16, C % 16] := by unfold digs; rw [hD, hC]
   have hne : (ivals [C / 256, C / 16 % 16, C % 16]) = [Value.int .i64 ((C : Int) / 256), Value.int .i64 ((C : Int) / 16 % 16), Value.int .i64 ((C : Int) % 16)] := by simp [ivals]
   have HDG := Lib.hid hdg
   have HNE := Lib.hid hne
   clear hst hD hC hdg hne
   go_wp2_with (at_builtin; go_loud (refine wpList_append_fits _ rfl (.tmp 32) (.tmp 40) 145 rfl (w.heap.size + 1) 3 i0 1 Tryz.underlying145 HI.out hz1 (w.heap.size + 1) 32 35 (ivals D) rfl (HO.out.alloc _) ⟨wr.heap.size, 0, none⟩ 3 3 [.int .i64 ((C : Int) / 256), .int .i64 ((C : Int) / 16 % 16), .int .i64 ((C : Int) % 16)] rfl rfl (new_cells _ _ _) (by intro u hu; simp at hu; rcases hu with rfl | rfl | rfl <;> rfl) (by omega) ?_); intro w5 hown5 hgrow5; have HO5 := Lib.hid hown5; have HG5 := Lib.hid hgrow5; clear hown5 hgrow5)
   go_ret
   refine ⟨w.heap.size + 1, rfl, by omega, ?_, ?_⟩
   ·
    refine ints_own (b := w.heap.size + 1) (n := 35) (c := 35) ?_
    rw [HDG.out, ivals_app, HNE.out]
    exact HO5.out
   ·
    exact (HB.out.alloc HB.out.size _).grown HG5.out (by have := HB.out.size; simp; omega) (fun j hj => by
     have : w.heap.size + 1 = j := by simpa using hj
     omega)
theorem digits_any (l : List UInt8) (A : Option Addr) (c : Nat) (hl : l.length ≤ 100000) (hc : l.length ≤ c) (hcm : c ≤ maxLen) (w : World) (hs : SrcAt A l w) (env : DEnv w) :
  Calls Tryz.prog 109 #[.slice A l.length c] w fun e w' => ∃ X, e = .returned (.slice (some ⟨X, 0, none⟩) 35 35) ∧ w.heap.size ≤ X ∧ Ints (some ⟨X, 0, none⟩) (dig l) w' ∧ Below w.heap.size w w' := by
 have hsho : Calls Tryz.prog 108 #[.slice A l.length c] w fun e w' => e = .returned (.agg (bcells (sh l))) ∧ Below w.heap.size w w' := short_any l A c hl hc hcm w hs env
 have hdg : dig l = digs (sh l) := rfl
 rw [hdg]
 have h16 := sh_len l
 obtain ⟨F, hF⟩ : ∃ F, sh l = F := ⟨_, rfl⟩
 rw [hF] at hsho h16 ⊢
 have SH := Lib.hid hsho
 obtain ⟨n, hn⟩ : ∃ n, l.length = n := ⟨_, rfl⟩
 rw [hn] at SH ⊢
 clear hsho hF hn hs env hdg
 go_enter Tryz.func109, Tryz.ntmps109
 go_wp2_with fail
 refine SH.out.mono ?_
 rintro e w1 ⟨rfl, hb1⟩
 have HB1 := Lib.hid hb1
 clear hb1
 go_wp2_with fail
 refine (digitsOf_any F h16 w1).mono ?_
 rintro e w2 ⟨X, rfl, hX, hi, hb2⟩
 have HX := Lib.hid hX
 have HI := Lib.hid hi
 have HB2 := Lib.hid (chain HB1.out hb2)
 clear hX hi hb2
 go_wp2_with fail
 go_ret
 exact ⟨X, rfl, Nat.le_trans HB1.out.size HX.out, HI.out, HB2.out⟩
end Go.Proofs.YtcgffkkfeimifaaGreatDoor
namespace Go.Proofs.YtcgffkkfeimifaaGreatDoor
open Go.RowKit Sha Ots
set_option linter.unusedVariables false
set_option linter.unusedSimpArgs false
def RowOf (B n : Nat) (z : World) : Prop := ∃ cur : Array Value, z.heap[B]? = some (.cells cur 41 (0, 0)) ∧ cur.size = n
theorem keepS {v z w : World} {S o n : Nat} {A : List Value} {a b c : Addr} {x y u : Value} (h : Below v.heap.size v z ∧ z.rangeAt S o A ∧ z.cell? a = some x ∧ z.cell? b = some y ∧ z.cell? c = some u ∧ z.there v.heap.size 0 n ∧ RowOf v.heap.size n z) (hb : Below z.heap.size z w) :
  Below v.heap.size v w ∧ w.rangeAt S o A ∧ w.cell? a = some x ∧ w.cell? b = some y ∧ w.cell? c = some u ∧ w.there v.heap.size 0 n ∧ RowOf v.heap.size n w := by
 obtain ⟨h1, h2, h3, h4, h5, h6, cur, h7, h8⟩ := h
 have hlt : v.heap.size < z.heap.size := (Array.getElem?_eq_some_iff.1 h7).1
 refine ⟨chain h1 hb, rangeAt_on h2 hb, ?_, ?_, ?_, there_below h6 hb hlt, cur, (hb.block _ hlt).trans h7, h8⟩
 ·
  rw [hb.cell (World.block_lt_of_cell? _ _ h3)]; exact h3
 ·
  rw [hb.cell (World.block_lt_of_cell? _ _ h4)]; exact h4
 ·
  rw [hb.cell (World.block_lt_of_cell? _ _ h5)]; exact h5
theorem heap_setCells {g : Nat} {T : TypeId} : ∀ (vs : List Value) (o : Nat) (w : World) (cur : Array Value), w.heap[g]? = some (.cells cur T (0, 0)) → ∃ cur', (w.setCells g o vs).heap[g]? = some (.cells cur' T (0, 0)) ∧ cur'.size = cur.size
 | [], _, _, cur, h => ⟨cur, h, rfl⟩
 | v :: r, o, w, cur, h => by
  rw [World.setCells]
  obtain ⟨c2, h2, h3⟩ := heap_setCells r (o + 1) _ _ (heap_setCell_same w g o cur T v h)
  exact ⟨c2, h2, by rw [h3]; simp⟩
theorem there_row {w : World} {g : Nat} {cur : Array Value} {T : TypeId} (h : w.heap[g]? = some (.cells cur T (0, 0))) (n : Nat) (hn : n ≤ cur.size) : w.there g 0 n := fun j hj => by
 rw [Nat.zero_add]
 refine ⟨?_, frozen_of_row _ _ _ _ _ h⟩
 rw [cell_of_row _ _ _ _ _ _ h, Array.getElem?_eq_getElem (by omega)]
 rfl
theorem row_setCells {w : World} {g : Nat} {cur cs : Array Value} {T : TypeId} (h : w.heap[g]? = some (.cells cur T (0, 0))) (hn : cur.size = cs.size) : (w.setCells g 0 cs.toList).heap[g]? = some (.cells cs T (0, 0)) := by
 obtain ⟨c2, h2, h3⟩ := heap_setCells cs.toList 0 w cur h
 have hr := World.rangeAt_setCells_same w g 0 cs.toList (there_row h _ (by rw [Array.length_toList, hn]; exact Nat.le_refl _))
 have he : c2 = cs := by
  apply Array.ext
  ·
   rw [h3, hn]
  ·
   intro j h4 h5
   have h6 := hr j cs[j] (by simp [h5])
   rw [Nat.zero_add, cell_of_row _ _ _ _ _ _ h2, Array.getElem?_eq_getElem h4] at h6
   exact Option.some.inj h6
 rw [h2, he]
theorem keepW {v z : World} {S o n : Nat} {A : List Value} {a b c : Addr} {x y u : Value} (cs : List Value) (hS : S < v.heap.size) (ha : a.block < v.heap.size) (hb : b.block < v.heap.size) (hc : c.block < v.heap.size)
  (h : Below v.heap.size v z ∧ z.rangeAt S o A ∧ z.cell? a = some x ∧ z.cell? b = some y ∧ z.cell? c = some u ∧ z.there v.heap.size 0 n ∧ RowOf v.heap.size n z) :
  Below v.heap.size v (z.setCells v.heap.size 0 cs) ∧ (z.setCells v.heap.size 0 cs).rangeAt S o A ∧ (z.setCells v.heap.size 0 cs).cell? a = some x ∧ (z.setCells v.heap.size 0 cs).cell? b = some y ∧ (z.setCells v.heap.size 0 cs).cell? c = some u ∧ (z.setCells v.heap.size 0 cs).there v.heap.size 0 n ∧ RowOf v.heap.size n (z.setCells v.heap.size 0 cs) := by
 obtain ⟨h1, h2, h3, h4, h5, h6, cur, h7, h8⟩ := h
 obtain ⟨c2, h9, h10⟩ := heap_setCells cs 0 z cur h7
 have far : ∀ d : Addr, d.block < v.heap.size → (z.setCells v.heap.size 0 cs).cell? d = z.cell? d := fun d hd => World.cell?_setCells_out v.heap.size cs 0 z d (fun e _ => absurd e (by omega))
 refine ⟨below_setCells _ _ _ h1 (Nat.le_refl _), World.rangeAt_setCells_apart h2 _ _ _ (.inl (by omega)), ?_, ?_, ?_, World.there_setCells h6 _ _ _, c2, h9, by rw [h10, h8]⟩
 ·
  rw [far a ha]; exact h3
 ·
  rw [far b hb]; exact h4
 ·
  rw [far c hc]; exact h5
theorem climb_from (l : List UInt8) (hl : l.length = 16) (i a b : Nat) (hi : i < 256) (hb : b ≤ 256) (w V : World) (env : DEnv w) (hbV : Below w.heap.size w V) :
  Calls Tryz.prog 106 #[.agg (bcells l), .int .i64 (i : Int), .int .i64 (a : Int), .int .i64 (b : Int)] V fun e w' => e = .returned (.agg (bcells (clm l i a (b - a)))) ∧ Below V.heap.size V w' := climb_any l hl i a b hi hb V (env.on hbV)
set_option maxRecDepth 100000 in
set_option maxHeartbeats 1000000 in
theorem pubcl_any (seed : List UInt8) (hs : seed.length = 16) (S : Nat) (fr : Nat × Nat) (i : Nat) (hi : i < 35) (w : World) (hS : w.heap[S]? = some (.cells (bcells seed) 41 fr)) (env : DEnv w) :
  Calls Tryz.prog 105 #[.int .i64 (i : Int), .pointer (some ⟨S, 0, none⟩)] w fun e w' => e = .returned (.agg (bcells (chn seed i 15))) ∧ Below w.heap.size w w' := by
 have hbg := fun (V : World) (hb : Below w.heap.size w V) => begin_any seed hs i (by omega) V (env.on hb)
 have hl1 : (stp seed i 255).length = 16 := stp_len _ _ _
 have hcl := fun (V : World) (hb : Below w.heap.size w V) => climb_from (stp seed i 255) hl1 i 0 15 (by omega) (by decide) w V env hb
 have hlR : (clm (stp seed i 255) i 0 (15 - 0)).length = 16 := clm_len _ _ _ hl1 _
 have hR0 : chn seed i 15 = clm (stp seed i 255) i 0 (15 - 0) := rfl
 rw [hR0]
 obtain ⟨R, hR⟩ : ∃ R, clm (stp seed i 255) i 0 (15 - 0) = R := ⟨_, rfl⟩
 rw [hR] at hcl hlR ⊢
 obtain ⟨F, hF⟩ : ∃ F, stp seed i 255 = F := ⟨_, rfl⟩
 rw [hF] at hbg hcl hl1
 have BG := Lib.hid hbg
 have CL := Lib.hid hcl
 have HSZ0 := Lib.hid (sz16 seed hs)
 have HSZ := Lib.hid (sz16 R hlR)
 have hso : (16 : Nat) = (bcells R).size := by rw [bcells_size, hlR]
 have HSO := Lib.hid hso
 have hlt : S < w.heap.size := (Array.getElem?_eq_some_iff.1 hS).1
 have HS0 := Lib.hid hS
 clear hbg hcl hR0 hR hF hlR hso hs env hS hl1
 go_enter Tryz.func105, Tryz.ntmps105
 go_wp2_with (refine wpList_load_row rfl 41 (.tmp 1) rfl S rfl 41 (bcells seed) fr _ ((Below.heap_alloc _ _ _ hlt).trans HS0.out) Tryz.underlying41 rfl HSZ0.out ?_)
 refine (BG.out _ (below_new w _)).mono ?_
 rintro e w2 ⟨rfl, hb2⟩
 have HR2 := Lib.hid ((hb2.block w.heap.size (by simp)).trans (heap_alloc_new _ _))
 have HB2 := Lib.hid ((below_new w _).trans (hb2.mono (by simp)))
 have HL2 : RowKit.Hid (w.heap.size < w2.heap.size) := Lib.hid (by have := hb2.size; simp at this; omega)
 clear hb2
 go_wp2_with fail
 refine (CL.out _ HB2.out).mono ?_
 rintro e w3 ⟨rfl, hb3⟩
 have HR3 := Lib.hid ((hb3.block w.heap.size HL2.out).trans HR2.out)
 have HB3 := Lib.hid (HB2.out.trans (hb3.mono HB2.out.size))
 clear hb3
 go_wp2_with (refine wpList_store_row rfl 41 (.tmp 3) (.tmp 8) rfl w.heap.size (bcells R) rfl rfl 41 _ HR3.out HSZ.out HSO.out (bcells_one _) ?_)
 refine bodyPost_ret (v := .agg (bcells R)) (results_cell_row rfl _ _ w.heap.size 41 _ (0, 0) _ rfl (setRow_heap _ _ _ _ _ _ HR3.out) Tryz.underlying41 rfl HSZ.out) rfl ⟨rfl, ?_⟩
 exact below_row HB3.out (Nat.le_refl _) _
set_option maxRecDepth 100000 in
set_option maxHeartbeats 1000000 in
theorem public_any (seed : List UInt8) (hs : seed.length = 16) (w : World) (env : DEnv w) :
  Calls Tryz.prog 66 #[.agg (bcells seed)] w fun e w' => e = .returned (.agg (bcells (pub seed))) ∧ Below w.heap.size w w' := by
 have hca := fun (V : World) (hb : Below w.heap.size w V) (hS : V.heap[w.heap.size]? = some (.cells (bcells seed) 41 (0, 0))) (Z : List (List UInt8)) (hZ : (List.range 35).map (fun i => chn seed i 15) = Z) =>
  climbAll_any 105 #[.pointer (some ⟨w.heap.size, 0, none⟩)] (fun i => chn seed i 15) (fun i => chn_len _ _ _) V (enters_of Tryz.func105 (by kernel_rfl) rfl) Z hZ
   (fun i hi U hU => pubcl_any seed hs w.heap.size (0, 0) i hi U ((hU.block _ (Array.getElem?_eq_some_iff.1 hS).1).trans hS) ((env.on hb).on hU))
 obtain ⟨Z, hZ⟩ : ∃ Z, (List.range 35).map (fun i => chn seed i 15) = Z := ⟨_, rfl⟩
 have hp : pub seed = sh Z.flatten := by unfold pub; rw [hZ]
 have hZl : Z.length = 35 := by rw [← hZ, List.length_map, List.length_range]
 rw [hp]
 have hca2 := fun V hb hS => hca V hb hS Z hZ
 have hke := fun (V : World) (hb : Below w.heap.size w V) (A : Option Addr) (hsA : Shorts A Z V) => key_any Z A 35 (by omega) V hsA (env.on hb)
 obtain ⟨R, hR⟩ : ∃ R, sh Z.flatten = R := ⟨_, rfl⟩
 have hlR : R.length = 16 := by rw [← hR]; exact sh_len _
 rw [hR, hZl] at hke
 rw [hR]
 have CA := Lib.hid hca2
 have KE := Lib.hid hke
 have HSZ := Lib.hid (sz16 R hlR)
 have hso : (16 : Nat) = (bcells R).size := by rw [bcells_size, hlR]
 have HSO := Lib.hid hso
 clear hca hca2 hke hR hlR hso hp hZ hZl hs env
 go_enter Tryz.func66, Tryz.ntmps66
 go_upto_region 1 with (fail)
 generalize hV : World.alloc (World.alloc w _) _ = V
 have hb0 : Below w.heap.size w V := by rw [← hV]; exact (below_new _ _).alloc (by simp) _
 have hr0 : V.heap[w.heap.size]? = some (.cells (bcells seed) 41 (0, 0)) := by rw [← hV]; exact heap_alloc2_old _ _ _
 have hr1 : V.heap[w.heap.size + 1]? = some (.cells (bcells (List.replicate 16 0)) 41 (0, 0)) := by rw [← hV]; exact (heap_alloc2_new _ _ _).trans rfl
 have HB0 := Lib.hid hb0
 have HR0 := Lib.hid hr0
 have HR1 := Lib.hid hr1
 clear hV hb0 hr0 hr1
 go_wp2_with fail
 refine (CA.out _ HB0.out HR0.out).mono ?_
 rintro e w2 ⟨rfl, hsh, hb2⟩
 have hlt := (Array.getElem?_eq_some_iff.1 HR1.out).1
 have HSH := Lib.hid hsh
 have HR2 := Lib.hid ((hb2.block (w.heap.size + 1) hlt).trans HR1.out)
 have HB2 := Lib.hid (HB0.out.trans (hb2.mono (by omega)))
 have HL2 : RowKit.Hid (w.heap.size + 1 < w2.heap.size) := Lib.hid (by have := hb2.size; omega)
 clear hb2 hsh hlt
 go_wp2_with fail
 refine (KE.out _ HB2.out _ HSH.out).mono ?_
 rintro e w3 ⟨rfl, hb3⟩
 have HR3 := Lib.hid ((hb3.block (w.heap.size + 1) HL2.out).trans HR2.out)
 have HB3 := Lib.hid (HB2.out.trans (hb3.mono HB2.out.size))
 clear hb3
 go_wp2_with (refine wpList_store_row rfl 41 (.tmp 2) (.tmp 5) rfl (w.heap.size + 1) (bcells R) rfl rfl 41 _ HR3.out HSZ.out HSO.out (bcells_one _) ?_)
 refine bodyPost_ret (v := .agg (bcells R)) (results_cell_row rfl _ _ (w.heap.size + 1) 41 _ (0, 0) _ rfl (setRow_heap _ _ _ _ _ _ HR3.out) Tryz.underlying41 rfl HSZ.out) rfl ⟨rfl, ?_⟩
 exact below_row HB3.out (by omega) _
set_option maxRecDepth 100000 in
set_option maxHeartbeats 1000000 in
theorem signcl_any (seed : List UInt8) (hs : seed.length = 16) (S D X : Nat) (fr : Nat × Nat) (i d : Nat) (hi : i < 35) (hd : d ≤ 15) (w : World) (hS : w.heap[S]? = some (.cells (bcells seed) 41 fr)) (hD : w.cell? ⟨D, 0, none⟩ = some (.slice (some ⟨X, 0, none⟩) 35 35)) (hX : w.cell? ⟨X, i, none⟩ = some (.int .i64 (d : Int))) (env : DEnv w) :
  Calls Tryz.prog 110 #[.int .i64 (i : Int), .pointer (some ⟨S, 0, none⟩), .pointer (some ⟨D, 0, none⟩)] w fun e w' => e = .returned (.agg (bcells (chn seed i d))) ∧ Below w.heap.size w w' := by
 have hbg := fun (V : World) (hb : Below w.heap.size w V) => begin_any seed hs i (by omega) V (env.on hb)
 have hl1 : (stp seed i 255).length = 16 := stp_len _ _ _
 have hcl := fun (V : World) (hb : Below w.heap.size w V) => climb_from (stp seed i 255) hl1 i 0 d (by omega) (by omega) w V env hb
 have hlR : (clm (stp seed i 255) i 0 (d - 0)).length = 16 := clm_len _ _ _ hl1 _
 have hR0 : chn seed i d = clm (stp seed i 255) i 0 (d - 0) := rfl
 rw [hR0]
 obtain ⟨R, hR⟩ : ∃ R, clm (stp seed i 255) i 0 (d - 0) = R := ⟨_, rfl⟩
 rw [hR] at hcl hlR ⊢
 obtain ⟨F, hF⟩ : ∃ F, stp seed i 255 = F := ⟨_, rfl⟩
 rw [hF] at hbg hcl hl1
 have BG := Lib.hid hbg
 have CL := Lib.hid hcl
 have HSZ := Lib.hid (sz16 R hlR)
 have hso : (16 : Nat) = (bcells R).size := by rw [bcells_size, hlR]
 have HSO := Lib.hid hso
 have hltS : S < w.heap.size := (Array.getElem?_eq_some_iff.1 hS).1
 have hltD : D < w.heap.size := World.block_lt_of_cell? _ _ hD
 have hltX : X < w.heap.size := World.block_lt_of_cell? _ _ hX
 have hi35 : (i : Int) < 35 := by omega
 have HS0 := Lib.hid hS
 have HS16 := Lib.hid hs
 clear hbg hcl hR0 hR hF hlR hso hs env hS hl1
 go_enter Tryz.func110, Tryz.ntmps110
 go_upto_region 1 with (fail)
 generalize hV : World.alloc w _ = v
 have hb0 : Below w.heap.size w v := by rw [← hV]; exact below_new _ _
 have hr0 : v.heap[w.heap.size]? = some (.cells (bcells (List.replicate 16 0)) 41 (0, 0)) := by rw [← hV]; exact (heap_alloc_new _ _).trans rfl
 have hsz0 : v.heap.size = w.heap.size + 1 := by rw [← hV]; simp
 have hs0 : v.rangeAt S 0 (bvals seed) := fun j u hj => by
  rw [Nat.zero_add, cell_of_row v S j _ _ _ ((hb0.block _ hltS).trans HS0.out)]
  unfold bcells
  unfold bvals at hj
  simpa using hj
 have a0 : v.cell? ⟨D, 0, none⟩ = some (.slice (some ⟨X, 0, none⟩) 35 35) := by rw [hb0.cell (p := ⟨D, 0, none⟩) hltD]; exact hD
 have a1 : v.cell? ⟨X, i, none⟩ = some (.int .i64 (d : Int)) := by rw [hb0.cell (p := ⟨X, i, none⟩) hltX]; exact hX
 have hRR := bcells_size R
 obtain ⟨RR, hR2⟩ : ∃ RR, bcells R = RR := ⟨_, rfl⟩
 have hone : RR.all (·.oneCell') = true := by rw [← hR2]; exact bcells_one _
 have hone2 : ∀ u ∈ RR.toList, u.oneCell' = true := fun u hu => (Array.all_eq_true_iff_forall_mem.1 hone) u (by simpa using hu)
 have HSZ2 := HSZ.out
 have hso2 := HSO.out
 rw [hR2] at CL HSZ2 hso2
 have ht0 : v.there w.heap.size 0 RR.size := there_row hr0 _ (by rw [bcells_size, ← hso2]; exact Nat.le_refl _)
 have hrow0 : RowOf w.heap.size RR.size v := ⟨_, hr0, by rw [bcells_size, ← hso2]; rfl⟩
 have hS0 : Below w.heap.size w v.drew ∧ v.drew.rangeAt S 0 (bvals seed) ∧ v.drew.cell? ⟨D, 0, none⟩ = some (.slice (some ⟨X, 0, none⟩) 35 35) ∧ v.drew.cell? ⟨X, i, none⟩ = some (.int .i64 (d : Int)) ∧ v.drew.cell? ⟨X, i, none⟩ = some (.int .i64 (d : Int)) ∧ v.drew.there w.heap.size 0 RR.size ∧ RowOf w.heap.size RR.size v.drew := ⟨hb0.drew, hs0, a0, a1, a1, ht0, hrow0⟩
 have hu25 := Tryz.underlying41
 have hi25 : (Tryz.prog.info? 41).map (·.size) = some (bvals seed).length := by rw [bvals_len, HS16.out]; kernel_rfl
 have HS00 := Lib.hid hS0
 have HR2 := Lib.hid hR2
 have HR0 := Lib.hid hr0
 have HLT := Lib.hid (And.intro hltS (And.intro hltD hltX))
 clear hV hb0 hr0 hltD hltX hltS hD hX hs0 a0 a1 ht0 hS0 hrow0 hR2 hRR HSZ
 go_region_held3 (fun z => Below w.heap.size w z ∧ z.rangeAt S 0 (bvals seed) ∧ z.cell? ⟨D, 0, none⟩ = some (.slice (some ⟨X, 0, none⟩) 35 35) ∧ z.cell? ⟨X, i, none⟩ = some (.int .i64 (d : Int)) ∧ z.cell? ⟨X, i, none⟩ = some (.int .i64 (d : Int)) ∧ z.there w.heap.size 0 RR.size ∧ RowOf w.heap.size RR.size z)
  (first | assumption | exact HS00.out | exact keepS HS00.out hb7 | exact keepS (by assumption) hb7 | exact keepW _ HLT.out.1 HLT.out.2.1 HLT.out.2.2 HLT.out.2.2 (by assumption))
  (first | (go_at_call 107; refine (BG.out _ (by first | assumption | exact And.left (by assumption))).mono ?_; rintro e w7 ⟨rfl, hb7⟩) | (go_at_call 106; refine (CL.out _ (by first | assumption | exact And.left (by assumption))).mono ?_; rintro e w7 ⟨rfl, hb7⟩))
 rename_i w6 hb6 hhd
 have r6 := (hb6.block w.heap.size (by show w.heap.size < v.heap.size; omega)).trans HR0.out
 have r7 := (hb7.block w.heap.size (Array.getElem?_eq_some_iff.1 r6).1).trans r6
 have r8 := row_setCells (cs := RR) r7 (by rw [bcells_size, ← hso2]; rfl)
 have HB8 := Lib.hid hhd.1
 have HR8 := Lib.hid r8
 clear r6 r7 r8 hhd hb6 hb7
 generalize World.setCells _ _ _ _ = z at HB8 HR8 ⊢
 go_wp2_with fail
 rw [HR2.out]
 refine bodyPost_ret (v := .agg RR) (results_cell_row rfl _ _ w.heap.size 41 _ (0, 0) _ rfl HR8.out Tryz.underlying41 rfl HSZ2) rfl ⟨rfl, HB8.out⟩
end Go.Proofs.YtcgffkkfeimifaaGreatDoor
namespace Go.Proofs.YtcgffkkfeimifaaGreatDoor
open Go.RowKit Sha Ots
set_option linter.unusedVariables false
set_option linter.unusedSimpArgs false
theorem Ints.at {X : Nat} {D : List Nat} {w : World} (h : Ints (some ⟨X, 0, none⟩) D w) (i : Nat) (hi : i < D.length) : w.cell? ⟨X, i, none⟩ = some (.int .i64 ((D.getD i 0 : Nat) : Int)) := by
 obtain ⟨g, o, e, hc⟩ := h i _ (List.getElem?_eq_getElem hi)
 injection e with e1
 injection e1 with e2 e3
 subst e2
 subst e3
 rw [Nat.zero_add] at hc
 rw [hc, List.getD_eq_getElem?_getD, List.getElem?_eq_getElem hi]
 rfl
set_option maxRecDepth 100000 in
set_option maxHeartbeats 1000000 in
theorem sign_any (seed : List UInt8) (hs : seed.length = 16) (l : List UInt8) (A : Option Addr) (c : Nat) (hl : l.length ≤ 100000) (hc : l.length ≤ c) (hcm : c ≤ maxLen) (w : World) (hsrc : SrcAt A l w) (env : DEnv w) :
  Calls Tryz.prog 70 #[.agg (bcells seed), .slice A l.length c] w fun e w' => ∃ X, e = .returned (.slice (some ⟨X, 0, none⟩) 35 35) ∧ w.heap.size ≤ X ∧ Shorts (some ⟨X, 0, none⟩) (sgn seed l) w' ∧ Below w.heap.size w w' := by
 have hdi := fun (V : World) (hb : Below w.heap.size w V) => digits_any l A c hl hc hcm V (hsrc.on hb) (env.on hb)
 have hlen := dig_len l
 have hle : ∀ i, (dig l).getD i 0 ≤ 15 := getD_le15 _ (dig_le l)
 have hsg : sgn seed l = (List.range 35).map fun i => chn seed i ((dig l).getD i 0) := rfl
 rw [hsg]
 obtain ⟨DG, hDG⟩ : ∃ DG, dig l = DG := ⟨_, rfl⟩
 rw [hDG] at hdi hlen hle ⊢
 obtain ⟨G, hG⟩ : ∃ G : Nat → List UInt8, ∀ i, chn seed i (DG.getD i 0) = G i := ⟨_, fun _ => rfl⟩
 have hG16 : ∀ i, (G i).length = 16 := fun i => by rw [← hG i]; exact chn_len _ _ _
 simp only [hG]
 have hcl := fun (S D X : Nat) (fr : Nat × Nat) (i : Nat) (hi : i < 35) (V : World) (hb : Below w.heap.size w V) (hS : V.heap[S]? = some (.cells (bcells seed) 41 fr)) (hD : V.cell? ⟨D, 0, none⟩ = some (.slice (some ⟨X, 0, none⟩) 35 35)) (hX : V.cell? ⟨X, i, none⟩ = some (.int .i64 ((DG.getD i 0 : Nat) : Int))) =>
  signcl_any seed hs S D X fr i (DG.getD i 0) hi (hle i) V hS hD hX (env.on hb)
 simp only [hG] at hcl
 obtain ⟨Z, hZ⟩ : ∃ Z, (List.range 35).map (fun i => G i) = Z := ⟨_, rfl⟩
 rw [hZ]
 have DI := Lib.hid hdi
 have CL := Lib.hid hcl
 have HG := Lib.hid hG16
 have HZ := Lib.hid hZ
 have HLEN := Lib.hid hlen
 obtain ⟨n, hn⟩ : ∃ n, l.length = n := ⟨_, rfl⟩
 rw [hn] at DI ⊢
 clear hdi hlen hle hsg hG hcl hZ hn hDG hG16 hsrc env hs
 go_enter Tryz.func70, Tryz.ntmps70
 go_wp2_with fail
 refine (DI.out _ (below_new _ _)).mono ?_
 rintro e w1 ⟨X, rfl, hX, hin, hb1⟩
 have HX := Lib.hid (Nat.le_trans (by simp) hX : w.heap.size ≤ X)
 have HIN := Lib.hid hin
 have HS1 := Lib.hid ((hb1.block w.heap.size (by simp)).trans (heap_alloc_new _ _))
 have HB1 := Lib.hid ((below_new w _).trans (hb1.mono (by simp)))
 clear hX hin hb1
 go_wp2_with fail
 obtain ⟨V, hV⟩ : ∃ V, w1.alloc (.cells #[.slice (some ⟨X, 0, none⟩) 35 35] 145) = V := ⟨_, rfl⟩
 rw [hV]
 have hb1 : Below w1.heap.size w1 V := by rw [← hV]; exact below_new _ _
 have hbV : Below w.heap.size w V := chain HB1.out hb1
 have hVS : V.heap[w.heap.size]? = some (.cells (bcells seed) 41 (0, 0)) := (hb1.block _ (Array.getElem?_eq_some_iff.1 HS1.out).1).trans HS1.out
 have hVD : V.cell? ⟨w1.heap.size, 0, none⟩ = some (.slice (some ⟨X, 0, none⟩) 35 35) := by
  rw [← hV, cell_of_row _ _ _ _ _ _ (heap_alloc_new _ _)]
  rfl
 have hVX : ∀ i, i < 35 → V.cell? ⟨X, i, none⟩ = some (.int .i64 ((DG.getD i 0 : Nat) : Int)) := fun i hi => (HIN.out.on hb1).at i (by rw [HLEN.out]; exact hi)
 have hca := climbAll_any 110 #[.pointer (some ⟨w.heap.size, 0, none⟩), .pointer (some ⟨w1.heap.size, 0, none⟩)] G HG.out V (enters_of Tryz.func110 (by kernel_rfl) rfl) Z HZ.out
  (fun i hi U hU => CL.out w.heap.size w1.heap.size X (0, 0) i hi U (chain hbV hU) ((hU.block _ (Array.getElem?_eq_some_iff.1 hVS).1).trans hVS) (by rw [hU.cell (World.block_lt_of_cell? _ _ hVD)]; exact hVD) (by rw [hU.cell (World.block_lt_of_cell? _ _ (hVX i hi))]; exact hVX i hi))
 have HCA := Lib.hid hca
 have HBV := Lib.hid hbV
 clear hV hb1 hbV hVS hVD hVX hca
 refine HCA.out.mono ?_
 rintro e w2 ⟨rfl, hsh, hb2⟩
 have HSH := Lib.hid hsh
 have HB2 := Lib.hid (chain HBV.out hb2)
 clear hsh hb2
 go_wp2_with fail
 go_ret
 exact ⟨V.heap.size, rfl, HBV.out.size, HSH.out, HB2.out⟩
set_option maxRecDepth 100000 in
set_option maxHeartbeats 1000000 in
theorem recovcl_any (x : List UInt8) (hx : x.length = 16) (C D X g o cc : Nat) (i d : Nat) (hi : i < 35) (hd : d ≤ 15) (w : World) (hC : w.cell? ⟨C, 0, none⟩ = some (.slice (some ⟨g, o, none⟩) 35 cc)) (hr : w.rangeAt g (o + i * 16) (bvals x)) (hD : w.cell? ⟨D, 0, none⟩ = some (.slice (some ⟨X, 0, none⟩) 35 35)) (hX : w.cell? ⟨X, i, none⟩ = some (.int .i64 (d : Int))) (env : DEnv w) :
  Calls Tryz.prog 128 #[.int .i64 (i : Int), .pointer (some ⟨C, 0, none⟩), .pointer (some ⟨D, 0, none⟩)] w fun e w' => e = .returned (.agg (bcells (clm x i d (15 - d)))) ∧ Below w.heap.size w w' := by
 have hcl := fun (V : World) (hb : Below w.heap.size w V) => climb_from x hx i d 15 (by omega) (by omega) w V env hb
 have hlR : (clm x i d (15 - d)).length = 16 := clm_len _ _ _ hx _
 obtain ⟨R, hR⟩ : ∃ R, clm x i d (15 - d) = R := ⟨_, rfl⟩
 rw [hR] at hcl hlR ⊢
 have CL := Lib.hid hcl
 have HSZ := Lib.hid (sz16 R hlR)
 have hso : (16 : Nat) = (bcells R).size := by rw [bcells_size, hlR]
 have HSO := Lib.hid hso
 have hltS : g < w.heap.size := rangeAt_lt hr (by intro e; have := congrArg List.length e; rw [bvals_len, hx] at this; cases this)
 have hltC : C < w.heap.size := World.block_lt_of_cell? _ _ hC
 have hltD : D < w.heap.size := World.block_lt_of_cell? _ _ hD
 have hltX : X < w.heap.size := World.block_lt_of_cell? _ _ hX
 have hi35 : (i : Int) < 35 := by omega
 have HX16 := Lib.hid hx
 have HR00 := Lib.hid hr
 clear hcl hR hlR hso hx env hr
 go_enter Tryz.func128, Tryz.ntmps128
 go_upto_region 1 with (fail)
 generalize hV : World.alloc w _ = v
 have hb0 : Below w.heap.size w v := by rw [← hV]; exact below_new _ _
 have hr0 : v.heap[w.heap.size]? = some (.cells (bcells (List.replicate 16 0)) 41 (0, 0)) := by rw [← hV]; exact (heap_alloc_new _ _).trans rfl
 have hsz0 : v.heap.size = w.heap.size + 1 := by rw [← hV]; simp
 have hs0 : v.rangeAt g (o + i * 16) (bvals x) := rangeAt_on HR00.out hb0
 have ac : v.cell? ⟨C, 0, none⟩ = some (.slice (some ⟨g, o, none⟩) 35 cc) := by rw [hb0.cell (p := ⟨C, 0, none⟩) hltC]; exact hC
 have a0 : v.cell? ⟨D, 0, none⟩ = some (.slice (some ⟨X, 0, none⟩) 35 35) := by rw [hb0.cell (p := ⟨D, 0, none⟩) hltD]; exact hD
 have a1 : v.cell? ⟨X, i, none⟩ = some (.int .i64 (d : Int)) := by rw [hb0.cell (p := ⟨X, i, none⟩) hltX]; exact hX
 have hRR := bcells_size R
 obtain ⟨RR, hR2⟩ : ∃ RR, bcells R = RR := ⟨_, rfl⟩
 have hone : RR.all (·.oneCell') = true := by rw [← hR2]; exact bcells_one _
 have hone2 : ∀ u ∈ RR.toList, u.oneCell' = true := fun u hu => (Array.all_eq_true_iff_forall_mem.1 hone) u (by simpa using hu)
 have HSZ2 := HSZ.out
 have hso2 := HSO.out
 rw [hR2] at CL HSZ2 hso2
 have ht0 : v.there w.heap.size 0 RR.size := there_row hr0 _ (by rw [bcells_size, ← hso2]; exact Nat.le_refl _)
 have hrow0 : RowOf w.heap.size RR.size v := ⟨_, hr0, by rw [bcells_size, ← hso2]; rfl⟩
 have hS0 : Below w.heap.size w v.drew ∧ v.drew.rangeAt g (o + i * 16) (bvals x) ∧ v.drew.cell? ⟨C, 0, none⟩ = some (.slice (some ⟨g, o, none⟩) 35 cc) ∧ v.drew.cell? ⟨D, 0, none⟩ = some (.slice (some ⟨X, 0, none⟩) 35 35) ∧ v.drew.cell? ⟨X, i, none⟩ = some (.int .i64 (d : Int)) ∧ v.drew.there w.heap.size 0 RR.size ∧ RowOf w.heap.size RR.size v.drew := ⟨hb0.drew, hs0, ac, a0, a1, ht0, hrow0⟩
 have hu25 := Tryz.underlying41
 have hi25 : (Tryz.prog.info? 41).map (·.size) = some (bvals x).length := by rw [bvals_len, HX16.out]; kernel_rfl
 have HS00 := Lib.hid hS0
 have HR2 := Lib.hid hR2
 have HR0 := Lib.hid hr0
 have HLT := Lib.hid (And.intro hltS (And.intro hltC (And.intro hltD hltX)))
 have HSO2 := Lib.hid hso2
 clear hso2 hV hb0 hr0 hltD hltX hltS hltC hD hX hC hs0 a0 a1 ac ht0 hS0 hrow0 hR2 hRR HSZ
 go_region_held3 (fun z => Below w.heap.size w z ∧ z.rangeAt g (o + i * 16) (bvals x) ∧ z.cell? ⟨C, 0, none⟩ = some (.slice (some ⟨g, o, none⟩) 35 cc) ∧ z.cell? ⟨D, 0, none⟩ = some (.slice (some ⟨X, 0, none⟩) 35 35) ∧ z.cell? ⟨X, i, none⟩ = some (.int .i64 (d : Int)) ∧ z.there w.heap.size 0 RR.size ∧ RowOf w.heap.size RR.size z)
  (first | assumption | exact HS00.out | exact keepS HS00.out hb7 | exact keepS (by assumption) hb7 | exact keepW _ HLT.out.1 HLT.out.2.1 HLT.out.2.2.1 HLT.out.2.2.2 (by assumption))
  (first | (go_at_call 106; refine (CL.out _ (by first | assumption | exact And.left (by assumption))).mono ?_; rintro e w7 ⟨rfl, hb7⟩))
 rename_i hhd
 have r7 := (hb7.block w.heap.size (by show w.heap.size < v.heap.size; omega)).trans HR0.out
 have r8 := row_setCells (cs := RR) r7 (by rw [bcells_size, ← HSO2.out]; rfl)
 have HB8 := Lib.hid hhd.1
 have HR8 := Lib.hid r8
 clear r7 r8 hhd hb7
 generalize World.setCells _ _ _ _ = z at HB8 HR8 ⊢
 go_wp2_with fail
 rw [HR2.out]
 refine bodyPost_ret (v := .agg RR) (results_cell_row rfl _ _ w.heap.size 41 _ (0, 0) _ rfl HR8.out Tryz.underlying41 rfl HSZ2) rfl ⟨rfl, HB8.out⟩
end Go.Proofs.YtcgffkkfeimifaaGreatDoor
namespace Go.Proofs.YtcgffkkfeimifaaGreatDoor
open Go.RowKit Sha Ots
set_option linter.unusedVariables false
set_option linter.unusedSimpArgs false
theorem results_two {fn : Func} {p q : Tmp} {ty : TypeId} (h : fn.results = #[.cell p ty, .tmp q]) (tmps : Array Value) (w : World) (g : Nat) (t : TypeId) (cs : Array Value) (fr : Nat × Nat) (n : Nat) (el : TypeId) (u : Value)
  (hp : tmps.getD p undef = .pointer (some ⟨g, 0, none⟩)) (hq : tmps.getD q undef = u) (hg : w.heap[g]? = some (.cells cs t fr))
  (hu : Tryz.prog.underlying ty = some (.array n el)) (hi : (Tryz.prog.info? ty).map (·.size) = some cs.size) :
  (results fn tmps).run Tryz.prog w = .ok (.tuple #[.agg cs, u]) w := by
 have hp' : tmps[p]?.getD undef = .pointer (some ⟨g, 0, none⟩) := by simpa using hp
 have hq' : tmps[q]?.getD undef = u := by simpa using hq
 simp [results, h, hp', hq', asAddr, run_loadVar_row w g t ty cs fr _ hg hu rfl hi]
theorem key_len (m : List UInt8) (l : List (List UInt8)) : (key m l).length = 16 := sh_len _
set_option maxRecDepth 100000 in
set_option maxHeartbeats 1000000 in
theorem recover_any (l : List UInt8) (A : Option Addr) (c : Nat) (hl : l.length ≤ 100000) (hc : l.length ≤ c) (hcm : c ≤ maxLen) (ls : List (List UInt8)) (CA : Option Addr) (cc : Nat) (h35 : ls.length = 35) (w : World) (hsrc : SrcAt A l w) (hsh : Shorts CA ls w) (env : DEnv w) :
  Calls Tryz.prog 91 #[.slice A l.length c, .slice CA ls.length cc] w fun e w' => e = .returned (.tuple #[.agg (bcells (key l ls)), .int .i64 0]) ∧ Below w.heap.size w w' := by
 have hdi := fun (V : World) (hb : Below w.heap.size w V) => digits_any l A c hl hc hcm V (hsrc.on hb) (env.on hb)
 have hlen := dig_len l
 have hle : ∀ i, (dig l).getD i 0 ≤ 15 := getD_le15 _ (dig_le l)
 have hkey : key l ls = sh (enD (dig l) ls).flatten := rfl
 have hK16 := key_len l ls
 obtain ⟨DG, hDG⟩ : ∃ DG, dig l = DG := ⟨_, rfl⟩
 rw [hDG] at hdi hlen hle hkey
 have hat : ∀ i, i < 35 → ∃ x, ls[i]? = some x ∧ ls.getD i [] = x ∧ x.length = 16 := fun i hi => by
  have h := List.getElem?_eq_getElem (show i < ls.length by omega)
  refine ⟨_, h, by rw [List.getD_eq_getElem?_getD, h]; rfl, hsh.len _ (List.mem_of_getElem? h)⟩
 obtain ⟨G, hG⟩ : ∃ G : Nat → List UInt8, ∀ i, G i = if i < 35 then clm (ls.getD i []) i (DG.getD i 0) (15 - DG.getD i 0) else List.replicate 16 0 := ⟨_, fun _ => rfl⟩
 have hG16 : ∀ i, (G i).length = 16 := fun i => by
  rw [hG i]
  by_cases hi : i < 35
  ·
   rw [if_pos hi]
   obtain ⟨x, _, e, h16⟩ := hat i hi
   rw [e]
   exact clm_len _ _ _ h16 _
  ·
   rw [if_neg hi]
   rfl
 have hend : enD DG ls = (List.range 35).map G := by
  unfold enD
  refine List.map_congr_left fun i hi => ?_
  rw [hG i, if_pos (List.mem_range.1 hi)]
 obtain ⟨g, o, hCA, hrg0⟩ := hsh.row 0 _ (List.getElem?_eq_getElem (show 0 < ls.length by omega))
 subst hCA
 clear hrg0
 have hcl := fun (C D X : Nat) (i : Nat) (hi : i < 35) (V : World) (hb : Below w.heap.size w V) (hC : V.cell? ⟨C, 0, none⟩ = some (.slice (some ⟨g, o, none⟩) 35 cc)) (hD : V.cell? ⟨D, 0, none⟩ = some (.slice (some ⟨X, 0, none⟩) 35 35)) (hX : V.cell? ⟨X, i, none⟩ = some (.int .i64 ((DG.getD i 0 : Nat) : Int))) => (by
  obtain ⟨x, hx, e, h16⟩ := hat i hi
  obtain ⟨g2, o2, e2, hrg⟩ := hsh.row i x hx
  injection e2 with e3
  injection e3 with e4 e5
  subst e4
  subst e5
  rw [Nat.mul_comm] at hrg
  have h := recovcl_any x h16 C D X g o cc i (DG.getD i 0) hi (hle i) V hC (rangeAt_on hrg hb) hD hX (env.on hb)
  rw [← e] at h
  rw [hG i, if_pos hi]
  exact h : Calls Tryz.prog 128 #[.int .i64 (i : Int), .pointer (some ⟨C, 0, none⟩), .pointer (some ⟨D, 0, none⟩)] V fun e w' => e = .returned (.agg (bcells (G i))) ∧ Below V.heap.size V w')
 obtain ⟨Z, hZ⟩ : ∃ Z, (List.range 35).map G = Z := ⟨_, rfl⟩
 have hZl : Z.length = 35 := by rw [← hZ, List.length_map, List.length_range]
 have hke := fun (V : World) (hb : Below w.heap.size w V) (A : Option Addr) (hsA : Shorts A Z V) => key_any Z A 35 (by omega) V hsA (env.on hb)
 rw [hend, hZ] at hkey
 rw [hkey] at hK16 ⊢
 obtain ⟨R, hR⟩ : ∃ R, sh Z.flatten = R := ⟨_, rfl⟩
 rw [hR, hZl] at hke
 rw [hR] at hK16 ⊢
 have DI := Lib.hid hdi
 have CL := Lib.hid hcl
 have KE := Lib.hid hke
 have HG := Lib.hid hG16
 have HZ := Lib.hid hZ
 have HLEN := Lib.hid hlen
 have HSZ := Lib.hid (sz16 R hK16)
 have hso : (16 : Nat) = (bcells R).size := by rw [bcells_size, hK16]
 have HSO := Lib.hid hso
 rw [h35]
 obtain ⟨n, hn⟩ : ∃ n, l.length = n := ⟨_, rfl⟩
 rw [hn] at DI ⊢
 clear hdi hlen hle hkey hK16 hDG hat hG hG16 hend hcl hZ hZl hke hR hso hn hsrc hsh env h35
 go_enter Tryz.func91, Tryz.ntmps91
 go_upto_region 1 with (fail)
 generalize hV : World.alloc (World.alloc w _) _ = V
 have hb0 : Below w.heap.size w V := by rw [← hV]; exact (below_new _ _).alloc (by simp) _
 have hr0 : V.cell? ⟨w.heap.size, 0, none⟩ = some (.slice (some ⟨g, o, none⟩) 35 cc) := by
  rw [← hV, cell_of_row _ _ _ _ _ _ (heap_alloc2_old _ _ _)]
  rfl
 have hr1 : V.heap[w.heap.size + 1]? = some (.cells (bcells (List.replicate 16 0)) 41 (0, 0)) := by rw [← hV]; exact (heap_alloc2_new _ _ _).trans rfl
 have HB0 := Lib.hid hb0
 have HR1 := Lib.hid hr1
 have HR0 := Lib.hid hr0
 clear hV hb0 hr1
 go_wp2_with fail
 refine (DI.out _ HB0.out).mono ?_
 rintro e w1 ⟨X, rfl, hX, hin, hb1⟩
 have HIN := Lib.hid hin
 have hlt1 := (Array.getElem?_eq_some_iff.1 HR1.out).1
 have HR2 := Lib.hid ((hb1.block _ hlt1).trans HR1.out)
 have HC2 : RowKit.Hid (w1.cell? ⟨w.heap.size, 0, none⟩ = some (.slice (some ⟨g, o, none⟩) 35 cc)) := Lib.hid (by rw [hb1.cell (World.block_lt_of_cell? _ _ HR0.out)]; exact HR0.out)
 have HB1 := Lib.hid (chain HB0.out (hb1.mono (Nat.le_refl _)))
 clear hX hin hb1 hlt1 hr0
 go_wp2_with fail
 obtain ⟨V3, hV⟩ : ∃ V3, w1.alloc (.cells #[.slice (some ⟨X, 0, none⟩) 35 35] 145) = V3 := ⟨_, rfl⟩
 rw [hV]
 have hb1 : Below w1.heap.size w1 V3 := by rw [← hV]; exact below_new _ _
 have hbV : Below w.heap.size w V3 := chain HB1.out hb1
 have hVR : V3.heap[w.heap.size + 1]? = some (.cells (bcells (List.replicate 16 0)) 41 (0, 0)) := (hb1.block _ (Array.getElem?_eq_some_iff.1 HR2.out).1).trans HR2.out
 have hVC : V3.cell? ⟨w.heap.size, 0, none⟩ = some (.slice (some ⟨g, o, none⟩) 35 cc) := by rw [hb1.cell (World.block_lt_of_cell? _ _ HC2.out)]; exact HC2.out
 have hVD : V3.cell? ⟨w1.heap.size, 0, none⟩ = some (.slice (some ⟨X, 0, none⟩) 35 35) := by
  rw [← hV, cell_of_row _ _ _ _ _ _ (heap_alloc_new _ _)]
  rfl
 have hVX : ∀ i, i < 35 → V3.cell? ⟨X, i, none⟩ = some (.int .i64 ((DG.getD i 0 : Nat) : Int)) := fun i hi => (HIN.out.on hb1).at i (by rw [HLEN.out]; exact hi)
 have hca := climbAll_any 128 #[.pointer (some ⟨w.heap.size, 0, none⟩), .pointer (some ⟨w1.heap.size, 0, none⟩)] G HG.out V3 (enters_of Tryz.func128 (by kernel_rfl) rfl) Z HZ.out
  (fun i hi U hU => CL.out w.heap.size w1.heap.size X i hi U (chain hbV hU) (by rw [hU.cell (World.block_lt_of_cell? _ _ hVC)]; exact hVC) (by rw [hU.cell (World.block_lt_of_cell? _ _ hVD)]; exact hVD) (by rw [hU.cell (World.block_lt_of_cell? _ _ (hVX i hi))]; exact hVX i hi))
 have HCA := Lib.hid hca
 have HBV := Lib.hid hbV
 have HVR := Lib.hid hVR
 clear hV hb1 hbV hVR hVC hVD hVX hca
 refine HCA.out.mono ?_
 rintro e w2 ⟨rfl, hsh, hb2⟩
 have HSH := Lib.hid hsh
 have HR3 := Lib.hid ((hb2.block _ (Array.getElem?_eq_some_iff.1 HVR.out).1).trans HVR.out)
 have HB2 := Lib.hid (chain HBV.out hb2)
 clear hsh hb2
 go_wp2_with fail
 refine (KE.out _ HB2.out _ HSH.out).mono ?_
 rintro e w3 ⟨rfl, hb3⟩
 have HR4 := Lib.hid ((hb3.block _ (Array.getElem?_eq_some_iff.1 HR3.out).1).trans HR3.out)
 have HB3 := Lib.hid (chain HB2.out hb3)
 clear hb3
 go_wp2_with (refine wpList_store_row rfl 41 (.tmp 4) (.tmp 17) rfl (w.heap.size + 1) (bcells R) rfl rfl 41 _ HR4.out HSZ.out HSO.out (bcells_one _) ?_)
 refine bodyPost_ret (v := .tuple #[.agg (bcells R), .int .i64 0]) (results_two rfl _ _ (w.heap.size + 1) 41 _ (0, 0) _ _ _ rfl rfl (setRow_heap _ _ _ _ _ _ HR4.out) Tryz.underlying41 HSZ.out) rfl ⟨rfl, ?_⟩
 exact below_row HB3.out (by omega) _
end Go.Proofs.YtcgffkkfeimifaaGreatDoor
