import Derived.Test.YtcgffkkfeimifaaGreatDoorMkOP
import Derived.Test.YtcgffkkfeimifaaGreatDoorSgA
import Derived.Maps.AppendAt
namespace Go.Proofs.YtcgffkkfeimifaaGreatDoor
open Go.RowKit Sha Ots
set_option linter.unusedVariables false
set_option linter.unusedSimpArgs false
set_option maxRecDepth 100000 in
set_option maxHeartbeats 1000000 in
theorem power_ref (h : Nat) (hh : h ≤ 4) (w : World) :
  Calls Tryz.prog 81 #[.int .i64 (h : Int)] w fun e w' => e = .returned (.int .i64 ((2 ^ h : Nat) : Int)) ∧ Below w.heap.size w w' := by
 have hP0 : 2 ^ 0 = 1 := rfl
 have hPs : ∀ k, 2 ^ (k + 1) = 2 ^ k + 2 ^ k := fun k => by rw [Nat.pow_succ]; omega
 have hPm : ∀ k, k ≤ h → 2 ^ k ≤ 16 := fun k hk => by
  have := Nat.pow_le_pow_right (show 0 < 2 by decide) (show k ≤ 4 by omega)
  simpa using this
 obtain ⟨P, hP⟩ : ∃ P : Nat → Nat, ∀ k, 2 ^ k = P k := ⟨_, fun _ => rfl⟩
 simp only [hP] at hP0 hPs hPm ⊢
 have HP0 := Lib.hid hP0
 have HPS := Lib.hid hPs
 have HPM := Lib.hid hPm
 have HZ := Lib.hid (Below.refl w.heap.size w)
 have HH := Lib.hid hh
 clear hP0 hPs hPm hP hh
 go_enter Tryz.func81, Tryz.ntmps81
 go_wp2_with fail
 go_loopw [3, 4] (fun nn ix wr => ∃ k : Nat, k ≤ h ∧ ix = .int .i64 (k : Int) ∧ nn = .int .i64 (P k : Int) ∧ RowKit.Hid (Below w.heap.size w wr)) (fun _ ix _ => h - (intOf ix).toNat)
 case atStart => exact ⟨0, by omega, rfl, by rw [HP0.out]; rfl, HZ⟩
 case round =>
  clear HZ
  obtain ⟨k, hk, rfl, rfl, HB⟩ := hrel
  by_cases hlt : k < h
  ·
   have hki : (k : Int) < (h : Int) := by omega
   have h4 := HH.out
   have h5 := HPM.out k hk
   go_wp2_with fail
   refine ⟨⟨k + 1, by omega, by go_num, ?_, HB⟩, by simp [intOf]; omega⟩
   rw [HPS.out k]
   go_num
  ·
   have hkk : k = h := by omega
   subst hkk
   have hge : ¬ (k : Int) < (k : Int) := by omega
   go_wp2_with fail
   go_ret
   exact ⟨rfl, HB.out⟩
end Go.Proofs.YtcgffkkfeimifaaGreatDoor
namespace Go.Proofs.YtcgffkkfeimifaaGreatDoor
open Go.RowKit Sha Ots
theorem check_ref (h n : Int) (CA PA : Option Addr) (cl cc pl pc : Nat) (w : World) :
  Calls Tryz.prog 118 #[.int .i64 h, .agg #[.int .i64 n, .slice CA cl cc, .slice PA pl pc]] w fun e w' => e = .returned (.int .i64 (chkV h n cl pl)) ∧ Below w.heap.size w w' :=
 Sg.check_ref h n CA PA cl cc pl pc w
end Go.Proofs.YtcgffkkfeimifaaGreatDoor
namespace Go.Proofs.YtcgffkkfeimifaaGreatDoor
open Go.RowKit Sha Ots
set_option linter.unusedVariables false
set_option linter.unusedSimpArgs false
def AddPost (base : Nat) (L l : List UInt8) (w : World) (e : Ending) (w' : World) : Prop := ∃ v', e = .returned v' ∧ w'.ownsRow base 5 1 v' (L ++ l).length (bvals (L ++ l)) ∧ Below base w w'
set_option maxRecDepth 100000 in
set_option maxHeartbeats 2000000 in
theorem add_ref (l L : List UInt8) (hl : l.length = 16) (hL : L.length ≤ 1000) (base : Nat) (v : Value) (w : World) (hbase : base ≤ w.heap.size) (hown : w.ownsRow base 5 1 v L.length (bvals L)) :
  Calls Tryz.prog 122 #[v, .agg (bcells l)] w (AddPost base L l w) := by
 obtain ⟨i0, hi, hz0, hz1, hz2⟩ := info_parts Tryz.info_byte
 have HI := Lib.hid hi
 have HL16 := Lib.hid hl
 have HLL := Lib.hid hL
 have HBS := Lib.hid hbase
 have hown1 := hown.alloc (.cells (bcells l) 41)
 have HO0 : RowKit.Hid ((w.alloc (.cells (bcells l) 41)).ownsRow base 5 1 v (L ++ l.take 0).length (bvals (L ++ l.take 0))) := Lib.hid (by rw [List.take_zero, List.append_nil]; exact hown1)
 have HNE0 : RowKit.Hid (∀ j, Value.ownBlock v = some j → base ≤ j ∧ j ≠ w.heap.size) := Lib.hid (fun j hj => by have := own_ge7 hown hj; omega)
 have HB0 : RowKit.Hid (Below base w (w.alloc (.cells (bcells l) 41)) ∧ w.heap.size < (w.alloc (.cells (bcells l) 41)).heap.size ∧ (w.alloc (.cells (bcells l) 41)).heap[w.heap.size]? = some (.cells (bcells l) 41 (0, 0))) := Lib.hid ⟨(Below.refl _ _).alloc hbase _, by simp, heap_alloc_new _ _⟩
 clear hl hL hown hown1 hbase hi
 go_enter Tryz.func122, Tryz.ntmps122
 go_wp2_with fail
 go_loopw [0, 5] (fun v i wr => ∃ k : Nat, k ≤ 16 ∧ i = .int .i64 (k : Int) ∧ RowKit.Hid (wr.ownsRow base 5 1 v (L ++ l.take k).length (bvals (L ++ l.take k))) ∧ RowKit.Hid (∀ j, Value.ownBlock v = some j → base ≤ j ∧ j ≠ w.heap.size) ∧ RowKit.Hid (Below base w wr ∧ w.heap.size < wr.heap.size ∧ wr.heap[w.heap.size]? = some (.cells (bcells l) 41 (0, 0)))) (fun _ i _ => 16 - (intOf i).toNat)
 case atStart => exact ⟨0, by omega, rfl, HO0, HNE0, HB0⟩
 case round =>
  clear HO0 HNE0 HB0
  obtain ⟨k, hk, rfl, HO, HNE, HB⟩ := hrel
  by_cases hlt : k < 16
  ·
   have hki : (k : Int) < 16 := by omega
   have hc : wr.cell? ⟨w.heap.size, k, none⟩ = some (.int .u8 ((l.getD k 0).toNat : Int)) := by
    rw [cell_of_row _ _ _ _ _ _ HB.out.2.2, bcells_at _ _ (by rw [HL16.out]; exact hlt)]
   have hts := take_snoc7 l k (by rw [HL16.out]; exact hlt)
   obtain ⟨y, hy⟩ : ∃ y, l.getD k 0 = y := ⟨_, rfl⟩
   rw [hy] at hc hts
   have HTS := Lib.hid hts
   have HDL : RowKit.Hid ((L ++ l.take k).length ≤ 1016) := Lib.hid (by have := HLL.out; rw [List.length_append, List.length_take, HL16.out]; omega)
   clear hts hy
   go_wp2_with (at_builtin; go_loud (refine wpList_append_own_at _ rfl (.tmp 10) (.tmp 14) 34 rfl base 5 i0 (.int .u8 0) 1 1 Tryz.underlying34 HI.out hz0 hz1 hz2 rfl (by decide) _ _ _ rfl (HO.out.alloc _) ⟨wr.heap.size, 0, none⟩ 1 1 [.int .u8 (y.toNat : Int)] rfl rfl (cell_one_new _ _ _) (by simp [Value.oneCell']) (by have := HDL.out; unfold maxLen; omega) (by have := HDL.out; omega) (by have h1 := HBS.out; have h2 := HB.out.2.1; simp; omega) ?_); intro v' w5 hown5 hgrow5 _ hloc5; have HO5 := Lib.hid hown5; have HG5 := Lib.hid hgrow5; have HLC := Lib.hid hloc5; clear hown5 hgrow5 hloc5)
   have h9 := HB.out.2.1
   have h8 := HBS.out
   have hsz5 := HG5.out.size
   rw [World.size_alloc] at hsz5
   refine ⟨⟨k + 1, by omega, by go_num, Lib.hid ?_, Lib.hid ?_, Lib.hid ⟨(HB.out.1.alloc (by omega) _).grown HG5.out (by simp; omega) (fun j hj => (HNE.out j hj).1), by omega, ?_⟩⟩, by simp [intOf]; omega⟩
   ·
    have hle : (L ++ l.take k ++ [y]).length = (L ++ l.take k).length + 1 := by rw [List.length_append]; rfl
    rw [HTS.out, ← List.append_assoc, hle, bvals_app (L ++ l.take k)]
    exact HO5.out
   ·
    intro j hj
    rcases HLC.out with h | h
    ·
     rw [h] at hj
     exact HNE.out j hj
    ·
     rw [h, World.size_alloc] at hj
     have := Option.some.inj hj
     omega
   ·
    rw [HG5.out.block w.heap.size (by simp; omega) (fun e => (HNE.out _ e.symm).2 rfl), Below.heap_alloc _ _ _ (by omega)]
    exact HB.out.2.2
  ·
   have hkk : k = 16 := by omega
   subst hkk
   have hge : ¬ ((16 : Nat) : Int) < 16 := by omega
   have hl16 : l.take 16 = l := List.take_of_length_le (by rw [HL16.out]; exact Nat.le_refl _)
   rw [hl16] at HO
   clear hl16
   go_wp2_with fail
   go_ret
   exact ⟨_, rfl, HO.out, HB.out.1⟩
end Go.Proofs.YtcgffkkfeimifaaGreatDoor
namespace Go.Proofs.YtcgffkkfeimifaaGreatDoor
open Go.RowKit Sha Ots
set_option linter.unusedVariables false
set_option linter.unusedSimpArgs false
theorem own_row1r {w : World} {Y : Nat} {x : UInt8} (hY : w.heap[Y]? = some (.cells (bcells [x]) 5 (0, 0))) : w.ownsRow Y 5 1 (.slice (some ⟨Y, 0, none⟩) 1 1) 1 (bvals [x]) :=
 ⟨rfl, .inr ⟨Y, 1, bcells [x], rfl, Nat.le_refl _, hY, Nat.le_refl _, by decide, rfl, rfl⟩⟩
theorem rangeAt_row0 {z : World} {X : Nat} {F : List UInt8} {T : TypeId} {fr : Nat × Nat} (h : z.heap[X]? = some (.cells (bcells F) T fr)) : z.rangeAt X 0 (bvals F) := fun j v hv => by
 rw [Nat.zero_add, cell_of_row _ _ _ _ _ _ h]
 unfold bcells
 rw [List.getElem?_toArray]
 exact hv
theorem short_ref_own (F : List UInt8) (hF : F.length ≤ 100000) (b : Nat) (V : World) (v : Value) (ho : V.ownsRow b 5 1 v F.length (bvals F)) : Calls Tryz.prog 121 #[v] V fun e w' => e = .returned (.agg (bcells (sh F))) ∧ Below V.heap.size V w' := by
 obtain ⟨A, c, rfl, h1, h2, h3, h4⟩ := own_rd7 ho
 exact short_ref _ A c hF h1 h3 V h4

theorem rangeAt_far {z : World} {X Y : Nat} {cs : List Value} (h : z.rangeAt X 0 cs) (o : Nat) (vs : List Value) (hne : X ≠ Y) : (z.setCells Y o vs).rangeAt X 0 cs :=
 World.rangeAt_setCells_apart h _ _ _ (.inl hne)
set_option maxRecDepth 100000 in
set_option maxHeartbeats 4000000 in
theorem joined7_ref (a b : List UInt8) (ha : a.length = 16) (hb : b.length = 16) (w : World) :
  Calls Tryz.prog 124 #[.agg (bcells a), .agg (bcells b)] w fun e w' => e = .returned (.agg (bcells (jn a b))) ∧ Below w.heap.size w w' := by
 have hjn : jn a b = sh (([1] ++ a) ++ b) := by unfold jn; rw [List.append_assoc, List.singleton_append]
 have hsho : ∀ (g : Nat) (V : World) (v : Value), V.ownsRow g 5 1 v (([1] ++ a) ++ b).length (bvals (([1] ++ a) ++ b)) → Calls Tryz.prog 121 #[v] V fun e w' => e = .returned (.agg (bcells (jn a b))) ∧ Below V.heap.size V w' := fun g V v ho => by rw [hjn]; exact short_ref_own (([1] ++ a) ++ b) (by rw [List.length_append, List.length_append, ha, hb]; decide) g V v ho
 obtain ⟨F, hF⟩ : ∃ F, jn a b = F := ⟨_, rfl⟩
 have hF16 : F.length = 16 := by rw [← hF]; exact jn_len _ _
 rw [hF] at hsho ⊢
 have SHO := Lib.hid hsho
 have HSZ := Lib.hid (sz16 F hF16)
 have hso : (16 : Nat) = (bcells F).size := by rw [bcells_size, hF16]
 have HSO := Lib.hid hso
 have HA16 := Lib.hid ha
 have HB16 := Lib.hid hb
 have hia : (Tryz.prog.info? 41).map (·.size) = some (bvals a).length := by rw [bvals_len, ha]; kernel_rfl
 have hib : (Tryz.prog.info? 41).map (·.size) = some (bvals b).length := by rw [bvals_len, hb]; kernel_rfl
 have HIA := Lib.hid hia
 have HIB := Lib.hid hib
 have hu := Tryz.underlying41
 clear hsho hjn hF hF16 hso ha hb hia hib
 go_enter Tryz.func124, Tryz.ntmps124
 go_upto_region 1 with (fail)
 generalize hV : World.alloc (World.alloc (World.alloc w _) _) _ = V
 have hb0 : Below w.heap.size w V := by rw [← hV]; exact below3 _ _ _ _
 have hr0 : V.heap[w.heap.size]? = some (.cells (bcells a) 41 (0, 0)) := by rw [← hV]; exact heap3_first _ _ _ _
 have hr1 : V.heap[w.heap.size + 1]? = some (.cells (bcells b) 41 (0, 0)) := by rw [← hV]; exact heap3_mid _ _ _ _
 have hr2 : V.heap[w.heap.size + 2]? = some (.cells (bcells (List.replicate 16 0)) 41 (0, 0)) := by rw [← hV]; exact (heap3_last _ _ _ _).trans rfl
 have HB0 := Lib.hid hb0
 have HR0 := Lib.hid hr0
 have HR1 := Lib.hid hr1
 have HR2 := Lib.hid hr2
 have hS0 : V.drew.rangeAt w.heap.size 0 (bvals a) ∧ V.drew.rangeAt (w.heap.size + 1) 0 (bvals b) := ⟨rangeAt_on (rangeAt_row0 hr0) (Below.refl _ _).drew, rangeAt_on (rangeAt_row0 hr1) (Below.refl _ _).drew⟩
 clear hV hb0 hr0 hr1 hr2
 refine wp_region_held_drew (S := fun z => z.rangeAt w.heap.size 0 (bvals a) ∧ z.rangeAt (w.heap.size + 1) 0 (bvals b)) (by kernel_rfl) hS0 (fun hHeld => ?_)
 clear hS0
 obtain ⟨U, hU⟩ : ∃ U, V.drew = U := ⟨_, rfl⟩
 rw [hU] at hHeld ⊢
 have hbU : Below V.heap.size V U := by rw [← hU]; exact (Below.refl _ _).drew
 have HBU := Lib.hid (chain HB0.out hbU)
 have HRA := Lib.hid (row_on7 HR0.out hbU)
 have HRB := Lib.hid (row_on7 HR1.out hbU)
 have HRC := Lib.hid (row_on7 HR2.out hbU)
 have mkS : ∀ z, Below U.heap.size U z → z.rangeAt w.heap.size 0 (bvals a) ∧ z.rangeAt (w.heap.size + 1) 0 (bvals b) := fun z hz => ⟨rangeAt_row0 (row_on7 HRA.out hz), rangeAt_row0 (row_on7 HRB.out hz)⟩
 clear hU hbU HB0 HR0 HR1 HR2
 refine wpAnyH_take (i := 1) (oi := { dst := some 6, op := .load 41 (.tmp 2), type := 41, pos := "ref.go:41", after := #[], guard := none }) (v := .agg (bvals a).toArray) rfl (by kernel_rfl) (by kernel_rfl) (by kernel_rfl) (fun _ _ _ h => h) (yieldsIf_load_mid (by rfl) _ _ rfl _ _ rfl (bvals a) _ (fun w hSw => hSw.1) hu rfl HIA.out) hHeld ?_
 try simp only [Act.put, List.setIfInBounds_toArray, List.set_cons_zero, List.set_cons_succ]
 refine wpAnyH_take (i := 3) (oi := { dst := some 8, op := .load 41 (.tmp 3), type := 41, pos := "ref.go:41", after := #[], guard := none }) (v := .agg (bvals b).toArray) rfl (by kernel_rfl) (by kernel_rfl) (by kernel_rfl) (fun _ _ _ h => h) (yieldsIf_load_mid (by rfl) _ _ rfl _ _ rfl (bvals b) _ (fun w hSw => hSw.2) hu rfl HIB.out) hHeld ?_
 try simp only [Act.put, List.setIfInBounds_toArray, List.set_cons_zero, List.set_cons_succ]
 refine wpAnyH_ready (rs := [0]) (by kernel_rfl) (by simp) (AllReadyH.cons (o := { dst := some 5, op := .buildSlice 34 1 #[(0, .const (.int .u8 1))], type := 34, pos := "ref.go:41", after := #[], guard := none }) rfl (fun K hK => ?_) AllReadyH.nil)
 go_simp
 generalize hz : World.alloc U _ = z0
 have hr0 : z0.heap[U.heap.size]? = some (.cells (bcells [1]) 5 (0, 0)) := by rw [← hz]; exact heap_alloc_new _ _
 have hb0 : Below U.heap.size U z0 := by rw [← hz]; exact below_new _ _
 clear hz
 refine hK.out _ _ (mkS _ hb0) (fun hHeld2 => ?_)
 clear hK K
 clear hHeld
 have hHeld := hHeld2
 clear hHeld2
 try simp only [Act.put, List.setIfInBounds_toArray, List.set_cons_zero, List.set_cons_succ]
 refine wpAnyH_ready (rs := [2]) (by kernel_rfl) (by simp) (AllReadyH.cons (o := { dst := some 7, op := .call { callee := .value (.func 122), args := #[.tmp 5, .tmp 6], argTypes := #[34, 41] }, type := 34, pos := "ref.go:41", after := #[{ on := 0, ground := .data }, { on := 1, ground := .data }], guard := none }) rfl (fun K hK => ?_) AllReadyH.nil)
 go_simp
 refine (add_ref a [1] HA16.out (by decide) U.heap.size _ z0 hb0.size (own_row1r hr0)).mono ?_
 rintro e z1 ⟨v1, rfl, ho1, hg1⟩
 have hb1 : Below U.heap.size U z1 := hb0.trans hg1
 go_simp
 refine hK.out _ _ (mkS _ hb1) (fun hHeld2 => ?_)
 clear hK K
 clear hHeld
 have hHeld := hHeld2
 clear hHeld2
 try simp only [Act.put, List.setIfInBounds_toArray, List.set_cons_zero, List.set_cons_succ]
 refine wpAnyH_ready (rs := [4]) (by kernel_rfl) (by simp) (AllReadyH.cons (o := { dst := some 9, op := .call { callee := .value (.func 122), args := #[.tmp 7, .tmp 8], argTypes := #[34, 41] }, type := 34, pos := "ref.go:41", after := #[{ on := 2, ground := .data }, { on := 3, ground := .data }, { on := 2, ground := .chain }], guard := none }) rfl (fun K hK => ?_) AllReadyH.nil)
 go_simp
 refine (add_ref b ([1] ++ a) HB16.out (by rw [List.length_append, HA16.out]; decide) U.heap.size v1 z1 hb1.size ho1).mono ?_
 rintro e z2 ⟨v2, rfl, ho2, hg2⟩
 have hb2 : Below U.heap.size U z2 := hb1.trans hg2
 go_simp
 refine hK.out _ _ (mkS _ hb2) (fun hHeld2 => ?_)
 clear hK K
 clear hHeld
 have hHeld := hHeld2
 clear hHeld2
 try simp only [Act.put, List.setIfInBounds_toArray, List.set_cons_zero, List.set_cons_succ]
 refine wpAnyH_ready (rs := [5]) (by kernel_rfl) (by simp) (AllReadyH.cons (o := { dst := some 10, op := .call { callee := .value (.func 121), args := #[.tmp 9], argTypes := #[34] }, type := 41, pos := "ref.go:41", after := #[{ on := 4, ground := .data }, { on := 4, ground := .chain }], guard := none }) rfl (fun K hK => ?_) AllReadyH.nil)
 go_simp
 refine (SHO.out _ z2 v2 ho2).mono ?_
 rintro e z3 ⟨rfl, hb3⟩
 have hb4 : Below U.heap.size U z3 := hb2.trans (hb3.mono hb2.size)
 have HR3 := Lib.hid (row_on7 HRC.out hb4)
 go_simp
 refine hK.out _ _ (mkS _ hb4) (fun hHeld2 => ?_)
 clear hK K
 clear hHeld
 have hHeld := hHeld2
 clear hHeld2
 try simp only [Act.put, List.setIfInBounds_toArray, List.set_cons_zero, List.set_cons_succ]
 refine wpAnyH_ready (rs := [6]) (by kernel_rfl) (by simp) (AllReadyH.cons (o := { dst := none, op := .store 41 (.tmp 4) (.tmp 10), type := 0, pos := "ref.go:41", after := #[{ on := 5, ground := .data }, { on := 5, ground := .chain }, { on := 0, ground := .phase }, { on := 1, ground := .phase }, { on := 2, ground := .phase }, { on := 3, ground := .phase }, { on := 4, ground := .phase }, { on := 5, ground := .phase }], guard := none }) rfl (fun K hK => ?_) AllReadyH.nil)
 try rw [if_pos (by rfl)]
 refine wp_store_mid 41 (.tmp 4) (.tmp 10) rfl (w.heap.size + 2) 0 (bcells F) rfl rfl (there_row HR3.out _ (by rw [← HSO.out, bcells_size]; exact Nat.le_refl _)) HSZ.out (bcells_one _) ?_
 have HR4 := Lib.hid (row_setCells HR3.out (cs := bcells F) (by rw [← HSO.out, bcells_size]; rfl))
 have HB4 := Lib.hid (below_setCells (bcells F).toList 0 _ (chain HBU.out hb4) (show w.heap.size ≤ w.heap.size + 2 by omega))
 refine hK.out _ _ ⟨rangeAt_far hHeld.1 _ _ (by omega), rangeAt_far hHeld.2 _ _ (by omega)⟩ (fun hHeld2 => ?_)
 clear hK K hHeld hHeld2
 try simp only [Act.put, List.setIfInBounds_toArray, List.set_cons_zero, List.set_cons_succ]
 refine wpAnyH_done (by kernel_rfl) ?_ _
 generalize World.setCells _ _ _ _ = z5 at HR4 HB4 ⊢
 clear hb0 hb1 hb2 hb3 hb4 ho1 ho2 hg1 hg2 hr0 mkS
 go_wp2_with fail
 refine bodyPost_ret (v := .agg (bcells F)) (results_cell_row rfl _ _ (w.heap.size + 2) 41 _ (0, 0) _ rfl HR4.out Tryz.underlying41 rfl HSZ.out) rfl ⟨rfl, HB4.out⟩
end Go.Proofs.YtcgffkkfeimifaaGreatDoor
