import Derived.Test.YtcgffkkfeimifaaGreatDoorMkRad
import Derived.Test.YtcgffkkfeimifaaGreatDoorOneRef
import Derived.Test.YtcgffkkfeimifaaGreatDoorMkDL
namespace Go.Proofs.YtcgffkkfeimifaaGreatDoor
open Go.RowKit Sha Ots
set_option linter.unusedVariables false
set_option linter.unusedSimpArgs false
set_option maxRecDepth 100000 in
set_option maxHeartbeats 2000000 in
theorem root_ref_bad (h n : Int) (M : Value) (CA PA : Option Addr) (cl cc pl pc : Nat) (hne : chkV h n cl pl ≠ 0) (w : World) :
  Calls Tryz.prog 90 #[.int .i64 h, M, .agg #[.int .i64 n, .slice CA cl cc, .slice PA pl pc]] w fun e w' => e = .returned (.tuple #[.agg (bcells (List.replicate 16 0)), .int .i64 (chkV h n cl pl)]) ∧ Below w.heap.size w w' := by
 have CK := Lib.hid (fun (V : World) => check_ref h n CA PA cl cc pl pc V)
 obtain ⟨e7, he7⟩ : ∃ e7, chkV h n cl pl = e7 := ⟨_, rfl⟩
 rw [he7] at CK hne ⊢
 have hnb : (e7 != 0) = true := by simp [hne]
 have hz16 : (List.replicate 16 (0 : UInt8)).length = 16 := rfl
 obtain ⟨R, hR⟩ : ∃ R, List.replicate 16 (0 : UInt8) = R := ⟨_, rfl⟩
 rw [hR] at hz16 ⊢
 have HSZ := Lib.hid (sz16 R hz16)
 have hso : (16 : Nat) = (bcells R).size := by rw [bcells_size, hz16]
 have HSO := Lib.hid hso
 have HR := Lib.hid hR
 clear he7 hne hz16 hR hso
 go_enter Tryz.func90, Tryz.ntmps90
 go_wp2_with fail
 refine (CK.out _).mono ?_
 rintro e w1 ⟨rfl, hb1⟩
 have HR0 := Lib.hid ((hb1.block w.heap.size (by simp; omega)).trans (heap_alloc2_old _ _ _))
 have HR1 := Lib.hid ((hb1.block (w.heap.size + 1) (by simp)).trans (heap_alloc2_new _ _ _))
 have HB1 := Lib.hid (chain ((below_new w _).trans ((below_new _ _).mono (by simp))) hb1)
 have hlt1 := (Array.getElem?_eq_some_iff.1 HR0.out).1
 obtain ⟨_, hc0, hc1, hc2⟩ := facts3k HR0.out
 clear hb1
 go_wp2_with fail
 refine (CK.out _).mono ?_
 rintro e w2 ⟨rfl, hb2⟩
 have HR2 := Lib.hid (row_on7 HR1.out hb2)
 have HB2 := Lib.hid (chain HB1.out hb2)
 clear hb2 hc0 hc1 hc2 hlt1 HR0 HR1 HB1
 go_wp2_with (refine wpList_store_row rfl 41 (.tmp 6) (.tmp 16) rfl (w.heap.size + 1) (bcells R) rfl (by rw [← HR.out]; rfl) 41 _ HR2.out HSZ.out HSO.out (bcells_one _) ?_)
 refine bodyPost_ret (v := .tuple #[.agg (bcells R), .int .i64 e7]) (results_two rfl _ _ (w.heap.size + 1) 41 _ (0, 0) _ _ _ rfl rfl (setRow_heap _ _ _ _ _ _ HR2.out) Tryz.underlying41 HSZ.out) rfl ⟨rfl, ?_⟩
 exact below_row HB2.out (by omega) _
theorem rangeAt_ltN {g o : Nat} {w : World} {p : List UInt8} (h : w.rangeAt g o (bvals p)) (hp : p.length = 16) : g < w.heap.size := rangeAt_lt h (by intro e; have := congrArg List.length e; rw [bvals_len, hp] at this; simp at this)
structure RX (w : World) (Bx : Nat) (X : List UInt8) (sg : Array Value) (V : World) : Prop where
 bl : Below w.heap.size w V
 ge : w.heap.size + 2 ≤ Bx
 rx : V.heap[Bx]? = some (.cells (bcells X) 41 (0, 0))
 rs : V.heap[w.heap.size]? = some (.cells sg 30 (0, 0))
 ro : V.heap[w.heap.size + 1]? = some (.cells (bcells (List.replicate 16 0)) 41 (0, 0))
theorem RX.on {w V U : World} {Bx : Nat} {X : List UInt8} {sg : Array Value} (h : RX w Bx X sg V) (hb : Below V.heap.size V U) : RX w Bx X sg U :=
 ⟨chain h.bl hb, h.ge, row_on7 h.rx hb, row_on7 h.rs hb, row_on7 h.ro hb⟩
theorem RX.put {w V : World} {Bx : Nat} {X Y : List UInt8} {sg : Array Value} (h : RX w Bx X sg V) (hX : X.length = 16) (hY : Y.length = 16) : RX w Bx Y sg (V.setCells Bx 0 (bcells Y).toList) :=
 ⟨below_setCells _ _ _ h.bl (by have := h.ge; omega), h.ge, row_setCells h.rx (by rw [bcells_size, bcells_size, hX, hY]), (heap_setCells_other _ _ _ (by have := h.ge; omega)).trans h.rs, (heap_setCells_other _ _ _ (by have := h.ge; omega)).trans h.ro⟩
set_option maxRecDepth 100000 in
set_option maxHeartbeats 4000000 in
theorem root_ref_yes (h n : Nat) (hh : h ≤ 4) (hn : n < 2 ^ h) (l : List UInt8) (A : Option Addr) (c : Nat) (hl : l.length ≤ 100000) (hc : l.length ≤ c) (hA : A = none → c = 0) (ls ps : List (List UInt8)) (CA PA : Option Addr) (cc pc : Nat) (h35 : ls.length = 35) (hpl : ps.length = h) (w : World) (hsrc : SrcAt A l w) (hsh : Shorts CA ls w) (hps : Shorts PA ps w) :
  Calls Tryz.prog 90 #[.int .i64 (h : Int), .slice A l.length c, .agg #[.int .i64 (n : Int), .slice CA 35 cc, .slice PA h pc]] w fun e w' => e = .returned (.tuple #[.agg (bcells (fol (key l ls) n ps)), .int .i64 0]) ∧ Below w.heap.size w w' := by
 have hck0 : chkV (h : Int) (n : Int) 35 h = 0 := by
  unfold chkV
  rw [if_pos (by omega), if_pos ⟨⟨by omega, by rw [Int.toNat_natCast]; exact_mod_cast hn⟩, rfl, rfl⟩]
 have hck : ∀ V : World, Calls Tryz.prog 118 #[.int .i64 (h : Int), .agg #[.int .i64 (n : Int), .slice CA 35 cc, .slice PA h pc]] V fun e w' => e = .returned (.int .i64 0) ∧ Below V.heap.size V w' := fun V => by
  have h1 := check_ref (h : Int) (n : Int) CA PA 35 cc h pc V
  rw [hck0] at h1
  exact h1
 have hre : ∀ V : World, Below w.heap.size w V → Calls Tryz.prog 127 #[.slice A l.length c, .slice CA 35 cc] V fun e w' => e = .returned (.tuple #[.agg (bcells (key l ls)), .int .i64 0]) ∧ Below V.heap.size V w' := fun V hb => by
  have h1 := recover_ref l A c hl hc hA ls CA cc h35 V (hsrc.on hb) (hsh.on hb)
  rw [h35] at h1
  exact h1
 -- what the walk over the path has come to
 obtain ⟨x0, hx0⟩ : ∃ x0, key l ls = x0 := ⟨_, rfl⟩
 have hx16 : x0.length = 16 := by rw [← hx0]; exact key_len _ _
 rw [hx0] at hre ⊢
 obtain ⟨T, hT⟩ : ∃ T : Nat → List UInt8, ∀ k, T k = fol x0 n (ps.take k) := ⟨_, fun _ => rfl⟩
 obtain ⟨D, hD⟩ : ∃ D : Nat → Nat, ∀ k, D k = n / 2 ^ k := ⟨_, fun _ => rfl⟩
 have hT0 : T 0 = x0 := by rw [hT]; rfl
 have hD0 : D 0 = n := by rw [hD, Nat.pow_zero, Nat.div_one]
 have hTl : ∀ k, (T k).length = 16 := fun k => by rw [hT]; exact fol_len x0 hx16 _ _
 have hDl : ∀ k, D k ≤ 1000000 := fun k => by
  have hn16 : n < 16 := by
   have := Nat.pow_le_pow_right (show 0 < 2 by decide) hh
   have h16 : 2 ^ 4 = 16 := rfl
   omega
  rw [hD]
  have := Nat.div_le_self n (2 ^ k)
  omega
 have hDs : ∀ k, wrap64 ((D k : Int) / 2) = (D (k + 1) : Int) := fun k => by
  have h1 := hDl k
  have e2 : D k / 2 = D (k + 1) := by rw [hD, hD, Nat.pow_succ, Nat.div_div_eq_div_mul]
  rw [← e2]
  unfold wrap64
  omega
 have hTe : T h = fol x0 n ps := by rw [hT, ← hpl, List.take_length]
 have hst : ∀ k, k < h → ∀ p, ps.getD k [] = p → T (k + 1) = stq (T k) (D k) p := fun k hk p hp => by
  rw [hT, hT, hD, fol_take x0 ps n k (by omega), hp]
 have hpa : ∀ k, k < h → ∃ g o p, PA = some ⟨g, o, none⟩ ∧ ps.getD k [] = p ∧ p.length = 16 ∧ w.rangeAt g (o + k * 16) (bvals p) := fun k hk => by
  obtain ⟨g, o, e, hr⟩ := hps.atS k (by omega)
  exact ⟨g, o, _, e, rfl, getD_len16 hps.len k (by omega), hr⟩
 rw [← hTe]
 have HTL := Lib.hid hTl
 have CK := Lib.hid hck
 have RE := Lib.hid hre
 have HST := Lib.hid hst
 have HPA := Lib.hid hpa
 have HT0 := Lib.hid hT0
 have HD0 := Lib.hid hD0
 have HDS := Lib.hid hDs
 have HX16 := Lib.hid hx16
 have HH := Lib.hid hh
 have HSZ := Lib.hid (sz16 x0 hx16)
 have hso : (16 : Nat) = (bcells x0).size := by rw [bcells_size, hx16]
 have HSO := Lib.hid hso
 obtain ⟨m, hm⟩ : ∃ m, l.length = m := ⟨_, rfl⟩
 rw [hm] at RE ⊢
 clear hck0 hck hre hx0 hx16 hT hD hT0 hD0 hTl hDl hDs hTe hst hpa hso hm hl hc hsrc hsh hps hn h35 hpl hh hA
 go_enter Tryz.func90, Tryz.ntmps90
 go_wp2_with fail
 refine (CK.out _).mono ?_
 rintro e w1 ⟨rfl, hb1⟩
 have HR0 := Lib.hid ((hb1.block w.heap.size (by simp; omega)).trans (heap_alloc2_old _ _ _))
 have HR1 := Lib.hid ((hb1.block (w.heap.size + 1) (by simp)).trans (heap_alloc2_new _ _ _))
 have HB1 := Lib.hid (chain ((below_new w _).trans ((below_new _ _).mono (by simp))) hb1)
 have hlt1 := (Array.getElem?_eq_some_iff.1 HR0.out).1
 obtain ⟨_, hc0, hc1, hc2⟩ := facts3k HR0.out
 clear hb1
 go_wp2_with fail
 refine (RE.out _ HB1.out).mono ?_
 rintro e w2 ⟨rfl, hb2⟩
 have HR02 := Lib.hid (row_on7 HR0.out hb2)
 have HR12 := Lib.hid (row_on7 HR1.out hb2)
 have HB2 := Lib.hid (chain HB1.out hb2)
 clear hb2 hc0 hc1 hc2 hlt1 HR0 HR1 HB1
 go_upto_region 4 with (refine wpList_store_row rfl 41 (.tmp 8) (.tmp 25) rfl w2.heap.size (bcells x0) rfl rfl 41 _ (heap_alloc_new _ _) HSZ.out HSO.out (bcells_one _) ?_)
 rw [World.setRow_alloc_new]
 generalize hV : World.alloc w2 _ = V
 have hbV : Below w2.heap.size w2 V := by rw [← hV]; exact below_new _ _
 have hrx : V.heap[w2.heap.size]? = some (.cells (bcells x0) 41 (0, 0)) := by rw [← hV]; exact heap_alloc_new _ _
 have HRX : RowKit.Hid (RX w w2.heap.size x0 #[.int .i64 (n : Int), .slice CA 35 cc, .slice PA h pc] V) := Lib.hid ⟨chain HB2.out hbV, (Array.getElem?_eq_some_iff.1 HR12.out).1, hrx, row_on7 HR02.out hbV, (row_on7 HR12.out hbV).trans rfl⟩
 obtain ⟨Bx, hBx⟩ : ∃ Bx, w2.heap.size = Bx := ⟨_, rfl⟩
 rw [hBx] at HRX
 try simp only [hBx]
 obtain ⟨_, hc0, hc1, hc2⟩ := facts3k HRX.out.rs
 have hlt0 := (Array.getElem?_eq_some_iff.1 HRX.out.rs).1
 have HRXT : RowKit.Hid (RX w Bx (T 0) #[.int .i64 (n : Int), .slice CA 35 cc, .slice PA h pc] V) := Lib.hid (by rw [HT0.out]; exact HRX.out)
 clear hV hbV hrx hBx HR02 HR12 HB2 HRX
 go_wp2_with fail
 go_loopw [10, 11] (fun nn ix wr => ∃ k : Nat, k ≤ h ∧ ix = .int .i64 (k : Int) ∧ nn = .int .i64 (D k : Int) ∧ RowKit.Hid (RX w Bx (T k) #[.int .i64 (n : Int), .slice CA 35 cc, .slice PA h pc] wr)) (fun _ ix _ => h - (intOf ix).toNat)
 case atStart => exact ⟨0, by omega, rfl, by rw [HD0.out], HRXT⟩
 case round =>
  clear HRXT hc0 hc1 hc2 hlt0
  obtain ⟨k, hk, rfl, rfl, HRX⟩ := hrel
  obtain ⟨_, hc0, hc1, hc2⟩ := facts3k HRX.out.rs
  have hlt0 := (Array.getElem?_eq_some_iff.1 HRX.out.rs).1
  by_cases hlt : k < h
  ·
   have hki : (k : Int) < (h : Int) := by omega
   have hh4 := HH.out
   obtain ⟨g, o, p, rfl, hp, hp16, hr⟩ := HPA.out k hlt
   have hgl : g < w.heap.size := rangeAt_ltN hr hp16
   have HR := Lib.hid hr
   have HR0 := Lib.hid hr
   have hst := HST.out k hlt p hp
   have HXI : (Tryz.prog.info? 41).map (·.size) = some (bvals p).length := by rw [bvals_len, hp16]; kernel_rfl
   have HXI2 := Lib.hid HXI
   have HDK := Lib.hid (HDS.out k)
   have hX16 := HTL.out k
   have hY16 := HTL.out (k + 1)
   have HGL := Lib.hid hgl
   have HLT := Lib.hid hlt
   have hu := Tryz.underlying41
   obtain ⟨dk, hdk⟩ : ∃ dk, D k = dk := ⟨_, rfl⟩
   obtain ⟨d2, hd2⟩ : ∃ d2, D (k + 1) = d2 := ⟨_, rfl⟩
   rw [hdk] at hst HDK ⊢
   rw [hd2] at HDK
   have HD2 := Lib.hid hd2
   by_cases he : dk % 2 = 0

   ·
    rw [show stq (T k) dk p = jn (T k) p from if_pos he] at hst
    have hjo := fun (V : World) => joined7_ref (T k) p hX16 hp16 V
    rw [← hst] at hjo
    have hi : (dk : Int) % 2 = 0 := by omega
    obtain ⟨X, hX⟩ : ∃ X, T k = X := ⟨_, rfl⟩
    obtain ⟨F, hF⟩ : ∃ F, T (k + 1) = F := ⟨_, rfl⟩
    rw [hX] at hjo hX16 HRX
    rw [hF] at hjo hY16
    have JO := Lib.hid hjo
    have HX16b := Lib.hid hX16
    have HF16 := Lib.hid hY16
    have HSZX := Lib.hid (sz16 X hX16)
    have HSZF := Lib.hid (sz16 F hY16)
    have HF := Lib.hid hF
    clear hjo hst hX hF hX16 hY16 he hdk hd2 hp hp16 hr hgl hlt HXI
    go_wp2_with fail
    obtain ⟨U, hU⟩ : ∃ U, wr.drew = U := ⟨_, rfl⟩
    have hbU : Below wr.heap.size wr U := by rw [← hU]; exact (Below.refl _ _).drew
    have HRU := Lib.hid (HRX.out.on hbU)
    have mkS : ∀ z, RX w Bx X #[.int .i64 (n : Int), .slice CA 35 cc, .slice (some ⟨g, o, none⟩) h pc] z → z.cell? ⟨w.heap.size, 2, none⟩ = some (.slice (some ⟨g, o, none⟩) h pc) ∧ z.rangeAt g (o + k * 16) (bvals p) := fun z hz => ⟨(facts3k hz.rs).2.2.2, rangeAt_below HR0.out hz.bl HGL.out⟩
    have mkS2 : ∀ z, RX w Bx F #[.int .i64 (n : Int), .slice CA 35 cc, .slice (some ⟨g, o, none⟩) h pc] z → z.cell? ⟨w.heap.size, 2, none⟩ = some (.slice (some ⟨g, o, none⟩) h pc) ∧ z.rangeAt g (o + k * 16) (bvals p) := fun z hz => ⟨(facts3k hz.rs).2.2.2, rangeAt_below HR0.out hz.bl HGL.out⟩
    have hS0 : wr.drew.cell? ⟨w.heap.size, 2, none⟩ = some (.slice (some ⟨g, o, none⟩) h pc) ∧ wr.drew.rangeAt g (o + k * 16) (bvals p) := by rw [hU]; exact mkS _ HRU.out
    clear hbU hc0 hc1 hc2 hlt0 HR
    refine wp_region_held_drew (S := fun z => z.cell? ⟨w.heap.size, 2, none⟩ = some (.slice (some ⟨g, o, none⟩) h pc) ∧ z.rangeAt g (o + k * 16) (bvals p)) (by kernel_rfl) hS0 (fun hHeld => ?_)
    rw [hU] at hHeld ⊢
    clear hS0 hU
    refine wpAnyH_take (i := 1) (oi := { dst := some 40, op := .fieldAddr 30 (.tmp 5) 2, type := 0, pos := "ref.go:97", after := #[], guard := none }) (v := ?_) rfl (by kernel_rfl) (by kernel_rfl) (by kernel_rfl) (fun _ _ _ h => h) (Or.inl ⟨by rfl, ?_⟩) hHeld ?_
    rotate_left
    ·
     intro w hSw
     clear hSw
     go_simp
     try with_reducible rfl
    try simp only [Act.put, List.setIfInBounds_toArray, List.set_cons_zero, List.set_cons_succ]
    refine wpAnyH_take (i := 2) (oi := { dst := some 41, op := .load 28 (.tmp 40), type := 28, pos := "ref.go:97", after := #[{ on := 1, ground := .data }], guard := none }) (v := ?_) rfl (by kernel_rfl) (by kernel_rfl) (by kernel_rfl) (fun _ _ _ h => h) (Or.inl ⟨by rfl, ?_⟩) hHeld ?_
    rotate_left
    ·
     intro w hSw
     have hfc0 := hSw.1
     clear hSw
     go_simp
     try with_reducible rfl
    try simp only [Act.put, List.setIfInBounds_toArray, List.set_cons_zero, List.set_cons_succ]
    refine wpAnyH_take (i := 3) (oi := { dst := some 42, op := .move (.tmp 11), type := 3, pos := "ref.go:97", after := #[], guard := none }) (v := ?_) rfl (by kernel_rfl) (by kernel_rfl) (by kernel_rfl) (fun _ _ _ h => h) (Or.inl ⟨by rfl, ?_⟩) hHeld ?_
    rotate_left
    ·
     intro w hSw
     clear hSw
     go_simp
     try with_reducible rfl
    try simp only [Act.put, List.setIfInBounds_toArray, List.set_cons_zero, List.set_cons_succ]
    refine wpAnyH_take (i := 4) (oi := { dst := some 43, op := .indexAddr 28 (.tmp 41) (.tmp 42), type := 0, pos := "ref.go:97", after := #[{ on := 2, ground := .data }, { on := 3, ground := .data }], guard := none }) (v := ?_) rfl (by kernel_rfl) (by kernel_rfl) (by kernel_rfl) (fun _ _ _ h => h) (Or.inl ⟨by rfl, ?_⟩) hHeld ?_
    rotate_left
    ·
     intro w hSw
     clear hSw
     go_simp
     try with_reducible rfl
    try simp only [Act.put, List.setIfInBounds_toArray, List.set_cons_zero, List.set_cons_succ]
    refine wpAnyH_take (i := 5) (oi := { dst := some 44, op := .load 41 (.tmp 43), type := 41, pos := "ref.go:97", after := #[{ on := 4, ground := .data }], guard := none }) (v := .agg (bvals p).toArray) rfl (by kernel_rfl) (by kernel_rfl) (by kernel_rfl) (fun _ _ _ h => h) (yieldsIf_load_mid (by rfl) _ _ rfl _ _ rfl (bvals p) _ (fun w hSw => hSw.2) hu rfl HXI2.out) hHeld ?_
    try simp only [Act.put, List.setIfInBounds_toArray, List.set_cons_zero, List.set_cons_succ]
    refine wpAnyH_ready (rs := [0]) (by kernel_rfl) (by simp) (AllReadyH.cons (o := { dst := some 39, op := .load 41 (.tmp 8), type := 41, pos := "ref.go:97", after := #[], guard := none }) rfl (fun K hK => ?_) AllReadyH.nil)
    try rw [if_pos (by rfl)]
    refine wp_load_row 41 (.tmp 8) rfl Bx rfl 41 (bcells X) (0, 0) _ HRU.out.rx hu rfl HSZX.out ?_
    refine hK.out _ _ hHeld (fun hHeld2 => ?_)
    clear hK K hHeld
    have hHeld := hHeld2
    clear hHeld2
    try simp only [Act.put, List.setIfInBounds_toArray, List.set_cons_zero, List.set_cons_succ]
    refine wpAnyH_ready (rs := [6]) (by kernel_rfl) (by simp) (AllReadyH.cons (o := { dst := some 45, op := .call { callee := .value (.func 124), args := #[.tmp 39, .tmp 44], argTypes := #[41, 41] }, type := 41, pos := "ref.go:97", after := #[{ on := 0, ground := .data }, { on := 5, ground := .data }], guard := none }) rfl (fun K hK => ?_) AllReadyH.nil)
    go_simp
    refine (JO.out _).mono ?_
    rintro e z1 ⟨rfl, hb1⟩
    have HRZ := Lib.hid (HRU.out.on hb1)
    go_simp
    refine hK.out _ _ (mkS _ HRZ.out) (fun hHeld2 => ?_)
    clear hK K hHeld hb1
    have hHeld := hHeld2
    clear hHeld2
    try simp only [Act.put, List.setIfInBounds_toArray, List.set_cons_zero, List.set_cons_succ]
    refine wpAnyH_ready (rs := [7]) (by kernel_rfl) (by simp) (AllReadyH.cons (o := { dst := none, op := .store 41 (.tmp 8) (.tmp 45), type := 0, pos := "ref.go:97", after := #[{ on := 6, ground := .data }, { on := 6, ground := .chain }, { on := 0, ground := .phase }, { on := 1, ground := .phase }, { on := 2, ground := .phase }, { on := 3, ground := .phase }, { on := 4, ground := .phase }, { on := 5, ground := .phase }, { on := 6, ground := .phase }], guard := none }) rfl (fun K hK => ?_) AllReadyH.nil)
    try rw [if_pos (by rfl)]
    refine wp_store_mid 41 (.tmp 8) (.tmp 45) rfl Bx 0 (bcells F) rfl rfl (there_row HRZ.out.rx _ (by rw [bcells_size, bcells_size, HX16b.out, HF16.out]; exact Nat.le_refl _)) HSZF.out (bcells_one _) ?_
    have HRY := Lib.hid (HRZ.out.put HX16b.out HF16.out)
    refine hK.out _ _ (mkS2 _ HRY.out) (fun hHeld2 => ?_)
    clear hK K hHeld hHeld2
    try simp only [Act.put, List.setIfInBounds_toArray, List.set_cons_zero, List.set_cons_succ]
    refine wpAnyH_done (by kernel_rfl) ?_ _
    generalize World.setCells _ _ _ _ = z5 at HRY ⊢
    clear mkS mkS2
    go_wp2_with fail
    refine ⟨⟨k + 1, by have := HLT.out; omega, by go_num, by rw [HD2.out]; exact congrArg (Value.int .i64) HDK.out, by rw [HF.out]; exact HRY⟩, by have := HLT.out; simp [intOf]; omega⟩
   ·
    rw [show stq (T k) dk p = jn p (T k) from if_neg he] at hst
    have hjo := fun (V : World) => joined7_ref p (T k) hp16 hX16 V
    rw [← hst] at hjo
    have hi : (dk : Int) % 2 = 1 := by omega
    obtain ⟨X, hX⟩ : ∃ X, T k = X := ⟨_, rfl⟩
    obtain ⟨F, hF⟩ : ∃ F, T (k + 1) = F := ⟨_, rfl⟩
    rw [hX] at hjo hX16 HRX
    rw [hF] at hjo hY16
    have JO := Lib.hid hjo
    have HX16b := Lib.hid hX16
    have HF16 := Lib.hid hY16
    have HSZX := Lib.hid (sz16 X hX16)
    have HSZF := Lib.hid (sz16 F hY16)
    have HF := Lib.hid hF
    clear hjo hst hX hF hX16 hY16 he hdk hd2 hp hp16 hr hgl hlt HXI
    go_wp2_with fail
    obtain ⟨U, hU⟩ : ∃ U, wr.drew = U := ⟨_, rfl⟩
    have hbU : Below wr.heap.size wr U := by rw [← hU]; exact (Below.refl _ _).drew
    have HRU := Lib.hid (HRX.out.on hbU)
    have mkS : ∀ z, RX w Bx X #[.int .i64 (n : Int), .slice CA 35 cc, .slice (some ⟨g, o, none⟩) h pc] z → z.cell? ⟨w.heap.size, 2, none⟩ = some (.slice (some ⟨g, o, none⟩) h pc) ∧ z.rangeAt g (o + k * 16) (bvals p) := fun z hz => ⟨(facts3k hz.rs).2.2.2, rangeAt_below HR0.out hz.bl HGL.out⟩
    have mkS2 : ∀ z, RX w Bx F #[.int .i64 (n : Int), .slice CA 35 cc, .slice (some ⟨g, o, none⟩) h pc] z → z.cell? ⟨w.heap.size, 2, none⟩ = some (.slice (some ⟨g, o, none⟩) h pc) ∧ z.rangeAt g (o + k * 16) (bvals p) := fun z hz => ⟨(facts3k hz.rs).2.2.2, rangeAt_below HR0.out hz.bl HGL.out⟩
    have hS0 : wr.drew.cell? ⟨w.heap.size, 2, none⟩ = some (.slice (some ⟨g, o, none⟩) h pc) ∧ wr.drew.rangeAt g (o + k * 16) (bvals p) := by rw [hU]; exact mkS _ HRU.out
    clear hbU hc0 hc1 hc2 hlt0 HR
    refine wp_region_held_drew (S := fun z => z.cell? ⟨w.heap.size, 2, none⟩ = some (.slice (some ⟨g, o, none⟩) h pc) ∧ z.rangeAt g (o + k * 16) (bvals p)) (by kernel_rfl) hS0 (fun hHeld => ?_)
    rw [hU] at hHeld ⊢
    clear hS0 hU
    refine wpAnyH_take (i := 0) (oi := { dst := some 46, op := .fieldAddr 30 (.tmp 5) 2, type := 0, pos := "ref.go:99", after := #[], guard := none }) (v := ?_) rfl (by kernel_rfl) (by kernel_rfl) (by kernel_rfl) (fun _ _ _ h => h) (Or.inl ⟨by rfl, ?_⟩) hHeld ?_
    rotate_left
    ·
     intro w hSw
     clear hSw
     go_simp
     try with_reducible rfl
    try simp only [Act.put, List.setIfInBounds_toArray, List.set_cons_zero, List.set_cons_succ]
    refine wpAnyH_take (i := 1) (oi := { dst := some 47, op := .load 28 (.tmp 46), type := 28, pos := "ref.go:99", after := #[{ on := 0, ground := .data }], guard := none }) (v := ?_) rfl (by kernel_rfl) (by kernel_rfl) (by kernel_rfl) (fun _ _ _ h => h) (Or.inl ⟨by rfl, ?_⟩) hHeld ?_
    rotate_left
    ·
     intro w hSw
     have hfc0 := hSw.1
     clear hSw
     go_simp
     try with_reducible rfl
    try simp only [Act.put, List.setIfInBounds_toArray, List.set_cons_zero, List.set_cons_succ]
    refine wpAnyH_take (i := 2) (oi := { dst := some 48, op := .move (.tmp 11), type := 3, pos := "ref.go:99", after := #[], guard := none }) (v := ?_) rfl (by kernel_rfl) (by kernel_rfl) (by kernel_rfl) (fun _ _ _ h => h) (Or.inl ⟨by rfl, ?_⟩) hHeld ?_
    rotate_left
    ·
     intro w hSw
     clear hSw
     go_simp
     try with_reducible rfl
    try simp only [Act.put, List.setIfInBounds_toArray, List.set_cons_zero, List.set_cons_succ]
    refine wpAnyH_take (i := 3) (oi := { dst := some 49, op := .indexAddr 28 (.tmp 47) (.tmp 48), type := 0, pos := "ref.go:99", after := #[{ on := 1, ground := .data }, { on := 2, ground := .data }], guard := none }) (v := ?_) rfl (by kernel_rfl) (by kernel_rfl) (by kernel_rfl) (fun _ _ _ h => h) (Or.inl ⟨by rfl, ?_⟩) hHeld ?_
    rotate_left
    ·
     intro w hSw
     clear hSw
     go_simp
     try with_reducible rfl
    try simp only [Act.put, List.setIfInBounds_toArray, List.set_cons_zero, List.set_cons_succ]
    refine wpAnyH_take (i := 4) (oi := { dst := some 50, op := .load 41 (.tmp 49), type := 41, pos := "ref.go:99", after := #[{ on := 3, ground := .data }], guard := none }) (v := .agg (bvals p).toArray) rfl (by kernel_rfl) (by kernel_rfl) (by kernel_rfl) (fun _ _ _ h => h) (yieldsIf_load_mid (by rfl) _ _ rfl _ _ rfl (bvals p) _ (fun w hSw => hSw.2) hu rfl HXI2.out) hHeld ?_
    try simp only [Act.put, List.setIfInBounds_toArray, List.set_cons_zero, List.set_cons_succ]
    refine wpAnyH_ready (rs := [5]) (by kernel_rfl) (by simp) (AllReadyH.cons (o := { dst := some 51, op := .load 41 (.tmp 8), type := 41, pos := "ref.go:99", after := #[], guard := none }) rfl (fun K hK => ?_) AllReadyH.nil)
    try rw [if_pos (by rfl)]
    refine wp_load_row 41 (.tmp 8) rfl Bx rfl 41 (bcells X) (0, 0) _ HRU.out.rx hu rfl HSZX.out ?_
    refine hK.out _ _ hHeld (fun hHeld2 => ?_)
    clear hK K hHeld
    have hHeld := hHeld2
    clear hHeld2
    try simp only [Act.put, List.setIfInBounds_toArray, List.set_cons_zero, List.set_cons_succ]
    refine wpAnyH_ready (rs := [6]) (by kernel_rfl) (by simp) (AllReadyH.cons (o := { dst := some 52, op := .call { callee := .value (.func 124), args := #[.tmp 50, .tmp 51], argTypes := #[41, 41] }, type := 41, pos := "ref.go:99", after := #[{ on := 4, ground := .data }, { on := 5, ground := .data }], guard := none }) rfl (fun K hK => ?_) AllReadyH.nil)
    go_simp
    refine (JO.out _).mono ?_
    rintro e z1 ⟨rfl, hb1⟩
    have HRZ := Lib.hid (HRU.out.on hb1)
    go_simp
    refine hK.out _ _ (mkS _ HRZ.out) (fun hHeld2 => ?_)
    clear hK K hHeld hb1
    have hHeld := hHeld2
    clear hHeld2
    try simp only [Act.put, List.setIfInBounds_toArray, List.set_cons_zero, List.set_cons_succ]
    refine wpAnyH_ready (rs := [7]) (by kernel_rfl) (by simp) (AllReadyH.cons (o := { dst := none, op := .store 41 (.tmp 8) (.tmp 52), type := 0, pos := "ref.go:99", after := #[{ on := 6, ground := .data }, { on := 6, ground := .chain }, { on := 0, ground := .phase }, { on := 1, ground := .phase }, { on := 2, ground := .phase }, { on := 3, ground := .phase }, { on := 4, ground := .phase }, { on := 5, ground := .phase }, { on := 6, ground := .phase }], guard := none }) rfl (fun K hK => ?_) AllReadyH.nil)
    try rw [if_pos (by rfl)]
    refine wp_store_mid 41 (.tmp 8) (.tmp 52) rfl Bx 0 (bcells F) rfl rfl (there_row HRZ.out.rx _ (by rw [bcells_size, bcells_size, HX16b.out, HF16.out]; exact Nat.le_refl _)) HSZF.out (bcells_one _) ?_
    have HRY := Lib.hid (HRZ.out.put HX16b.out HF16.out)
    refine hK.out _ _ (mkS2 _ HRY.out) (fun hHeld2 => ?_)
    clear hK K hHeld hHeld2
    try simp only [Act.put, List.setIfInBounds_toArray, List.set_cons_zero, List.set_cons_succ]
    refine wpAnyH_done (by kernel_rfl) ?_ _
    generalize World.setCells _ _ _ _ = z5 at HRY ⊢
    clear mkS mkS2
    go_wp2_with fail
    refine ⟨⟨k + 1, by have := HLT.out; omega, by go_num, by rw [HD2.out]; exact congrArg (Value.int .i64) HDK.out, by rw [HF.out]; exact HRY⟩, by have := HLT.out; simp [intOf]; omega⟩
  ·
   have hkk : k = h := by omega
   subst hkk
   have hge : ¬ (k : Int) < (k : Int) := by omega
   have hX16 := HTL.out k
   have HSZF := Lib.hid (sz16 (T k) hX16)
   have hso : (16 : Nat) = (bcells (T k)).size := by rw [bcells_size, hX16]
   have HSO2 := Lib.hid hso
   clear hX16 hso
   go_wp2_with (first | (refine wpList_load_row rfl 41 (.tmp 8) rfl Bx rfl 41 (bcells (T k)) (0, 0) _ HRX.out.rx Tryz.underlying41 rfl HSZF.out ?_) | (refine wpList_store_row rfl 41 (.tmp 6) (.tmp 55) rfl (w.heap.size + 1) (bcells (T k)) rfl rfl 41 _ HRX.out.ro HSZF.out HSO2.out (bcells_one _) ?_))
   refine bodyPost_ret (v := .tuple #[.agg (bcells (T k)), .int .i64 0]) (results_two rfl _ _ (w.heap.size + 1) 41 _ (0, 0) _ _ _ rfl rfl (setRow_heap _ _ _ _ _ _ HRX.out.ro) Tryz.underlying41 HSZF.out) rfl ⟨rfl, ?_⟩
   exact below_row HRX.out.bl (by omega) _
theorem root_ref_all (l : List UInt8) (A : Option Addr) (c : Nat) (hl : l.length ≤ 100000) (hc : l.length ≤ c) (hA : A = none → c = 0) (n : Int) (CA PA : Option Addr) (cs ps : List (List UInt8)) (cc pc : Nat) (w : World) (hsrc : SrcAt A l w) (hsc : Shorts CA cs w) (hsp : Shorts PA ps w) (h : Int) :
  Calls Tryz.prog 90 #[.int .i64 h, .slice A l.length c, .agg #[.int .i64 n, .slice CA cs.length cc, .slice PA ps.length pc]] w fun e w' => e = .returned (.tuple #[.agg (bcells (rtV l cs ps h n)), .int .i64 (chkV h n cs.length ps.length)]) ∧ Below w.heap.size w w' := by
 by_cases h0 : chkV h n cs.length ps.length = 0
 ·
  obtain ⟨h1, h2, h3, h4⟩ := chkV_zero h0
  have hr : rtV l cs ps h n = fol (key l cs) n.toNat ps := by unfold rtV; rw [if_pos h0]
  obtain ⟨k, rfl⟩ : ∃ k : Nat, h = (k : Int) := ⟨h.toNat, by omega⟩
  obtain ⟨j, rfl⟩ : ∃ j : Nat, n = (j : Int) := ⟨n.toNat, by omega⟩
  rw [Int.toNat_natCast] at h2
  have hpk : ps.length = k := by omega
  have hj : j < 2 ^ k := by have := h2.2; exact_mod_cast this
  rw [h0, hr, Int.toNat_natCast, h3, hpk]
  exact root_ref_yes k j (by omega) hj l A c hl hc hA cs ps CA PA cc pc h3 hpk w hsrc hsc hsp
 ·
  have hr : rtV l cs ps h n = List.replicate 16 0 := by unfold rtV; rw [if_neg h0]
  rw [hr]
  exact root_ref_bad h n _ CA PA _ cc _ pc h0 w
set_option maxRecDepth 100000 in
set_option maxHeartbeats 1000000 in
theorem verify_ref_of (R X : List UInt8) (hR : R.length = 16) (hX : X.length = 16) (h n e7 : Int) (A : Option Addr) (m c : Nat) (CA PA : Option Addr) (cl cc pl pc : Nat) (w : World)
  (hroot : ∀ V : World, Below w.heap.size w V → Calls Tryz.prog 90 #[.int .i64 h, .slice A m c, .agg #[.int .i64 n, .slice CA cl cc, .slice PA pl pc]] V fun e w' => e = .returned (.tuple #[.agg (bcells X), .int .i64 e7]) ∧ Below V.heap.size V w') :
  Calls Tryz.prog 50 #[.agg (pkc R h), .slice A m c, .agg #[.int .i64 n, .slice CA cl cc, .slice PA pl pc]] w fun e w' => e = .returned (.bool (decide (e7 = 0) && (X == R))) ∧ Below w.heap.size w w' := by
 have RO := Lib.hid hroot
 have HXI : (Tryz.prog.info? 41).map (·.size) = some (bvals R).length := by rw [bvals_len, hR]; kernel_rfl
 have HSZX := Lib.hid (sz16 X hX)
 have hso : (16 : Nat) = (bcells X).size := by rw [bcells_size, hX]
 have HSO := Lib.hid hso
 have hq : ∀ w, (binOp .eql 41 (.agg (bcells X)) (.agg (bvals R).toArray)).run Tryz.prog w = .ok (.bool (X == R)) w := fun w => eql_short X R hX hR w
 have HR16 := Lib.hid hR
 have hrow : ((w.alloc (.cells (pkc R h) 43)).alloc (.cells #[.int .i64 n, .slice CA cl cc, .slice PA pl pc] 30)).heap[w.heap.size]? = some (.cells (pkc R h) 43 (0, 0)) := heap_alloc2_old _ _ _
 have hc16 := cell_pkc hR hrow
 obtain ⟨PK, hPK⟩ : ∃ PK, pkc R h = PK := ⟨_, rfl⟩
 have HPK := Lib.hid hPK
 rw [hPK] at hrow hc16 ⊢
 have HROW := Lib.hid hrow
 obtain ⟨b, hb⟩ : ∃ b, (X == R) = b := ⟨_, rfl⟩
 rw [hb] at hq ⊢
 clear hroot hso hR hX hb hPK hrow
 by_cases he : e7 = 0
 ·
  subst he
  rw [show (decide ((0 : Int) = 0) && b) = b by simp]
  go_enter Tryz.func50, Tryz.ntmps50
  go_wp2_with fail
  refine (RO.out _ ((below_new w _).trans ((below_new _ _).mono (by simp)))).mono ?_
  rintro e w2 ⟨rfl, hb2⟩
  have HR2 := Lib.hid ((hb2.block w.heap.size (by simp; omega)).trans HROW.out)
  have HB2 := Lib.hid (chain ((below_new w _).trans ((below_new _ _).mono (by simp))) hb2)
  clear hb2 hc16
  have hlt2 := (Array.getElem?_eq_some_iff.1 HR2.out).1
  have hrg2 : w2.rangeAt w.heap.size 0 (bvals R) := rangeAt_pkc (by rw [HPK.out]; exact HR2.out)
  have HRG := Lib.hid (rangeAt_on hrg2 (below_new w2 (.cells (bcells X) 41)))
  clear hrg2
  go_upto_region 2 with (refine wpList_store_row rfl 41 (.tmp 7) (.tmp 15) rfl w2.heap.size (bcells X) rfl rfl 41 _ (heap_alloc_new _ _) HSZX.out HSO.out (bcells_one _) ?_)
  rw [World.setRow_alloc_new]
  go_wp2_with (first | (refine wpList_load_wantedR (by rfl) 41 (.tmp 7) rfl w2.heap.size rfl 41 (bcells X) (0, 0) _ _ (heap_alloc_new _ _) Tryz.underlying41 HSZX.out ?_) | (refine wpList_load_wantedM (by rfl) 41 (.tmp 21) rfl w.heap.size 0 rfl (bvals R) _ _ HRG.out Tryz.underlying41 HXI ?_))
  go_ret
  exact ⟨rfl, HB2.out.alloc HB2.out.size _⟩
 ·
  have hd : (e7 == 0) = false := by simp [he]
  rw [show (decide (e7 = 0) && b) = false by simp [he]]
  go_enter Tryz.func50, Tryz.ntmps50
  go_wp2_with fail
  refine (RO.out _ ((below_new w _).trans ((below_new _ _).mono (by simp)))).mono ?_
  rintro e w2 ⟨rfl, hb2⟩
  have HB2 := Lib.hid (chain ((below_new w _).trans ((below_new _ _).mono (by simp))) hb2)
  clear hb2 hc16
  go_wp2_with (refine wpList_store_row rfl 41 (.tmp 7) (.tmp 15) rfl w2.heap.size (bcells X) rfl rfl 41 _ (heap_alloc_new _ _) HSZX.out HSO.out (bcells_one _) ?_)
  go_ret
  exact ⟨rfl, by rw [World.setRow_alloc_new]; exact HB2.out.alloc HB2.out.size _⟩
theorem verify_ref_all (R : List UInt8) (hR : R.length = 16) (x : Int) (l : List UInt8) (A : Option Addr) (c : Nat) (hl : l.length ≤ 100000) (hc : l.length ≤ c) (hA : A = none → c = 0) (n : Int) (CA PA : Option Addr) (cs ps : List (List UInt8)) (cc pc : Nat) (w : World) (hsrc : SrcAt A l w) (hsc : Shorts CA cs w) (hsp : Shorts PA ps w) :
  Calls Tryz.prog 50 #[.agg (pkc R x), .slice A l.length c, .agg #[.int .i64 n, .slice CA cs.length cc, .slice PA ps.length pc]] w fun e w' => e = .returned (.bool (decide (chkV x n cs.length ps.length = 0) && (rtV l cs ps x n == R))) ∧ Below w.heap.size w w' :=
 verify_ref_of R (rtV l cs ps x n) hR (rtV_len _ _ _ _ _) x n (chkV x n cs.length ps.length) A l.length c CA PA cs.length cc ps.length pc w (fun V hb => root_ref_all l A c hl hc hA n CA PA cs ps cc pc V (hsrc.on hb) (hsc.on hb) (hsp.on hb) x)
end Go.Proofs.YtcgffkkfeimifaaGreatDoor
namespace Go.Proofs.YtcgffkkfeimifaaGreatDoor
open Go.RowKit Sha Ots
set_option linter.unusedVariables false
set_option linter.unusedSimpArgs false
set_option maxRecDepth 100000 in
set_option maxHeartbeats 4000000 in
theorem seed7_ref (l : List UInt8) (hl : l.length = 16) (i : Nat) (hi : i < 256) (w : World) :
  Calls Tryz.prog 83 #[.agg (bcells l), .int .i64 (i : Int)] w fun e w' => e = .returned (.agg (bcells (msd l i))) ∧ Below w.heap.size w w' := by
 have hsho : ∀ (g : Nat) (V : World) (v : Value), V.ownsRow g 5 1 v (l ++ [UInt8.ofNat i, 254, 0]).length (bvals (l ++ [UInt8.ofNat i, 254, 0])) → Calls Tryz.prog 121 #[v] V fun e w' => e = .returned (.agg (bcells (msd l i))) ∧ Below V.heap.size V w' := fun g V v ho => short_ref_own _ (by rw [List.length_append, hl]; show 16 + 3 ≤ 100000; decide) g V v ho
 have hadd : ∀ (V : World), Calls Tryz.prog 122 #[.slice none 0 0, .agg (bcells l)] V (AddPost V.heap.size [] l V) := fun V => add_ref l [] hl (by decide) V.heap.size _ V (Nat.le_refl _) ⟨rfl, Or.inl ⟨rfl, rfl⟩⟩
 obtain ⟨F, hF⟩ : ∃ F, msd l i = F := ⟨_, rfl⟩
 have hF16 : F.length = 16 := by rw [← hF]; exact msd_len _ _
 rw [hF] at hsho ⊢
 have hwi := u8_wrap i hi
 obtain ⟨a, ha⟩ : ∃ a, UInt8.ofNat i = a := ⟨_, rfl⟩
 rw [ha] at hwi hsho
 have SHO := Lib.hid hsho
 have HAD := Lib.hid hadd
 have HSZL := Lib.hid (sz16 l hl)
 have HSZ := Lib.hid (sz16 F hF16)
 have hso : (16 : Nat) = (bcells F).size := by rw [bcells_size, hF16]
 have HSO := Lib.hid hso
 have HL := Lib.hid hl
 clear hsho hadd hF hF16 hi ha hso hl
 go_enter Tryz.func83, Tryz.ntmps83
 go_upto_region 1 with (fail)
 generalize hV : World.alloc (World.alloc w _) _ = V
 have HB0 : RowKit.Hid (Below w.heap.size w V) := Lib.hid (by rw [← hV]; exact (below_new _ _).alloc (by simp) _)
 have HR0 : RowKit.Hid (V.heap[w.heap.size]? = some (.cells (bcells l) 41 (0, 0))) := Lib.hid (by rw [← hV]; exact heap_alloc2_old _ _ _)
 have HR1 : RowKit.Hid (V.heap[w.heap.size + 1]? = some (.cells (bcells (List.replicate 16 0)) 41 (0, 0))) := Lib.hid (by rw [← hV]; exact (heap_alloc2_new _ _ _).trans rfl)
 clear hV
 go_wp2_with (refine wpList_load_row rfl 41 (.tmp 2) rfl w.heap.size rfl 41 (bcells l) (0, 0) _ HR0.out Tryz.underlying41 rfl HSZL.out ?_)
 refine (HAD.out V).mono ?_
 rintro e w1 ⟨v1, rfl, ho1, hb1⟩
 rw [List.nil_append, HL.out] at ho1
 have HO1 := Lib.hid ho1
 have HB1 := Lib.hid hb1
 clear ho1 hb1
 go_wp2_with (at_builtin; go_loud (refine append_src7 rfl (.tmp 6) (.tmp 9) rfl V.heap.size _ 16 (bvals l) rfl (HO1.out.alloc _) (some ⟨w1.heap.size, 0, none⟩) [a, 254, 0] 3 3 rfl rfl (fun e => by cases e) (srcAt_row (heap_alloc_new w1 _)) (by decide) (by have := HB1.out.size; rw [World.size_alloc]; omega) ?_); intro v2 w3 ho2 hg2; have HO2 := Lib.hid ho2; have HG2 := Lib.hid hg2; clear ho2 hg2)
 have hb3 : Below V.heap.size V w3 := (HB1.out.alloc HB1.out.size _).grown HG2.out (by have := HB1.out.size; rw [World.size_alloc]; omega) (fun j hj => (own_ge7 HO1.out hj).1)
 have hod : w3.ownsRow V.heap.size 5 1 v2 (l ++ [a, 254, 0]).length (bvals (l ++ [a, 254, 0])) := by
  rw [bvals_app, List.length_append, HL.out]
  exact HO2.out
 have HR3 := Lib.hid (row_on7 HR1.out hb3)
 have HB3 := Lib.hid (chain HB0.out hb3)
 have HO3 := Lib.hid hod
 clear hb3 hod HO1 HG2 HR0 HR1 HB0 HB1 HO2
 refine (SHO.out _ _ _ HO3.out).mono ?_
 rintro e w4 ⟨rfl, hb4⟩
 have HR4 := Lib.hid (row_on7 HR3.out hb4)
 have HB4 := Lib.hid (chain HB3.out hb4)
 clear hb4 HR3 HB3 HO3
 go_wp2_with (refine wpList_store_row rfl 41 (.tmp 4) (.tmp 11) rfl (w.heap.size + 1) (bcells F) rfl rfl 41 _ HR4.out HSZ.out HSO.out (bcells_one _) ?_)
 refine bodyPost_ret (v := .agg (bcells F)) (results_cell_row rfl _ _ (w.heap.size + 1) 41 _ (0, 0) _ rfl (setRow_heap _ _ _ _ _ _ HR4.out) Tryz.underlying41 rfl HSZ.out) rfl ⟨rfl, ?_⟩
 exact below_row HB4.out (by omega) _

set_option maxRecDepth 100000 in
set_option maxHeartbeats 4000000 in
theorem node_ref (seed : List UInt8) (hs : seed.length = 16) : ∀ (lv k : Nat), lv ≤ 4 → (k + 1) * 2 ^ lv ≤ 256 → ∀ (w : World),
  Calls Tryz.prog 84 #[.agg (bcells seed), .int .i64 (lv : Int), .int .i64 (k : Int)] w fun e w' => e = .returned (.agg (bcells (node seed lv k))) ∧ Below w.heap.size w w'
 | 0, k, _, hk, w => by
  rw [Nat.pow_zero, Nat.mul_one] at hk
  have hso := fun (V : World) => seed7_ref seed hs k (by omega) V
  have hpu := fun (V : World) => public_ref (msd seed k) (msd_len seed k) V
  have hnd : node seed 0 k = pub (msd seed k) := rfl
  rw [hnd]
  obtain ⟨M, hM⟩ : ∃ M, msd seed k = M := ⟨_, rfl⟩
  rw [hM] at hso hpu ⊢
  have hF16 : (pub M).length = 16 := by unfold pub; exact sh_len _
  obtain ⟨F, hF⟩ : ∃ F, pub M = F := ⟨_, rfl⟩
  rw [hF] at hpu hF16 ⊢
  have SO := Lib.hid hso
  have PU := Lib.hid hpu
  have HSZL := Lib.hid (sz16 seed hs)
  have HSZ := Lib.hid (sz16 F hF16)
  have hso2 : (16 : Nat) = (bcells F).size := by rw [bcells_size, hF16]
  have HSO := Lib.hid hso2
  clear hso hpu hnd hM hF16 hF hso2 hs hk
  rw [show ((0 : Nat) : Int) = 0 by rfl]
  go_enter Tryz.func84, Tryz.ntmps84
  go_upto_region 1 with (fail)
  generalize hV : World.alloc (World.alloc w _) _ = V
  have HB0 : RowKit.Hid (Below w.heap.size w V) := Lib.hid (by rw [← hV]; exact (below_new _ _).alloc (by simp) _)
  have HR0 : RowKit.Hid (V.heap[w.heap.size]? = some (.cells (bcells seed) 41 (0, 0))) := Lib.hid (by rw [← hV]; exact heap_alloc2_old _ _ _)
  have HR1 : RowKit.Hid (V.heap[w.heap.size + 1]? = some (.cells (bcells (List.replicate 16 0)) 41 (0, 0))) := Lib.hid (by rw [← hV]; exact (heap_alloc2_new _ _ _).trans rfl)
  clear hV
  go_wp2_with (refine wpList_load_row rfl 41 (.tmp 3) rfl w.heap.size rfl 41 (bcells seed) (0, 0) _ HR0.out Tryz.underlying41 rfl HSZL.out ?_)
  refine (SO.out V).mono ?_
  rintro e w1 ⟨rfl, hb1⟩
  have HR2 := Lib.hid (row_on7 HR1.out hb1)
  have HB2 := Lib.hid (chain HB0.out hb1)
  clear hb1 HR0 HR1 HB0
  go_wp2_with fail
  refine (PU.out w1).mono ?_
  rintro e w4 ⟨rfl, hb4⟩
  have HR4 := Lib.hid (row_on7 HR2.out hb4)
  have HB4 := Lib.hid (chain HB2.out hb4)
  clear hb4 HR2 HB2
  go_wp2_with (refine wpList_store_row rfl 41 (.tmp 6) (.tmp 12) rfl (w.heap.size + 1) (bcells F) rfl rfl 41 _ HR4.out HSZ.out HSO.out (bcells_one _) ?_)
  refine bodyPost_ret (v := .agg (bcells F)) (results_cell_row rfl _ _ (w.heap.size + 1) 41 _ (0, 0) _ rfl (setRow_heap _ _ _ _ _ _ HR4.out) Tryz.underlying41 rfl HSZ.out) rfl ⟨rfl, ?_⟩
  exact below_row HB4.out (by omega) _
 | lv + 1, k, hlv, hk, w => by
  have hp : 2 ^ (lv + 1) = 2 ^ lv + 2 ^ lv := by rw [Nat.pow_succ]; omega
  have hkp : (k + 1) * 2 ^ (lv + 1) = (2 * k + 1 + 1) * 2 ^ lv := by rw [Nat.pow_succ, Nat.mul_comm (2 ^ lv) 2, ← Nat.mul_assoc]; congr 1; omega
  have hle1 : (2 * k + 1) * 2 ^ lv ≤ (2 * k + 1 + 1) * 2 ^ lv := Nat.mul_le_mul_right _ (by omega)
  have hk255 : k + 1 ≤ 256 := by
   have h1 : (k + 1) * 1 ≤ (k + 1) * 2 ^ (lv + 1) := Nat.mul_le_mul_left _ (Nat.two_pow_pos _)
   omega
  have hna := fun (V : World) => node_ref seed hs lv (2 * k) (by omega) (by omega) V
  have hnb := fun (V : World) => node_ref seed hs lv (2 * k + 1) (by omega) (by omega) V
  have hjo := fun (V : World) => joined7_ref (node seed lv (2 * k)) (node seed lv (2 * k + 1)) (node_len _ _ _) (node_len _ _ _) V
  have hnd : node seed (lv + 1) k = jn (node seed lv (2 * k)) (node seed lv (2 * k + 1)) := rfl
  rw [hnd]
  have hF16 : (jn (node seed lv (2 * k)) (node seed lv (2 * k + 1))).length = 16 := jn_len _ _
  obtain ⟨F, hF⟩ : ∃ F, jn (node seed lv (2 * k)) (node seed lv (2 * k + 1)) = F := ⟨_, rfl⟩
  rw [hF] at hjo hF16 ⊢
  obtain ⟨NX, hNX⟩ : ∃ NX, node seed lv (2 * k) = NX := ⟨_, rfl⟩
  obtain ⟨NY, hNY⟩ : ∃ NY, node seed lv (2 * k + 1) = NY := ⟨_, rfl⟩
  rw [hNX] at hna hjo
  rw [hNY] at hnb hjo
  have w1 : IntKind.i64.wrap (((lv + 1 : Nat) : Int) - 1) = (lv : Int) := by rw [IntWalk.i64_in _ (by omega)]; omega
  have w2 : IntKind.i64.wrap (2 * (k : Int)) = ((2 * k : Nat) : Int) := by rw [IntWalk.i64_in _ (by omega)]; omega
  have w3 : IntKind.i64.wrap (((2 * k : Nat) : Int) + 1) = ((2 * k + 1 : Nat) : Int) := by rw [IntWalk.i64_in _ (by omega)]; omega
  have hne : (((lv + 1 : Nat) : Int) == 0) = false := by simp; omega
  obtain ⟨L1, hL1⟩ : ∃ L1 : Int, ((lv + 1 : Nat) : Int) = L1 := ⟨_, rfl⟩
  obtain ⟨L0, hL0⟩ : ∃ L0 : Int, (lv : Int) = L0 := ⟨_, rfl⟩
  obtain ⟨K0, hK0⟩ : ∃ K0 : Int, (k : Int) = K0 := ⟨_, rfl⟩
  obtain ⟨K2, hK2⟩ : ∃ K2 : Int, ((2 * k : Nat) : Int) = K2 := ⟨_, rfl⟩
  obtain ⟨K3, hK3⟩ : ∃ K3 : Int, ((2 * k + 1 : Nat) : Int) = K3 := ⟨_, rfl⟩
  rw [hL1] at w1 hne ⊢
  rw [hL0] at w1 hna hnb
  rw [hK0] at w2 ⊢
  rw [hK2] at w2 w3 hna
  rw [hK3] at w3 hnb
  have NA := Lib.hid hna
  have NB := Lib.hid hnb
  have JO := Lib.hid hjo
  have HSZ := Lib.hid (sz16 F hF16)
  have hso2 : (16 : Nat) = (bcells F).size := by rw [bcells_size, hF16]
  have HSO := Lib.hid hso2
  have his : (Tryz.prog.info? 41).map (·.size) = some (bvals seed).length := by rw [bvals_len, hs]; kernel_rfl
  have HIS := Lib.hid his
  have hu := Tryz.underlying41
  clear hp hkp hle1 hk255 hna hnb hjo hnd hF16 hF hNX hNY hL1 hL0 hK0 hK2 hK3 hso2 his hs hlv hk
  go_enter Tryz.func84, Tryz.ntmps84
  go_upto_region 1 with (fail)
  generalize hV : World.alloc (World.alloc w _) _ = V
  have hr0 : V.heap[w.heap.size]? = some (.cells (bcells seed) 41 (0, 0)) := by rw [← hV]; exact heap_alloc2_old _ _ _
  have HB0 : RowKit.Hid (Below w.heap.size w V) := Lib.hid (by rw [← hV]; exact (below_new _ _).alloc (by simp) _)
  have HR0 := Lib.hid hr0
  have HR1 : RowKit.Hid (V.heap[w.heap.size + 1]? = some (.cells (bcells (List.replicate 16 0)) 41 (0, 0))) := Lib.hid (by rw [← hV]; exact (heap_alloc2_new _ _ _).trans rfl)
  clear hV hr0
  go_wp2_with fail
  obtain ⟨U, hU⟩ : ∃ U, V.drew = U := ⟨_, rfl⟩
  have hS0 : V.drew.rangeAt w.heap.size 0 (bvals seed) := rangeAt_on (rangeAt_row0 HR0.out) (Below.refl _ _).drew
  refine wp_region_held_drew (S := fun z => z.rangeAt w.heap.size 0 (bvals seed)) (by kernel_rfl) hS0 (fun hHeld => ?_)
  rw [hU] at hHeld ⊢
  have hbU : Below V.heap.size V U := by rw [← hU]; exact (Below.refl _ _).drew
  have HBU := Lib.hid (chain HB0.out hbU)
  have HRA := Lib.hid (row_on7 HR0.out hbU)
  have HRC := Lib.hid (row_on7 HR1.out hbU)
  have mkS : ∀ z, Below U.heap.size U z → z.rangeAt w.heap.size 0 (bvals seed) := fun z hz => rangeAt_row0 (row_on7 HRA.out hz)
  clear hS0 hU hbU HB0 HR0 HR1
  refine wpAnyH_take (i := 0) (oi := { dst := some 13, op := .load 41 (.tmp 3), type := 41, pos := "ref.go:48", after := #[], guard := none }) (v := .agg (bvals seed).toArray) rfl (by kernel_rfl) (by kernel_rfl) (by kernel_rfl) (fun _ _ _ h => h) (yieldsIf_load_mid (by rfl) _ _ rfl _ _ rfl (bvals seed) _ (fun w hSw => hSw) hu rfl HIS.out) hHeld ?_
  try simp only [Act.put, List.setIfInBounds_toArray, List.set_cons_zero, List.set_cons_succ]
  refine wpAnyH_take (i := 1) (oi := { dst := some 14, op := .move (.tmp 1), type := 3, pos := "ref.go:48", after := #[], guard := none }) (v := ?_) rfl (by kernel_rfl) (by kernel_rfl) (by kernel_rfl) (fun _ _ _ h => h) (Or.inl ⟨by rfl, ?_⟩) hHeld ?_
  rotate_left
  ·
   intro w hSw
   clear hSw
   go_simp
   try with_reducible rfl
  try simp only [Act.put, List.setIfInBounds_toArray, List.set_cons_zero, List.set_cons_succ]
  refine wpAnyH_take (i := 2) (oi := { dst := some 15, op := .binOp .sub 3 (.tmp 14) (.const (.int .i64 1)) 3, type := 3, pos := "ref.go:48", after := #[{ on := 1, ground := .data }], guard := none }) (v := ?_) rfl (by kernel_rfl) (by kernel_rfl) (by kernel_rfl) (fun _ _ _ h => h) (Or.inl ⟨by rfl, ?_⟩) hHeld ?_
  rotate_left
  ·
   intro w hSw
   clear hSw
   go_simp
   try with_reducible rfl
  try simp only [Act.put, List.setIfInBounds_toArray, List.set_cons_zero, List.set_cons_succ]
  refine wpAnyH_take (i := 3) (oi := { dst := some 16, op := .move (.tmp 2), type := 3, pos := "ref.go:48", after := #[], guard := none }) (v := ?_) rfl (by kernel_rfl) (by kernel_rfl) (by kernel_rfl) (fun _ _ _ h => h) (Or.inl ⟨by rfl, ?_⟩) hHeld ?_
  rotate_left
  ·
   intro w hSw
   clear hSw
   go_simp
   try with_reducible rfl
  try simp only [Act.put, List.setIfInBounds_toArray, List.set_cons_zero, List.set_cons_succ]
  refine wpAnyH_take (i := 4) (oi := { dst := some 17, op := .binOp .mul 3 (.const (.int .i64 2)) (.tmp 16) 3, type := 3, pos := "ref.go:48", after := #[{ on := 3, ground := .data }], guard := none }) (v := ?_) rfl (by kernel_rfl) (by kernel_rfl) (by kernel_rfl) (fun _ _ _ h => h) (Or.inl ⟨by rfl, ?_⟩) hHeld ?_
  rotate_left
  ·
   intro w hSw
   clear hSw
   go_simp
   try with_reducible rfl
  try simp only [Act.put, List.setIfInBounds_toArray, List.set_cons_zero, List.set_cons_succ]
  refine wpAnyH_take (i := 6) (oi := { dst := some 19, op := .load 41 (.tmp 3), type := 41, pos := "ref.go:48", after := #[], guard := none }) (v := .agg (bvals seed).toArray) rfl (by kernel_rfl) (by kernel_rfl) (by kernel_rfl) (fun _ _ _ h => h) (yieldsIf_load_mid (by rfl) _ _ rfl _ _ rfl (bvals seed) _ (fun w hSw => hSw) hu rfl HIS.out) hHeld ?_
  try simp only [Act.put, List.setIfInBounds_toArray, List.set_cons_zero, List.set_cons_succ]
  refine wpAnyH_take (i := 7) (oi := { dst := some 20, op := .move (.tmp 1), type := 3, pos := "ref.go:48", after := #[], guard := none }) (v := ?_) rfl (by kernel_rfl) (by kernel_rfl) (by kernel_rfl) (fun _ _ _ h => h) (Or.inl ⟨by rfl, ?_⟩) hHeld ?_
  rotate_left
  ·
   intro w hSw
   clear hSw
   go_simp
   try with_reducible rfl
  try simp only [Act.put, List.setIfInBounds_toArray, List.set_cons_zero, List.set_cons_succ]
  refine wpAnyH_take (i := 8) (oi := { dst := some 21, op := .binOp .sub 3 (.tmp 20) (.const (.int .i64 1)) 3, type := 3, pos := "ref.go:48", after := #[{ on := 7, ground := .data }], guard := none }) (v := ?_) rfl (by kernel_rfl) (by kernel_rfl) (by kernel_rfl) (fun _ _ _ h => h) (Or.inl ⟨by rfl, ?_⟩) hHeld ?_
  rotate_left
  ·
   intro w hSw
   clear hSw
   go_simp
   try with_reducible rfl
  try simp only [Act.put, List.setIfInBounds_toArray, List.set_cons_zero, List.set_cons_succ]
  refine wpAnyH_take (i := 9) (oi := { dst := some 22, op := .move (.tmp 2), type := 3, pos := "ref.go:48", after := #[], guard := none }) (v := ?_) rfl (by kernel_rfl) (by kernel_rfl) (by kernel_rfl) (fun _ _ _ h => h) (Or.inl ⟨by rfl, ?_⟩) hHeld ?_
  rotate_left
  ·
   intro w hSw
   clear hSw
   go_simp
   try with_reducible rfl
  try simp only [Act.put, List.setIfInBounds_toArray, List.set_cons_zero, List.set_cons_succ]
  refine wpAnyH_take (i := 10) (oi := { dst := some 23, op := .binOp .mul 3 (.const (.int .i64 2)) (.tmp 22) 3, type := 3, pos := "ref.go:48", after := #[{ on := 9, ground := .data }], guard := none }) (v := ?_) rfl (by kernel_rfl) (by kernel_rfl) (by kernel_rfl) (fun _ _ _ h => h) (Or.inl ⟨by rfl, ?_⟩) hHeld ?_
  rotate_left
  ·
   intro w hSw
   clear hSw
   go_simp
   try with_reducible rfl
  try simp only [Act.put, List.setIfInBounds_toArray, List.set_cons_zero, List.set_cons_succ]
  refine wpAnyH_take (i := 11) (oi := { dst := some 24, op := .binOp .add 3 (.tmp 23) (.const (.int .i64 1)) 3, type := 3, pos := "ref.go:48", after := #[{ on := 10, ground := .data }], guard := none }) (v := ?_) rfl (by kernel_rfl) (by kernel_rfl) (by kernel_rfl) (fun _ _ _ h => h) (Or.inl ⟨by rfl, ?_⟩) hHeld ?_
  rotate_left
  ·
   intro w hSw
   clear hSw
   go_simp
   try with_reducible rfl
  try simp only [Act.put, List.setIfInBounds_toArray, List.set_cons_zero, List.set_cons_succ]
  refine wpAnyH_ready (rs := [5]) (by kernel_rfl) (by simp) (AllReadyH.cons (o := { dst := some 18, op := .call { callee := .value (.func 84), args := #[.tmp 13, .tmp 15, .tmp 17], argTypes := #[41, 3, 3] }, type := 41, pos := "ref.go:48", after := #[{ on := 0, ground := .data }, { on := 2, ground := .data }, { on := 4, ground := .data }], guard := none }) rfl (fun K hK => ?_) AllReadyH.nil)
  go_simp
  refine (NA.out _).mono ?_
  rintro e z1 ⟨rfl, hb1⟩
  go_simp
  refine hK.out _ _ (mkS _ hb1) (fun hHeld2 => ?_)
  clear hK K
  clear hHeld
  have hHeld := hHeld2
  clear hHeld2
  try simp only [Act.put, List.setIfInBounds_toArray, List.set_cons_zero, List.set_cons_succ]
  refine wpAnyH_ready (rs := [12]) (by kernel_rfl) (by simp) (AllReadyH.cons (o := { dst := some 25, op := .call { callee := .value (.func 84), args := #[.tmp 19, .tmp 21, .tmp 24], argTypes := #[41, 3, 3] }, type := 41, pos := "ref.go:48", after := #[{ on := 6, ground := .data }, { on := 8, ground := .data }, { on := 11, ground := .data }, { on := 5, ground := .chain }], guard := none }) rfl (fun K hK => ?_) AllReadyH.nil)
  go_simp
  refine (NB.out _).mono ?_
  rintro e z2 ⟨rfl, hb2⟩
  have hb3 : Below U.heap.size U z2 := chain hb1 hb2
  go_simp
  refine hK.out _ _ (mkS _ hb3) (fun hHeld2 => ?_)
  clear hK K
  clear hHeld
  have hHeld := hHeld2
  clear hHeld2
  try simp only [Act.put, List.setIfInBounds_toArray, List.set_cons_zero, List.set_cons_succ]
  refine wpAnyH_ready (rs := [13]) (by kernel_rfl) (by simp) (AllReadyH.cons (o := { dst := some 26, op := .call { callee := .value (.func 124), args := #[.tmp 18, .tmp 25], argTypes := #[41, 41] }, type := 41, pos := "ref.go:48", after := #[{ on := 5, ground := .data }, { on := 12, ground := .data }, { on := 12, ground := .chain }], guard := none }) rfl (fun K hK => ?_) AllReadyH.nil)
  go_simp
  refine (JO.out _).mono ?_
  rintro e z3 ⟨rfl, hb4⟩
  have hb5 : Below U.heap.size U z3 := chain hb3 hb4
  have HR3 := Lib.hid (row_on7 HRC.out hb5)
  go_simp
  refine hK.out _ _ (mkS _ hb5) (fun hHeld2 => ?_)
  clear hK K
  clear hHeld
  have hHeld := hHeld2
  clear hHeld2
  try simp only [Act.put, List.setIfInBounds_toArray, List.set_cons_zero, List.set_cons_succ]
  refine wpAnyH_ready (rs := [14]) (by kernel_rfl) (by simp) (AllReadyH.cons (o := { dst := none, op := .store 41 (.tmp 6) (.tmp 26), type := 0, pos := "ref.go:48", after := #[{ on := 13, ground := .data }, { on := 13, ground := .chain }, { on := 0, ground := .phase }, { on := 1, ground := .phase }, { on := 2, ground := .phase }, { on := 3, ground := .phase }, { on := 4, ground := .phase }, { on := 5, ground := .phase }, { on := 6, ground := .phase }, { on := 7, ground := .phase }, { on := 8, ground := .phase }, { on := 9, ground := .phase }, { on := 10, ground := .phase }, { on := 11, ground := .phase }, { on := 12, ground := .phase }, { on := 13, ground := .phase }], guard := none }) rfl (fun K hK => ?_) AllReadyH.nil)
  try rw [if_pos (by rfl)]
  refine wp_store_mid 41 (.tmp 6) (.tmp 26) rfl (w.heap.size + 1) 0 (bcells F) rfl rfl (there_row HR3.out _ (by rw [← HSO.out, bcells_size]; exact Nat.le_refl _)) HSZ.out (bcells_one _) ?_
  have HR4 := Lib.hid (row_setCells HR3.out (cs := bcells F) (by rw [← HSO.out, bcells_size]; rfl))
  have HB4 := Lib.hid (below_setCells (bcells F).toList 0 _ (chain HBU.out hb5) (show w.heap.size ≤ w.heap.size + 1 by omega))
  refine hK.out _ _ (rangeAt_far hHeld _ _ (by omega)) (fun hHeld2 => ?_)
  clear hK K hHeld hHeld2
  try simp only [Act.put, List.setIfInBounds_toArray, List.set_cons_zero, List.set_cons_succ]
  refine wpAnyH_done (by kernel_rfl) ?_ _
  generalize World.setCells _ _ _ _ = z5 at HR4 HB4 ⊢
  clear hb1 hb2 hb3 hb4 hb5 mkS
  go_wp2_with fail
  refine bodyPost_ret (v := .agg (bcells F)) (results_cell_row rfl _ _ (w.heap.size + 1) 41 _ (0, 0) _ rfl HR4.out Tryz.underlying41 rfl HSZ.out) rfl ⟨rfl, HB4.out⟩
end Go.Proofs.YtcgffkkfeimifaaGreatDoor
namespace Go.Proofs.YtcgffkkfeimifaaGreatDoor
open Go.RowKit Sha Ots
set_option linter.unusedVariables false
set_option linter.unusedSimpArgs false
set_option maxRecDepth 100000 in
set_option maxHeartbeats 4000000 in
theorem sign_ref_bad (seed : List UInt8) (h n : Int) (M : Value) (hh : ¬ (0 ≤ h ∧ h ≤ 4 ∧ 0 ≤ n ∧ n < ((2 ^ h.toNat : Nat) : Int))) (w : World) :
  Calls Tryz.prog 45 #[.agg (bcells seed), .int .i64 h, .int .i64 n, M] w fun e w' => e = .returned (.tuple #[.agg #[.int .i64 0, .slice none 0 0, .slice none 0 0], .int .i64 2]) ∧ Below w.heap.size w w' := by
 by_cases hc : 0 ≤ h ∧ h ≤ 4 ∧ 0 ≤ n
 ·
  obtain ⟨k, rfl⟩ : ∃ k : Nat, h = (k : Int) := ⟨h.toNat, by omega⟩
  have hk4 : k ≤ 4 := by omega
  have hn0 : ¬ n < 0 := by omega
  have hnp : ((2 ^ k : Nat) : Int) ≤ n := by
   have h1 : ¬ n < ((2 ^ k : Nat) : Int) := fun h => hh ⟨hc.1, hc.2.1, hc.2.2, h⟩
   omega
  have PW := Lib.hid (fun (V : World) => power_ref k hk4 V)
  have hk0 : ¬ (k : Int) < 0 := by omega
  have hk5 : ¬ (4 : Int) < (k : Int) := by omega
  obtain ⟨p, hp⟩ : ∃ p : Int, ((2 ^ k : Nat) : Int) = p := ⟨_, rfl⟩
  obtain ⟨ki, hki⟩ : ∃ ki : Int, (k : Int) = ki := ⟨_, rfl⟩
  rw [hp] at hnp PW
  rw [hki] at PW hk0 hk5 ⊢
  clear hh hc hk4 hp hki
  go_enter Tryz.func45, Tryz.ntmps45
  go_wp2_with fail
  refine (PW.out _).mono ?_
  rintro e w1 ⟨rfl, hb1⟩
  have HR2 := Lib.hid ((hb1.block (w.heap.size + 1) (by simp)).trans (heap_alloc2_new _ _ _))
  have HB2 := Lib.hid (chain ((below_new w _).trans ((below_new _ _).mono (by simp))) hb1)
  clear hb1
  have hlt2 := (Array.getElem?_eq_some_iff.1 HR2.out).1
  obtain ⟨⟨hf0, hf1, hf2⟩, hc0, hc1, hc2⟩ := facts3k HR2.out
  go_wp2_with fail
  refine bodyPost_ret (v := .tuple #[.agg #[.int .i64 0, .slice none 0 0, .slice none 0 0], .int .i64 2]) (results_twoS rfl _ _ (w.heap.size + 1) 30 _ (0, 0) _ rfl rfl (put3 HR2.out _ _ _) Tryz.underlying30 (sz3 _ _ _)) rfl ⟨rfl, ?_⟩
  exact below_put3 HB2.out (by omega) _ _ _
 ·
  have hp : h < 0 ∨ (¬ h < 0 ∧ 4 < h) ∨ (¬ h < 0 ∧ ¬ 4 < h ∧ n < 0) := by omega
  rcases hp with hp | ⟨hp, hp2⟩ | ⟨hp, hp2, hp3⟩
  all_goals
   clear hh hc
   go_enter Tryz.func45, Tryz.ntmps45
   go_upto_region 1 with (fail)
   generalize hV : World.alloc (World.alloc w _) _ = V
   have HB2 : RowKit.Hid (Below w.heap.size w V) := Lib.hid (by rw [← hV]; exact (below_new _ _).alloc (by simp) _)
   have HR2 : RowKit.Hid (V.heap[w.heap.size + 1]? = some (.cells #[.int .i64 0, .slice none 0 0, .slice none 0 0] 30 (0, 0))) := Lib.hid (by rw [← hV]; exact (heap_alloc2_new _ _ _).trans rfl)
   clear hV
   have hlt2 := (Array.getElem?_eq_some_iff.1 HR2.out).1
   obtain ⟨⟨hf0, hf1, hf2⟩, hc0, hc1, hc2⟩ := facts3k HR2.out
   go_wp2_with fail
   refine bodyPost_ret (v := .tuple #[.agg #[.int .i64 0, .slice none 0 0, .slice none 0 0], .int .i64 2]) (results_twoS rfl _ _ (w.heap.size + 1) 30 _ (0, 0) _ rfl rfl (put3 HR2.out _ _ _) Tryz.underlying30 (sz3 _ _ _)) rfl ⟨rfl, ?_⟩
   exact below_put3 HB2.out (by omega) _ _ _
theorem own_sliceS7 {w : World} {b n : Nat} {v : Value} {xs : List Value} (h : w.ownsRow b 41 16 v n xs) : ∃ A cap, v = .slice A n cap := by
 obtain ⟨h1, ⟨rfl, rfl⟩ | ⟨g, cap, cur, rfl, h3, h4, _⟩⟩ := h
 ·
  exact ⟨none, 0, rfl⟩
 ·
  exact ⟨_, cap, rfl⟩
theorem shorts_put3z {V : World} {A : Option Addr} {ls : List (List UInt8)} {G : Nat} {T : TypeId} {fr : Nat × Nat} (h : Shorts A ls V) (hr : V.heap[G]? = some (.cells #[.int .i64 0, .slice none 0 0, .slice none 0 0] T fr)) (a b c : Value) : Shorts A ls (((V.setCell ⟨G, 0, none⟩ a).setCell ⟨G, 1, none⟩ b).setCell ⟨G, 2, none⟩ c) := by
 cases ls with
 | nil => exact ⟨fun i l hi => by simp at hi, fun l hl => by simp at hl⟩
 | cons l r =>
  refine shorts_put3 h (fun X o e hX => ?_) _ _ _
  subst hX
  obtain ⟨g, o2, e2, hrg⟩ := h.row 0 l rfl
  rw [e] at e2
  obtain ⟨rfl, rfl⟩ : X = g ∧ o = o2 := by
   have h3 := Option.some.inj e2
   exact ⟨congrArg Addr.block h3, congrArg Addr.off h3⟩
  have hl := h.len l (by simp)
  cases l with
  | nil => cases hl
  | cons x y =>
   have h1 := hrg 0 (.int .u8 (x.toNat : Int)) rfl
   rw [cell_of_row _ _ _ _ _ _ hr] at h1
   have ho : o = 0 ∨ o = 1 ∨ o = 2 ∨ 3 ≤ o := by omega
   rcases ho with rfl | rfl | rfl | ho
   ·
    simp at h1
   ·
    simp at h1
   ·
    simp at h1
   ·
    rw [Array.getElem?_eq_none (by simp; omega)] at h1
    cases h1
structure SX (W3 : World) (nI : Int) (CV : Value) (PA : Option Addr) (pc k : Nat) (F : List UInt8) (V : World) : Prop where
 bs : Below W3.heap.size W3 V
 rg : V.heap[W3.heap.size]? = some (.cells #[.int .i64 nI, CV, .slice PA k pc] 30 (0, 0))
 own : V.ownsRow (W3.heap.size + 1) 41 16 (.slice PA k pc) k (bvals F)
theorem SX.on {W3 V U : World} {nI : Int} {CV : Value} {PA : Option Addr} {pc k : Nat} {F : List UInt8} (h : SX W3 nI CV PA pc k F V) (hb : Below V.heap.size V U) : SX W3 nI CV PA pc k F U :=
 ⟨chain h.bs hb, row_on7 h.rg hb, own_onS h.own hb⟩
def SignPost (n : Int) (h : Nat) (SG PT : List (List UInt8)) (w : World) (e : Ending) (w' : World) : Prop := ∃ B cb PA pc, e = .returned (.tuple #[.agg #[.int .i64 n, .slice B 35 cb, .slice PA h pc], .int .i64 0]) ∧ Shorts B SG w' ∧ Shorts PA PT w' ∧ Below w.heap.size w w'
set_option maxRecDepth 100000 in
set_option maxHeartbeats 4000000 in
theorem sign_ref_yes (seed : List UInt8) (hs : seed.length = 16) (h n : Nat) (hh : h ≤ 4) (hn : n < 2 ^ h) (l : List UInt8) (A : Option Addr) (c : Nat) (hl : l.length ≤ 100000) (hc : l.length ≤ c) (hA : A = none → c = 0) (w : World) (hsrc : SrcAt A l w) :
  Calls Tryz.prog 45 #[.agg (bcells seed), .int .i64 (h : Int), .int .i64 (n : Int), .slice A l.length c] w (SignPost (n : Int) h (sgn (msd seed n) l) (pth seed 0 n h) w) := by
 have hn16 : n < 16 := by
  have := Nat.pow_le_pow_right (show 0 < 2 by decide) hh
  have h16 : 2 ^ 4 = 16 := rfl
  omega
 have PW := Lib.hid (fun (V : World) => power_ref h hh V)
 have hnp : ¬ ((2 ^ h : Nat) : Int) ≤ (n : Int) := by omega
 have hso := fun (V : World) => seed7_ref seed hs n (by omega) V
 have hsi := fun (V : World) (hb : Below w.heap.size w V) => sign_ref (msd seed n) (msd_len seed n) l A c hl hc hA V (hsrc.on hb)
 obtain ⟨D, hD⟩ : ∃ D : Nat → Nat, ∀ k, D k = n / 2 ^ k := ⟨_, fun _ => rfl⟩
 have hD0 : D 0 = n := by rw [hD, Nat.pow_zero, Nat.div_one]
 have hDl : ∀ k, D k ≤ 15 := fun k => by rw [hD]; have := Nat.div_le_self n (2 ^ k); omega
 have hDs : ∀ k, (D k : Int) / 2 = (D (k + 1) : Int) := fun k => by
  have e2 : D k / 2 = D (k + 1) := by rw [hD, hD, Nat.pow_succ, Nat.div_div_eq_div_mul]
  rw [← e2]
  omega
 have hno : ∀ (k : Nat), k < h → ∀ (j : Int), j = ((sib (D k) : Nat) : Int) → ∀ V : World, Calls Tryz.prog 84 #[.agg (bvals seed).toArray, .int .i64 (k : Int), .int .i64 j] V fun e w' => e = .returned (.agg (bcells (node seed k (sib (D k))))) ∧ Below V.heap.size V w' := fun k hk j hj V => by
  subst hj
  refine node_ref seed hs k (sib (D k)) (by omega) ?_ V
  have h1 : sib (D k) + 1 ≤ 17 := by have := hDl k; unfold sib; split <;> omega
  have h2 : 2 ^ k ≤ 8 := by
   have := Nat.pow_le_pow_right (show 0 < 2 by decide) (show k ≤ 3 by omega)
   simpa using this
  have h3 := Nat.mul_le_mul h1 h2
  omega
 have hpf : ∀ k, (pth seed 0 n (k + 1)).flatten = (pth seed 0 n k).flatten ++ node seed k (sib (D k)) := fun k => by
  rw [pth_snoc, flatten_snoc, Nat.zero_add, hD]
 have hpm : ∀ p ∈ pth seed 0 n h, p.length = 16 := pth_mem seed h 0 n
 have hpl : (pth seed 0 n h).length = h := pth_length seed h 0 n
 have hnl : ∀ k, (node seed k (sib (D k))).length = 16 := fun k => node_len seed _ _
 have hp0 : (pth seed 0 n 0).flatten = [] := rfl
 obtain ⟨PTH, hPTH⟩ : ∃ PTH, pth seed 0 n = PTH := ⟨_, rfl⟩
 rw [hPTH] at hpf hpm hpl hp0 ⊢
 obtain ⟨ND, hND⟩ : ∃ ND : Nat → List UInt8, ∀ k, node seed k (sib (D k)) = ND k := ⟨_, fun _ => rfl⟩
 simp only [hND] at hno hpf hnl
 obtain ⟨PF, hPF⟩ : ∃ PF : Nat → List UInt8, ∀ k, (PTH k).flatten = PF k := ⟨_, fun _ => rfl⟩
 simp only [hPF] at hpf hp0
 obtain ⟨SG, hSG⟩ : ∃ SG, sgn (msd seed n) l = SG := ⟨_, rfl⟩
 rw [hSG] at hsi ⊢
 have hm16 := msd_len seed n
 obtain ⟨MS, hMS⟩ : ∃ MS, msd seed n = MS := ⟨_, rfl⟩
 rw [hMS] at hso hsi hm16
 have hse : ∀ k, (D k % 2 = 0 → (D k : Int) + 1 = ((sib (D k) : Nat) : Int)) ∧ (¬ D k % 2 = 0 → (D k : Int) - 1 = ((sib (D k) : Nat) : Int)) := fun k => by
  unfold sib
  constructor
  ·
   intro h
   rw [if_neg (by omega)]
   omega
  ·
   intro h
   rw [if_pos (by omega)]
   omega
 have hk0 : ¬ (h : Int) < 0 := by omega
 have hk5 : ¬ (4 : Int) < (h : Int) := by omega
 have hn0 : ¬ (n : Int) < 0 := by omega
 obtain ⟨p, hp⟩ : ∃ p : Int, ((2 ^ h : Nat) : Int) = p := ⟨_, rfl⟩
 rw [hp] at hnp PW
 obtain ⟨nI, hNI⟩ : ∃ nI : Int, (n : Int) = nI := ⟨_, rfl⟩
 rw [hNI] at hnp hso hn0 ⊢
 have HNI := Lib.hid hNI
 obtain ⟨m, hm⟩ : ∃ m, l.length = m := ⟨_, rfl⟩
 rw [hm] at hsi ⊢
 have SO := Lib.hid hso
 have SI := Lib.hid hsi
 have NOA := Lib.hid hno
 have HPF := Lib.hid hpf
 have HPFE := Lib.hid hPF
 have HPM := Lib.hid hpm
 have HPL := Lib.hid hpl
 have HNL := Lib.hid hnl
 have HP0 := Lib.hid hp0
 have HSE := Lib.hid hse
 have HD0 := Lib.hid hD0
 have HDS := Lib.hid hDs
 have HDL := Lib.hid hDl
 have HSZ0 := Lib.hid (sz16 seed hs)
 have HH := Lib.hid hh
 have his : (Tryz.prog.info? 41).map (·.size) = some (bvals seed).length := by rw [bvals_len, hs]; kernel_rfl
 have HIS := Lib.hid his
 have hSZM := Lib.hid (sz16 MS hm16)
 clear hso hsi hno hpf hPF hpm hpl hnl hp0 hse hD hD0 hDs hDl hPTH hND hSG hm16 hMS hp hNI hm his hn16 hs hn hl hc hA hsrc hh
 go_enter Tryz.func45, Tryz.ntmps45
 go_wp2_with fail
 refine (PW.out _).mono ?_
 rintro e w1 ⟨rfl, hb1⟩
 have HR0 := Lib.hid ((hb1.block w.heap.size (by simp; omega)).trans (heap_alloc2_old _ _ _))
 have HR1 := Lib.hid ((hb1.block (w.heap.size + 1) (by simp)).trans (heap_alloc2_new _ _ _))
 have HB1 := Lib.hid (chain ((below_new w _).trans ((below_new _ _).mono (by simp))) hb1)
 clear hb1
 go_wp2_with (refine wpList_load_row rfl 41 (.tmp 4) rfl w.heap.size rfl 41 (bcells seed) (0, 0) _ HR0.out Tryz.underlying41 rfl HSZ0.out ?_)
 refine (SO.out _).mono ?_
 rintro e w2 ⟨rfl, hb2⟩
 have HR02 := Lib.hid (row_on7 HR0.out hb2)
 have HR12 := Lib.hid (row_on7 HR1.out hb2)
 have HB2 := Lib.hid (chain HB1.out hb2)
 clear hb2 HR0 HR1 HB1
 go_wp2_with fail
 refine (SI.out _ HB2.out).mono ?_
 rintro e W3 ⟨B, cb, rfl, hsg, hb3⟩
 have HR03 := Lib.hid (row_on7 HR02.out hb3)
 have HR13 := Lib.hid (row_on7 HR12.out hb3)
 have HB3 := Lib.hid (chain HB2.out hb3)
 have HSG := Lib.hid hsg
 clear hb3 hsg HR02 HR12 HB2
 go_upto_region 4 with (fail)
 generalize hV : World.alloc W3 _ = V
 have HSX0 : RowKit.Hid (SX W3 nI (.slice B 35 cb) none 0 0 (PF 0) V) := Lib.hid ⟨by rw [← hV]; exact below_new _ _, by rw [← hV]; exact heap_alloc_new _ _, by rw [HP0.out]; exact ⟨rfl, Or.inl ⟨rfl, rfl⟩⟩⟩
 clear hV
 obtain ⟨CV, hCV⟩ : ∃ CV, Value.slice B 35 cb = CV := ⟨_, rfl⟩
 rw [hCV] at HSX0
 have HCV := Lib.hid hCV
 clear hCV
 go_wp2_with fail
 go_loopw [11, 12, 13] (fun nn ix _ wr => ∃ (k : Nat) (PA0 : Option Addr) (pc0 : Nat), k ≤ h ∧ ix = .int .i64 (k : Int) ∧ nn = .int .i64 (D k : Int) ∧ RowKit.Hid (SX W3 nI CV PA0 pc0 k (PF k) wr)) (fun _ ix _ _ => h - (intOf ix).toNat)
 case atStart => exact ⟨0, none, 0, by omega, rfl, by rw [HD0.out, HNI.out], HSX0⟩
 case round =>
  clear HSX0
  obtain ⟨k, PA0, pc0, hk, rfl, rfl, HSX⟩ := hrel
  by_cases hlt : k < h
  ·
   have hki : (k : Int) < (h : Int) := by omega
   have hh4 := HH.out
   have hdl := HDL.out k
   have HDK := Lib.hid (HDS.out k)
   have hseq := HSE.out k
   have hnoa := NOA.out k hlt
   have HLT := Lib.hid hlt
   have hc16 := HNL.out k
   have hpfk := HPF.out k
   obtain ⟨C, hC⟩ : ∃ C, ND k = C := ⟨_, rfl⟩
   rw [hC] at hnoa hc16 hpfk
   have HC16 := Lib.hid hc16
   have HPF := Lib.hid hpfk
   obtain ⟨dk, hdk⟩ : ∃ dk, D k = dk := ⟨_, rfl⟩
   rw [hdk] at hdl hseq hnoa HDK ⊢
   by_cases he : dk % 2 = 0
   ·
    have hi : (dk : Int) % 2 = 0 := by omega
    have hno1 := hnoa _ (hseq.1 he)
    have NO := Lib.hid hno1
    clear hno1 hnoa hseq hc16 hpfk hC hdk he hlt
    go_wp2_with fail
    obtain ⟨U, hU⟩ : ∃ U, wr.drew = U := ⟨_, rfl⟩
    have hbU : Below wr.heap.size wr U := by rw [← hU]; exact (Below.refl _ _).drew
    have HSU := Lib.hid (HSX.out.on hbU)
    have mkS : ∀ z, Below W3.heap.size W3 z → z.rangeAt w.heap.size 0 (bvals seed) := fun z hz => rangeAt_row0 (row_on7 HR03.out hz)
    have hS0 : wr.drew.rangeAt w.heap.size 0 (bvals seed) := by rw [hU]; exact mkS _ HSU.out.bs
    clear hbU HSX
    refine wp_region_held_drew (S := fun z => z.rangeAt w.heap.size 0 (bvals seed)) (by kernel_rfl) hS0 (fun hHeld => ?_)
    rw [hU] at hHeld ⊢
    clear hS0 hU
    refine wpAnyH_take (i := 0) (oi := { dst := some 51, op := .fieldAddr 30 (.tmp 10) 2, type := 0, pos := "ref.go:71", after := #[], guard := none }) (v := ?_) rfl (by kernel_rfl) (by kernel_rfl) (by kernel_rfl) (fun _ _ _ h => h) (Or.inl ⟨by rfl, ?_⟩) hHeld ?_
    rotate_left
    ·
     intro w hSw
     clear hSw
     go_simp
     try with_reducible rfl
    try simp only [Act.put, List.setIfInBounds_toArray, List.set_cons_zero, List.set_cons_succ]
    refine wpAnyH_take (i := 2) (oi := { dst := some 53, op := .load 41 (.tmp 4), type := 41, pos := "ref.go:71", after := #[], guard := none }) (v := .agg (bvals seed).toArray) rfl (by kernel_rfl) (by kernel_rfl) (by kernel_rfl) (fun _ _ _ h => h) (yieldsIf_load_mid (by rfl) _ _ rfl _ _ rfl (bvals seed) _ (fun w hSw => hSw) Tryz.underlying41 rfl HIS.out) hHeld ?_
    try simp only [Act.put, List.setIfInBounds_toArray, List.set_cons_zero, List.set_cons_succ]
    refine wpAnyH_take (i := 3) (oi := { dst := some 54, op := .move (.tmp 12), type := 3, pos := "ref.go:71", after := #[], guard := none }) (v := ?_) rfl (by kernel_rfl) (by kernel_rfl) (by kernel_rfl) (fun _ _ _ h => h) (Or.inl ⟨by rfl, ?_⟩) hHeld ?_
    rotate_left
    ·
     intro w hSw
     clear hSw
     go_simp
     try with_reducible rfl
    try simp only [Act.put, List.setIfInBounds_toArray, List.set_cons_zero, List.set_cons_succ]
    refine wpAnyH_take (i := 4) (oi := { dst := some 55, op := .move (.tmp 13), type := 3, pos := "ref.go:71", after := #[], guard := none }) (v := ?_) rfl (by kernel_rfl) (by kernel_rfl) (by kernel_rfl) (fun _ _ _ h => h) (Or.inl ⟨by rfl, ?_⟩) hHeld ?_
    rotate_left
    ·
     intro w hSw
     clear hSw
     go_simp
     try with_reducible rfl
    try simp only [Act.put, List.setIfInBounds_toArray, List.set_cons_zero, List.set_cons_succ]
    refine wpAnyH_ready (rs := [1, 5]) (by kernel_rfl) (by simp) (AllReadyH.cons (o := { dst := some 52, op := .load 28 (.tmp 51), type := 28, pos := "ref.go:71", after := #[{ on := 0, ground := .data }], guard := none }) rfl (fun K hK => ?_) (AllReadyH.cons (o := { dst := some 56, op := .call { callee := .value (.func 84), args := #[.tmp 53, .tmp 54, .tmp 55], argTypes := #[41, 3, 3] }, type := 41, pos := "ref.go:71", after := #[{ on := 2, ground := .data }, { on := 3, ground := .data }, { on := 4, ground := .data }], guard := none }) rfl (fun K hK => ?_) AllReadyH.nil))
    ·
     have hq2 := (facts3k (row_on7 HSU.out.rg (Below.refl _ _))).2.2.2
     go_simp
     clear hq2
     refine hK.out _ _ (mkS _ (chain HSU.out.bs (Below.refl _ _))) (fun hHeld2 => ?_)
     clear hK K hHeld
     have hHeld := hHeld2
     clear hHeld2
     try simp only [Act.put, List.setIfInBounds_toArray, List.set_cons_zero, List.set_cons_succ]
     refine wpAnyH_ready (rs := [5]) (by kernel_rfl) (by simp) (AllReadyH.cons (o := { dst := some 56, op := .call { callee := .value (.func 84), args := #[.tmp 53, .tmp 54, .tmp 55], argTypes := #[41, 3, 3] }, type := 41, pos := "ref.go:71", after := #[{ on := 2, ground := .data }, { on := 3, ground := .data }, { on := 4, ground := .data }], guard := none }) rfl (fun K hK => ?_) AllReadyH.nil)
     go_simp
     refine (NO.out _).mono ?_
     rintro e z5 ⟨rfl, hz5⟩
     have b5 : Below U.heap.size U z5 := hz5
     clear hz5
     go_simp
     refine hK.out _ _ (mkS _ (chain HSU.out.bs b5)) (fun hHeld2 => ?_)
     clear hK K hHeld
     have hHeld := hHeld2
     clear hHeld2
     try simp only [Act.put, List.setIfInBounds_toArray, List.set_cons_zero, List.set_cons_succ]
     refine wpAnyH_ready (rs := [6]) (by kernel_rfl) (by simp) (AllReadyH.cons (o := { dst := some 57, op := .buildSlice 28 1 #[(0, .tmp 56)], type := 28, pos := "ref.go:71", after := #[{ on := 5, ground := .data }], guard := none }) rfl (fun K hK => ?_) AllReadyH.nil)
     have hbs : (bcells C).size = 16 := by rw [bcells_size, HC16.out]
     go_simp
     clear hbs
     generalize hq : World.alloc z5 _ = z6
     have r6 : z6.heap[z5.heap.size]? = some (.cells (bcells C) 41 (0, 0)) := by rw [← hq]; exact fill_short C HC16.out z5
     have b6 : Below U.heap.size U z6 := b5.trans ((show Below z5.heap.size z5 z6 by rw [← hq]; exact below_new _ _).mono b5.size)
     clear hq
     refine hK.out _ _ (mkS _ (chain HSU.out.bs b6)) (fun hHeld2 => ?_)
     clear hK K hHeld
     have hHeld := hHeld2
     clear hHeld2
     try simp only [Act.put, List.setIfInBounds_toArray, List.set_cons_zero, List.set_cons_succ]
     refine wpAnyH_ready (rs := [7]) (by kernel_rfl) (by simp) (AllReadyH.cons (o := { dst := some 58, op := .call { callee := .builtin .append, args := #[.tmp 52, .tmp 57], argTypes := #[28, 28] }, type := 28, pos := "ref.go:71", after := #[{ on := 1, ground := .data }, { on := 6, ground := .data }, { on := 5, ground := .chain }], guard := none }) rfl (fun K hK => ?_) AllReadyH.nil)
     try rw [if_pos (by rfl)]
     refine wp_append_shorts (.tmp 52) (.tmp 57) rfl (W3.heap.size + 1) _ _ _ rfl (own_onS HSU.out.own b6) ⟨z5.heap.size, 0, none⟩ 1 1 C rfl (by rw [HC16.out]) (row_bvals r6) (by omega) (by have h1 := (Array.getElem?_eq_some_iff.1 HSU.out.rg).1; have h2 := b6.size; omega) ?_
     intro v7 z7 o7 g7
     obtain ⟨A7, c7, rfl⟩ := own_sliceS7 o7
     have lt7 := HSU.out.own.lt
     have bs7 : Below W3.heap.size W3 z7 := (chain HSU.out.bs b6).grown g7 (chain HSU.out.bs b6).size (fun j hj => by have := (lt7 j hj).1; omega)
     have rg7 : z7.heap[W3.heap.size]? = some (.cells #[.int .i64 nI, CV, .slice PA0 k pc0] 30 (0, 0)) := (g7.block _ (Array.getElem?_eq_some_iff.1 (row_on7 HSU.out.rg b6)).1 (fun e => by have := (lt7 _ e.symm).1; omega)).trans (row_on7 HSU.out.rg b6)
     have HS7 : RowKit.Hid (SX W3 nI CV A7 c7 (k + 1) (PF (k + 1)) (z7.setCell ⟨W3.heap.size, 2, none⟩ (.slice A7 (k + 1) c7))) := Lib.hid ⟨bs7.setCell (Nat.le_refl _) _, heap_setCell_same _ _ _ _ _ _ rg7, ownsRow_setCell_other (a := ⟨W3.heap.size, 2, none⟩) (by rw [HPF.out, bvals_app]; exact o7) (fun e => by have h1 := (o7.lt _ e).1; simp at h1; omega) _⟩
     have RG7 := Lib.hid rg7
     clear g7 o7 lt7 rg7
     refine hK.out _ _ (mkS _ (bs7)) (fun hHeld2 => ?_)
     clear hK K hHeld
     have hHeld := hHeld2
     clear hHeld2
     try simp only [Act.put, List.setIfInBounds_toArray, List.set_cons_zero, List.set_cons_succ]
     refine wpAnyH_take (i := 8) (oi := { dst := some 59, op := .fieldAddr 30 (.tmp 10) 2, type := 0, pos := "ref.go:71", after := #[{ on := 0, ground := .phase }, { on := 1, ground := .phase }, { on := 2, ground := .phase }, { on := 3, ground := .phase }, { on := 4, ground := .phase }, { on := 5, ground := .phase }, { on := 6, ground := .phase }, { on := 7, ground := .phase }], guard := none }) (v := ?_) rfl (by kernel_rfl) (by kernel_rfl) (by kernel_rfl) (fun _ _ _ h => h) (Or.inl ⟨by rfl, ?_⟩) hHeld ?_
     rotate_left
     ·
      intro w hSw
      clear hSw
      go_simp
      try with_reducible rfl
     try simp only [Act.put, List.setIfInBounds_toArray, List.set_cons_zero, List.set_cons_succ]
     refine wpAnyH_ready (rs := [9]) (by kernel_rfl) (by simp) (AllReadyH.cons (o := { dst := none, op := .store 28 (.tmp 59) (.tmp 58), type := 0, pos := "ref.go:71", after := #[{ on := 8, ground := .data }, { on := 7, ground := .data }, { on := 7, ground := .chain }, { on := 0, ground := .phase }, { on := 1, ground := .phase }, { on := 2, ground := .phase }, { on := 3, ground := .phase }, { on := 4, ground := .phase }, { on := 5, ground := .phase }, { on := 6, ground := .phase }, { on := 7, ground := .phase }], guard := none }) rfl (fun K hK => ?_) AllReadyH.nil)
     obtain ⟨⟨_, _, hf7⟩, _, _, hc7⟩ := facts3k RG7.out
     have hl7 := (Array.getElem?_eq_some_iff.1 RG7.out).1
     go_simp
     clear hf7 hc7 hl7
     have HS9 := HS7
     refine hK.out _ _ (mkS _ HS7.out.bs) (fun hHeld2 => ?_)
     clear hK K hHeld hHeld2
     try simp only [Act.put, List.setIfInBounds_toArray, List.set_cons_zero, List.set_cons_succ]
     refine wpAnyH_done (by kernel_rfl) ?_ _
     generalize World.setCell _ _ _ = z9 at HS9 ⊢
     clear mkS
     go_wp2_with fail
     exact ⟨⟨k + 1, _, _, by have := HLT.out; omega, by go_num, congrArg (Value.int .i64) HDK.out, HS9⟩, by have := HLT.out; simp [intOf]; omega⟩
    ·
     go_simp
     refine (NO.out _).mono ?_
     rintro e z5 ⟨rfl, hz5⟩
     have b5 : Below U.heap.size U z5 := hz5
     clear hz5
     go_simp
     refine hK.out _ _ (mkS _ (chain HSU.out.bs b5)) (fun hHeld2 => ?_)
     clear hK K hHeld
     have hHeld := hHeld2
     clear hHeld2
     try simp only [Act.put, List.setIfInBounds_toArray, List.set_cons_zero, List.set_cons_succ]
     refine wpAnyH_ready (rs := [1, 6]) (by kernel_rfl) (by simp) (AllReadyH.cons (o := { dst := some 52, op := .load 28 (.tmp 51), type := 28, pos := "ref.go:71", after := #[{ on := 0, ground := .data }], guard := none }) rfl (fun K hK => ?_) (AllReadyH.cons (o := { dst := some 57, op := .buildSlice 28 1 #[(0, .tmp 56)], type := 28, pos := "ref.go:71", after := #[{ on := 5, ground := .data }], guard := none }) rfl (fun K hK => ?_) AllReadyH.nil))
     ·
      have hq2 := (facts3k (row_on7 HSU.out.rg b5)).2.2.2
      go_simp
      clear hq2
      refine hK.out _ _ (mkS _ (chain HSU.out.bs b5)) (fun hHeld2 => ?_)
      clear hK K hHeld
      have hHeld := hHeld2
      clear hHeld2
      try simp only [Act.put, List.setIfInBounds_toArray, List.set_cons_zero, List.set_cons_succ]
      refine wpAnyH_ready (rs := [6]) (by kernel_rfl) (by simp) (AllReadyH.cons (o := { dst := some 57, op := .buildSlice 28 1 #[(0, .tmp 56)], type := 28, pos := "ref.go:71", after := #[{ on := 5, ground := .data }], guard := none }) rfl (fun K hK => ?_) AllReadyH.nil)
      have hbs : (bcells C).size = 16 := by rw [bcells_size, HC16.out]
      go_simp
      clear hbs
      generalize hq : World.alloc z5 _ = z6
      have r6 : z6.heap[z5.heap.size]? = some (.cells (bcells C) 41 (0, 0)) := by rw [← hq]; exact fill_short C HC16.out z5
      have b6 : Below U.heap.size U z6 := b5.trans ((show Below z5.heap.size z5 z6 by rw [← hq]; exact below_new _ _).mono b5.size)
      clear hq
      refine hK.out _ _ (mkS _ (chain HSU.out.bs b6)) (fun hHeld2 => ?_)
      clear hK K hHeld
      have hHeld := hHeld2
      clear hHeld2
      try simp only [Act.put, List.setIfInBounds_toArray, List.set_cons_zero, List.set_cons_succ]
      refine wpAnyH_ready (rs := [7]) (by kernel_rfl) (by simp) (AllReadyH.cons (o := { dst := some 58, op := .call { callee := .builtin .append, args := #[.tmp 52, .tmp 57], argTypes := #[28, 28] }, type := 28, pos := "ref.go:71", after := #[{ on := 1, ground := .data }, { on := 6, ground := .data }, { on := 5, ground := .chain }], guard := none }) rfl (fun K hK => ?_) AllReadyH.nil)
      try rw [if_pos (by rfl)]
      refine wp_append_shorts (.tmp 52) (.tmp 57) rfl (W3.heap.size + 1) _ _ _ rfl (own_onS HSU.out.own b6) ⟨z5.heap.size, 0, none⟩ 1 1 C rfl (by rw [HC16.out]) (row_bvals r6) (by omega) (by have h1 := (Array.getElem?_eq_some_iff.1 HSU.out.rg).1; have h2 := b6.size; omega) ?_
      intro v7 z7 o7 g7
      obtain ⟨A7, c7, rfl⟩ := own_sliceS7 o7
      have lt7 := HSU.out.own.lt
      have bs7 : Below W3.heap.size W3 z7 := (chain HSU.out.bs b6).grown g7 (chain HSU.out.bs b6).size (fun j hj => by have := (lt7 j hj).1; omega)
      have rg7 : z7.heap[W3.heap.size]? = some (.cells #[.int .i64 nI, CV, .slice PA0 k pc0] 30 (0, 0)) := (g7.block _ (Array.getElem?_eq_some_iff.1 (row_on7 HSU.out.rg b6)).1 (fun e => by have := (lt7 _ e.symm).1; omega)).trans (row_on7 HSU.out.rg b6)
      have HS7 : RowKit.Hid (SX W3 nI CV A7 c7 (k + 1) (PF (k + 1)) (z7.setCell ⟨W3.heap.size, 2, none⟩ (.slice A7 (k + 1) c7))) := Lib.hid ⟨bs7.setCell (Nat.le_refl _) _, heap_setCell_same _ _ _ _ _ _ rg7, ownsRow_setCell_other (a := ⟨W3.heap.size, 2, none⟩) (by rw [HPF.out, bvals_app]; exact o7) (fun e => by have h1 := (o7.lt _ e).1; simp at h1; omega) _⟩
      have RG7 := Lib.hid rg7
      clear g7 o7 lt7 rg7
      refine hK.out _ _ (mkS _ (bs7)) (fun hHeld2 => ?_)
      clear hK K hHeld
      have hHeld := hHeld2
      clear hHeld2
      try simp only [Act.put, List.setIfInBounds_toArray, List.set_cons_zero, List.set_cons_succ]
      refine wpAnyH_take (i := 8) (oi := { dst := some 59, op := .fieldAddr 30 (.tmp 10) 2, type := 0, pos := "ref.go:71", after := #[{ on := 0, ground := .phase }, { on := 1, ground := .phase }, { on := 2, ground := .phase }, { on := 3, ground := .phase }, { on := 4, ground := .phase }, { on := 5, ground := .phase }, { on := 6, ground := .phase }, { on := 7, ground := .phase }], guard := none }) (v := ?_) rfl (by kernel_rfl) (by kernel_rfl) (by kernel_rfl) (fun _ _ _ h => h) (Or.inl ⟨by rfl, ?_⟩) hHeld ?_
      rotate_left
      ·
       intro w hSw
       clear hSw
       go_simp
       try with_reducible rfl
      try simp only [Act.put, List.setIfInBounds_toArray, List.set_cons_zero, List.set_cons_succ]
      refine wpAnyH_ready (rs := [9]) (by kernel_rfl) (by simp) (AllReadyH.cons (o := { dst := none, op := .store 28 (.tmp 59) (.tmp 58), type := 0, pos := "ref.go:71", after := #[{ on := 8, ground := .data }, { on := 7, ground := .data }, { on := 7, ground := .chain }, { on := 0, ground := .phase }, { on := 1, ground := .phase }, { on := 2, ground := .phase }, { on := 3, ground := .phase }, { on := 4, ground := .phase }, { on := 5, ground := .phase }, { on := 6, ground := .phase }, { on := 7, ground := .phase }], guard := none }) rfl (fun K hK => ?_) AllReadyH.nil)
      obtain ⟨⟨_, _, hf7⟩, _, _, hc7⟩ := facts3k RG7.out
      have hl7 := (Array.getElem?_eq_some_iff.1 RG7.out).1
      go_simp
      clear hf7 hc7 hl7
      have HS9 := HS7
      refine hK.out _ _ (mkS _ HS7.out.bs) (fun hHeld2 => ?_)
      clear hK K hHeld hHeld2
      try simp only [Act.put, List.setIfInBounds_toArray, List.set_cons_zero, List.set_cons_succ]
      refine wpAnyH_done (by kernel_rfl) ?_ _
      generalize World.setCell _ _ _ = z9 at HS9 ⊢
      clear mkS
      go_wp2_with fail
      exact ⟨⟨k + 1, _, _, by have := HLT.out; omega, by go_num, congrArg (Value.int .i64) HDK.out, HS9⟩, by have := HLT.out; simp [intOf]; omega⟩
     ·
      have hbs : (bcells C).size = 16 := by rw [bcells_size, HC16.out]
      go_simp
      clear hbs
      generalize hq : World.alloc z5 _ = z6
      have r6 : z6.heap[z5.heap.size]? = some (.cells (bcells C) 41 (0, 0)) := by rw [← hq]; exact fill_short C HC16.out z5
      have b6 : Below U.heap.size U z6 := b5.trans ((show Below z5.heap.size z5 z6 by rw [← hq]; exact below_new _ _).mono b5.size)
      clear hq
      refine hK.out _ _ (mkS _ (chain HSU.out.bs b6)) (fun hHeld2 => ?_)
      clear hK K hHeld
      have hHeld := hHeld2
      clear hHeld2
      try simp only [Act.put, List.setIfInBounds_toArray, List.set_cons_zero, List.set_cons_succ]
      refine wpAnyH_ready (rs := [1]) (by kernel_rfl) (by simp) (AllReadyH.cons (o := { dst := some 52, op := .load 28 (.tmp 51), type := 28, pos := "ref.go:71", after := #[{ on := 0, ground := .data }], guard := none }) rfl (fun K hK => ?_) AllReadyH.nil)
      have hq2 := (facts3k (row_on7 HSU.out.rg b6)).2.2.2
      go_simp
      clear hq2
      refine hK.out _ _ (mkS _ (chain HSU.out.bs b6)) (fun hHeld2 => ?_)
      clear hK K hHeld
      have hHeld := hHeld2
      clear hHeld2
      try simp only [Act.put, List.setIfInBounds_toArray, List.set_cons_zero, List.set_cons_succ]
      refine wpAnyH_ready (rs := [7]) (by kernel_rfl) (by simp) (AllReadyH.cons (o := { dst := some 58, op := .call { callee := .builtin .append, args := #[.tmp 52, .tmp 57], argTypes := #[28, 28] }, type := 28, pos := "ref.go:71", after := #[{ on := 1, ground := .data }, { on := 6, ground := .data }, { on := 5, ground := .chain }], guard := none }) rfl (fun K hK => ?_) AllReadyH.nil)
      try rw [if_pos (by rfl)]
      refine wp_append_shorts (.tmp 52) (.tmp 57) rfl (W3.heap.size + 1) _ _ _ rfl (own_onS HSU.out.own b6) ⟨z5.heap.size, 0, none⟩ 1 1 C rfl (by rw [HC16.out]) (row_bvals r6) (by omega) (by have h1 := (Array.getElem?_eq_some_iff.1 HSU.out.rg).1; have h2 := b6.size; omega) ?_
      intro v7 z7 o7 g7
      obtain ⟨A7, c7, rfl⟩ := own_sliceS7 o7
      have lt7 := HSU.out.own.lt
      have bs7 : Below W3.heap.size W3 z7 := (chain HSU.out.bs b6).grown g7 (chain HSU.out.bs b6).size (fun j hj => by have := (lt7 j hj).1; omega)
      have rg7 : z7.heap[W3.heap.size]? = some (.cells #[.int .i64 nI, CV, .slice PA0 k pc0] 30 (0, 0)) := (g7.block _ (Array.getElem?_eq_some_iff.1 (row_on7 HSU.out.rg b6)).1 (fun e => by have := (lt7 _ e.symm).1; omega)).trans (row_on7 HSU.out.rg b6)
      have HS7 : RowKit.Hid (SX W3 nI CV A7 c7 (k + 1) (PF (k + 1)) (z7.setCell ⟨W3.heap.size, 2, none⟩ (.slice A7 (k + 1) c7))) := Lib.hid ⟨bs7.setCell (Nat.le_refl _) _, heap_setCell_same _ _ _ _ _ _ rg7, ownsRow_setCell_other (a := ⟨W3.heap.size, 2, none⟩) (by rw [HPF.out, bvals_app]; exact o7) (fun e => by have h1 := (o7.lt _ e).1; simp at h1; omega) _⟩
      have RG7 := Lib.hid rg7
      clear g7 o7 lt7 rg7
      refine hK.out _ _ (mkS _ (bs7)) (fun hHeld2 => ?_)
      clear hK K hHeld
      have hHeld := hHeld2
      clear hHeld2
      try simp only [Act.put, List.setIfInBounds_toArray, List.set_cons_zero, List.set_cons_succ]
      refine wpAnyH_take (i := 8) (oi := { dst := some 59, op := .fieldAddr 30 (.tmp 10) 2, type := 0, pos := "ref.go:71", after := #[{ on := 0, ground := .phase }, { on := 1, ground := .phase }, { on := 2, ground := .phase }, { on := 3, ground := .phase }, { on := 4, ground := .phase }, { on := 5, ground := .phase }, { on := 6, ground := .phase }, { on := 7, ground := .phase }], guard := none }) (v := ?_) rfl (by kernel_rfl) (by kernel_rfl) (by kernel_rfl) (fun _ _ _ h => h) (Or.inl ⟨by rfl, ?_⟩) hHeld ?_
      rotate_left
      ·
       intro w hSw
       clear hSw
       go_simp
       try with_reducible rfl
      try simp only [Act.put, List.setIfInBounds_toArray, List.set_cons_zero, List.set_cons_succ]
      refine wpAnyH_ready (rs := [9]) (by kernel_rfl) (by simp) (AllReadyH.cons (o := { dst := none, op := .store 28 (.tmp 59) (.tmp 58), type := 0, pos := "ref.go:71", after := #[{ on := 8, ground := .data }, { on := 7, ground := .data }, { on := 7, ground := .chain }, { on := 0, ground := .phase }, { on := 1, ground := .phase }, { on := 2, ground := .phase }, { on := 3, ground := .phase }, { on := 4, ground := .phase }, { on := 5, ground := .phase }, { on := 6, ground := .phase }, { on := 7, ground := .phase }], guard := none }) rfl (fun K hK => ?_) AllReadyH.nil)
      obtain ⟨⟨_, _, hf7⟩, _, _, hc7⟩ := facts3k RG7.out
      have hl7 := (Array.getElem?_eq_some_iff.1 RG7.out).1
      go_simp
      clear hf7 hc7 hl7
      have HS9 := HS7
      refine hK.out _ _ (mkS _ HS7.out.bs) (fun hHeld2 => ?_)
      clear hK K hHeld hHeld2
      try simp only [Act.put, List.setIfInBounds_toArray, List.set_cons_zero, List.set_cons_succ]
      refine wpAnyH_done (by kernel_rfl) ?_ _
      generalize World.setCell _ _ _ = z9 at HS9 ⊢
      clear mkS
      go_wp2_with fail
      exact ⟨⟨k + 1, _, _, by have := HLT.out; omega, by go_num, congrArg (Value.int .i64) HDK.out, HS9⟩, by have := HLT.out; simp [intOf]; omega⟩
   ·
    have hi : (dk : Int) % 2 = 1 := by omega
    have hno1 := hnoa _ (hseq.2 he)
    have hd1 : 1 ≤ dk := by omega
    have hd2 : (1 : Int) ≤ (dk : Int) := by omega
    have NO := Lib.hid hno1
    clear hno1 hnoa hseq hc16 hpfk hC hdk he hlt
    go_wp2_with fail
    obtain ⟨U, hU⟩ : ∃ U, wr.drew = U := ⟨_, rfl⟩
    have hbU : Below wr.heap.size wr U := by rw [← hU]; exact (Below.refl _ _).drew
    have HSU := Lib.hid (HSX.out.on hbU)
    have mkS : ∀ z, Below W3.heap.size W3 z → z.rangeAt w.heap.size 0 (bvals seed) := fun z hz => rangeAt_row0 (row_on7 HR03.out hz)
    have hS0 : wr.drew.rangeAt w.heap.size 0 (bvals seed) := by rw [hU]; exact mkS _ HSU.out.bs
    clear hbU HSX
    refine wp_region_held_drew (S := fun z => z.rangeAt w.heap.size 0 (bvals seed)) (by kernel_rfl) hS0 (fun hHeld => ?_)
    rw [hU] at hHeld ⊢
    clear hS0 hU
    refine wpAnyH_take (i := 0) (oi := { dst := some 51, op := .fieldAddr 30 (.tmp 10) 2, type := 0, pos := "ref.go:71", after := #[], guard := none }) (v := ?_) rfl (by kernel_rfl) (by kernel_rfl) (by kernel_rfl) (fun _ _ _ h => h) (Or.inl ⟨by rfl, ?_⟩) hHeld ?_
    rotate_left
    ·
     intro w hSw
     clear hSw
     go_simp
     try with_reducible rfl
    try simp only [Act.put, List.setIfInBounds_toArray, List.set_cons_zero, List.set_cons_succ]
    refine wpAnyH_take (i := 2) (oi := { dst := some 53, op := .load 41 (.tmp 4), type := 41, pos := "ref.go:71", after := #[], guard := none }) (v := .agg (bvals seed).toArray) rfl (by kernel_rfl) (by kernel_rfl) (by kernel_rfl) (fun _ _ _ h => h) (yieldsIf_load_mid (by rfl) _ _ rfl _ _ rfl (bvals seed) _ (fun w hSw => hSw) Tryz.underlying41 rfl HIS.out) hHeld ?_
    try simp only [Act.put, List.setIfInBounds_toArray, List.set_cons_zero, List.set_cons_succ]
    refine wpAnyH_take (i := 3) (oi := { dst := some 54, op := .move (.tmp 12), type := 3, pos := "ref.go:71", after := #[], guard := none }) (v := ?_) rfl (by kernel_rfl) (by kernel_rfl) (by kernel_rfl) (fun _ _ _ h => h) (Or.inl ⟨by rfl, ?_⟩) hHeld ?_
    rotate_left
    ·
     intro w hSw
     clear hSw
     go_simp
     try with_reducible rfl
    try simp only [Act.put, List.setIfInBounds_toArray, List.set_cons_zero, List.set_cons_succ]
    refine wpAnyH_take (i := 4) (oi := { dst := some 55, op := .move (.tmp 13), type := 3, pos := "ref.go:71", after := #[], guard := none }) (v := ?_) rfl (by kernel_rfl) (by kernel_rfl) (by kernel_rfl) (fun _ _ _ h => h) (Or.inl ⟨by rfl, ?_⟩) hHeld ?_
    rotate_left
    ·
     intro w hSw
     clear hSw
     go_simp
     try with_reducible rfl
    try simp only [Act.put, List.setIfInBounds_toArray, List.set_cons_zero, List.set_cons_succ]
    refine wpAnyH_ready (rs := [1, 5]) (by kernel_rfl) (by simp) (AllReadyH.cons (o := { dst := some 52, op := .load 28 (.tmp 51), type := 28, pos := "ref.go:71", after := #[{ on := 0, ground := .data }], guard := none }) rfl (fun K hK => ?_) (AllReadyH.cons (o := { dst := some 56, op := .call { callee := .value (.func 84), args := #[.tmp 53, .tmp 54, .tmp 55], argTypes := #[41, 3, 3] }, type := 41, pos := "ref.go:71", after := #[{ on := 2, ground := .data }, { on := 3, ground := .data }, { on := 4, ground := .data }], guard := none }) rfl (fun K hK => ?_) AllReadyH.nil))
    ·
     have hq2 := (facts3k (row_on7 HSU.out.rg (Below.refl _ _))).2.2.2
     go_simp
     clear hq2
     refine hK.out _ _ (mkS _ (chain HSU.out.bs (Below.refl _ _))) (fun hHeld2 => ?_)
     clear hK K hHeld
     have hHeld := hHeld2
     clear hHeld2
     try simp only [Act.put, List.setIfInBounds_toArray, List.set_cons_zero, List.set_cons_succ]
     refine wpAnyH_ready (rs := [5]) (by kernel_rfl) (by simp) (AllReadyH.cons (o := { dst := some 56, op := .call { callee := .value (.func 84), args := #[.tmp 53, .tmp 54, .tmp 55], argTypes := #[41, 3, 3] }, type := 41, pos := "ref.go:71", after := #[{ on := 2, ground := .data }, { on := 3, ground := .data }, { on := 4, ground := .data }], guard := none }) rfl (fun K hK => ?_) AllReadyH.nil)
     go_simp
     refine (NO.out _).mono ?_
     rintro e z5 ⟨rfl, hz5⟩
     have b5 : Below U.heap.size U z5 := hz5
     clear hz5
     go_simp
     refine hK.out _ _ (mkS _ (chain HSU.out.bs b5)) (fun hHeld2 => ?_)
     clear hK K hHeld
     have hHeld := hHeld2
     clear hHeld2
     try simp only [Act.put, List.setIfInBounds_toArray, List.set_cons_zero, List.set_cons_succ]
     refine wpAnyH_ready (rs := [6]) (by kernel_rfl) (by simp) (AllReadyH.cons (o := { dst := some 57, op := .buildSlice 28 1 #[(0, .tmp 56)], type := 28, pos := "ref.go:71", after := #[{ on := 5, ground := .data }], guard := none }) rfl (fun K hK => ?_) AllReadyH.nil)
     have hbs : (bcells C).size = 16 := by rw [bcells_size, HC16.out]
     go_simp
     clear hbs
     generalize hq : World.alloc z5 _ = z6
     have r6 : z6.heap[z5.heap.size]? = some (.cells (bcells C) 41 (0, 0)) := by rw [← hq]; exact fill_short C HC16.out z5
     have b6 : Below U.heap.size U z6 := b5.trans ((show Below z5.heap.size z5 z6 by rw [← hq]; exact below_new _ _).mono b5.size)
     clear hq
     refine hK.out _ _ (mkS _ (chain HSU.out.bs b6)) (fun hHeld2 => ?_)
     clear hK K hHeld
     have hHeld := hHeld2
     clear hHeld2
     try simp only [Act.put, List.setIfInBounds_toArray, List.set_cons_zero, List.set_cons_succ]
     refine wpAnyH_ready (rs := [7]) (by kernel_rfl) (by simp) (AllReadyH.cons (o := { dst := some 58, op := .call { callee := .builtin .append, args := #[.tmp 52, .tmp 57], argTypes := #[28, 28] }, type := 28, pos := "ref.go:71", after := #[{ on := 1, ground := .data }, { on := 6, ground := .data }, { on := 5, ground := .chain }], guard := none }) rfl (fun K hK => ?_) AllReadyH.nil)
     try rw [if_pos (by rfl)]
     refine wp_append_shorts (.tmp 52) (.tmp 57) rfl (W3.heap.size + 1) _ _ _ rfl (own_onS HSU.out.own b6) ⟨z5.heap.size, 0, none⟩ 1 1 C rfl (by rw [HC16.out]) (row_bvals r6) (by omega) (by have h1 := (Array.getElem?_eq_some_iff.1 HSU.out.rg).1; have h2 := b6.size; omega) ?_
     intro v7 z7 o7 g7
     obtain ⟨A7, c7, rfl⟩ := own_sliceS7 o7
     have lt7 := HSU.out.own.lt
     have bs7 : Below W3.heap.size W3 z7 := (chain HSU.out.bs b6).grown g7 (chain HSU.out.bs b6).size (fun j hj => by have := (lt7 j hj).1; omega)
     have rg7 : z7.heap[W3.heap.size]? = some (.cells #[.int .i64 nI, CV, .slice PA0 k pc0] 30 (0, 0)) := (g7.block _ (Array.getElem?_eq_some_iff.1 (row_on7 HSU.out.rg b6)).1 (fun e => by have := (lt7 _ e.symm).1; omega)).trans (row_on7 HSU.out.rg b6)
     have HS7 : RowKit.Hid (SX W3 nI CV A7 c7 (k + 1) (PF (k + 1)) (z7.setCell ⟨W3.heap.size, 2, none⟩ (.slice A7 (k + 1) c7))) := Lib.hid ⟨bs7.setCell (Nat.le_refl _) _, heap_setCell_same _ _ _ _ _ _ rg7, ownsRow_setCell_other (a := ⟨W3.heap.size, 2, none⟩) (by rw [HPF.out, bvals_app]; exact o7) (fun e => by have h1 := (o7.lt _ e).1; simp at h1; omega) _⟩
     have RG7 := Lib.hid rg7
     clear g7 o7 lt7 rg7
     refine hK.out _ _ (mkS _ (bs7)) (fun hHeld2 => ?_)
     clear hK K hHeld
     have hHeld := hHeld2
     clear hHeld2
     try simp only [Act.put, List.setIfInBounds_toArray, List.set_cons_zero, List.set_cons_succ]
     refine wpAnyH_take (i := 8) (oi := { dst := some 59, op := .fieldAddr 30 (.tmp 10) 2, type := 0, pos := "ref.go:71", after := #[{ on := 0, ground := .phase }, { on := 1, ground := .phase }, { on := 2, ground := .phase }, { on := 3, ground := .phase }, { on := 4, ground := .phase }, { on := 5, ground := .phase }, { on := 6, ground := .phase }, { on := 7, ground := .phase }], guard := none }) (v := ?_) rfl (by kernel_rfl) (by kernel_rfl) (by kernel_rfl) (fun _ _ _ h => h) (Or.inl ⟨by rfl, ?_⟩) hHeld ?_
     rotate_left
     ·
      intro w hSw
      clear hSw
      go_simp
      try with_reducible rfl
     try simp only [Act.put, List.setIfInBounds_toArray, List.set_cons_zero, List.set_cons_succ]
     refine wpAnyH_ready (rs := [9]) (by kernel_rfl) (by simp) (AllReadyH.cons (o := { dst := none, op := .store 28 (.tmp 59) (.tmp 58), type := 0, pos := "ref.go:71", after := #[{ on := 8, ground := .data }, { on := 7, ground := .data }, { on := 7, ground := .chain }, { on := 0, ground := .phase }, { on := 1, ground := .phase }, { on := 2, ground := .phase }, { on := 3, ground := .phase }, { on := 4, ground := .phase }, { on := 5, ground := .phase }, { on := 6, ground := .phase }, { on := 7, ground := .phase }], guard := none }) rfl (fun K hK => ?_) AllReadyH.nil)
     obtain ⟨⟨_, _, hf7⟩, _, _, hc7⟩ := facts3k RG7.out
     have hl7 := (Array.getElem?_eq_some_iff.1 RG7.out).1
     go_simp
     clear hf7 hc7 hl7
     have HS9 := HS7
     refine hK.out _ _ (mkS _ HS7.out.bs) (fun hHeld2 => ?_)
     clear hK K hHeld hHeld2
     try simp only [Act.put, List.setIfInBounds_toArray, List.set_cons_zero, List.set_cons_succ]
     refine wpAnyH_done (by kernel_rfl) ?_ _
     generalize World.setCell _ _ _ = z9 at HS9 ⊢
     clear mkS
     go_wp2_with fail
     exact ⟨⟨k + 1, _, _, by have := HLT.out; omega, by go_num, congrArg (Value.int .i64) HDK.out, HS9⟩, by have := HLT.out; simp [intOf]; omega⟩
    ·
     go_simp
     refine (NO.out _).mono ?_
     rintro e z5 ⟨rfl, hz5⟩
     have b5 : Below U.heap.size U z5 := hz5
     clear hz5
     go_simp
     refine hK.out _ _ (mkS _ (chain HSU.out.bs b5)) (fun hHeld2 => ?_)
     clear hK K hHeld
     have hHeld := hHeld2
     clear hHeld2
     try simp only [Act.put, List.setIfInBounds_toArray, List.set_cons_zero, List.set_cons_succ]
     refine wpAnyH_ready (rs := [1, 6]) (by kernel_rfl) (by simp) (AllReadyH.cons (o := { dst := some 52, op := .load 28 (.tmp 51), type := 28, pos := "ref.go:71", after := #[{ on := 0, ground := .data }], guard := none }) rfl (fun K hK => ?_) (AllReadyH.cons (o := { dst := some 57, op := .buildSlice 28 1 #[(0, .tmp 56)], type := 28, pos := "ref.go:71", after := #[{ on := 5, ground := .data }], guard := none }) rfl (fun K hK => ?_) AllReadyH.nil))
     ·
      have hq2 := (facts3k (row_on7 HSU.out.rg b5)).2.2.2
      go_simp
      clear hq2
      refine hK.out _ _ (mkS _ (chain HSU.out.bs b5)) (fun hHeld2 => ?_)
      clear hK K hHeld
      have hHeld := hHeld2
      clear hHeld2
      try simp only [Act.put, List.setIfInBounds_toArray, List.set_cons_zero, List.set_cons_succ]
      refine wpAnyH_ready (rs := [6]) (by kernel_rfl) (by simp) (AllReadyH.cons (o := { dst := some 57, op := .buildSlice 28 1 #[(0, .tmp 56)], type := 28, pos := "ref.go:71", after := #[{ on := 5, ground := .data }], guard := none }) rfl (fun K hK => ?_) AllReadyH.nil)
      have hbs : (bcells C).size = 16 := by rw [bcells_size, HC16.out]
      go_simp
      clear hbs
      generalize hq : World.alloc z5 _ = z6
      have r6 : z6.heap[z5.heap.size]? = some (.cells (bcells C) 41 (0, 0)) := by rw [← hq]; exact fill_short C HC16.out z5
      have b6 : Below U.heap.size U z6 := b5.trans ((show Below z5.heap.size z5 z6 by rw [← hq]; exact below_new _ _).mono b5.size)
      clear hq
      refine hK.out _ _ (mkS _ (chain HSU.out.bs b6)) (fun hHeld2 => ?_)
      clear hK K hHeld
      have hHeld := hHeld2
      clear hHeld2
      try simp only [Act.put, List.setIfInBounds_toArray, List.set_cons_zero, List.set_cons_succ]
      refine wpAnyH_ready (rs := [7]) (by kernel_rfl) (by simp) (AllReadyH.cons (o := { dst := some 58, op := .call { callee := .builtin .append, args := #[.tmp 52, .tmp 57], argTypes := #[28, 28] }, type := 28, pos := "ref.go:71", after := #[{ on := 1, ground := .data }, { on := 6, ground := .data }, { on := 5, ground := .chain }], guard := none }) rfl (fun K hK => ?_) AllReadyH.nil)
      try rw [if_pos (by rfl)]
      refine wp_append_shorts (.tmp 52) (.tmp 57) rfl (W3.heap.size + 1) _ _ _ rfl (own_onS HSU.out.own b6) ⟨z5.heap.size, 0, none⟩ 1 1 C rfl (by rw [HC16.out]) (row_bvals r6) (by omega) (by have h1 := (Array.getElem?_eq_some_iff.1 HSU.out.rg).1; have h2 := b6.size; omega) ?_
      intro v7 z7 o7 g7
      obtain ⟨A7, c7, rfl⟩ := own_sliceS7 o7
      have lt7 := HSU.out.own.lt
      have bs7 : Below W3.heap.size W3 z7 := (chain HSU.out.bs b6).grown g7 (chain HSU.out.bs b6).size (fun j hj => by have := (lt7 j hj).1; omega)
      have rg7 : z7.heap[W3.heap.size]? = some (.cells #[.int .i64 nI, CV, .slice PA0 k pc0] 30 (0, 0)) := (g7.block _ (Array.getElem?_eq_some_iff.1 (row_on7 HSU.out.rg b6)).1 (fun e => by have := (lt7 _ e.symm).1; omega)).trans (row_on7 HSU.out.rg b6)
      have HS7 : RowKit.Hid (SX W3 nI CV A7 c7 (k + 1) (PF (k + 1)) (z7.setCell ⟨W3.heap.size, 2, none⟩ (.slice A7 (k + 1) c7))) := Lib.hid ⟨bs7.setCell (Nat.le_refl _) _, heap_setCell_same _ _ _ _ _ _ rg7, ownsRow_setCell_other (a := ⟨W3.heap.size, 2, none⟩) (by rw [HPF.out, bvals_app]; exact o7) (fun e => by have h1 := (o7.lt _ e).1; simp at h1; omega) _⟩
      have RG7 := Lib.hid rg7
      clear g7 o7 lt7 rg7
      refine hK.out _ _ (mkS _ (bs7)) (fun hHeld2 => ?_)
      clear hK K hHeld
      have hHeld := hHeld2
      clear hHeld2
      try simp only [Act.put, List.setIfInBounds_toArray, List.set_cons_zero, List.set_cons_succ]
      refine wpAnyH_take (i := 8) (oi := { dst := some 59, op := .fieldAddr 30 (.tmp 10) 2, type := 0, pos := "ref.go:71", after := #[{ on := 0, ground := .phase }, { on := 1, ground := .phase }, { on := 2, ground := .phase }, { on := 3, ground := .phase }, { on := 4, ground := .phase }, { on := 5, ground := .phase }, { on := 6, ground := .phase }, { on := 7, ground := .phase }], guard := none }) (v := ?_) rfl (by kernel_rfl) (by kernel_rfl) (by kernel_rfl) (fun _ _ _ h => h) (Or.inl ⟨by rfl, ?_⟩) hHeld ?_
      rotate_left
      ·
       intro w hSw
       clear hSw
       go_simp
       try with_reducible rfl
      try simp only [Act.put, List.setIfInBounds_toArray, List.set_cons_zero, List.set_cons_succ]
      refine wpAnyH_ready (rs := [9]) (by kernel_rfl) (by simp) (AllReadyH.cons (o := { dst := none, op := .store 28 (.tmp 59) (.tmp 58), type := 0, pos := "ref.go:71", after := #[{ on := 8, ground := .data }, { on := 7, ground := .data }, { on := 7, ground := .chain }, { on := 0, ground := .phase }, { on := 1, ground := .phase }, { on := 2, ground := .phase }, { on := 3, ground := .phase }, { on := 4, ground := .phase }, { on := 5, ground := .phase }, { on := 6, ground := .phase }, { on := 7, ground := .phase }], guard := none }) rfl (fun K hK => ?_) AllReadyH.nil)
      obtain ⟨⟨_, _, hf7⟩, _, _, hc7⟩ := facts3k RG7.out
      have hl7 := (Array.getElem?_eq_some_iff.1 RG7.out).1
      go_simp
      clear hf7 hc7 hl7
      have HS9 := HS7
      refine hK.out _ _ (mkS _ HS7.out.bs) (fun hHeld2 => ?_)
      clear hK K hHeld hHeld2
      try simp only [Act.put, List.setIfInBounds_toArray, List.set_cons_zero, List.set_cons_succ]
      refine wpAnyH_done (by kernel_rfl) ?_ _
      generalize World.setCell _ _ _ = z9 at HS9 ⊢
      clear mkS
      go_wp2_with fail
      exact ⟨⟨k + 1, _, _, by have := HLT.out; omega, by go_num, congrArg (Value.int .i64) HDK.out, HS9⟩, by have := HLT.out; simp [intOf]; omega⟩
     ·
      have hbs : (bcells C).size = 16 := by rw [bcells_size, HC16.out]
      go_simp
      clear hbs
      generalize hq : World.alloc z5 _ = z6
      have r6 : z6.heap[z5.heap.size]? = some (.cells (bcells C) 41 (0, 0)) := by rw [← hq]; exact fill_short C HC16.out z5
      have b6 : Below U.heap.size U z6 := b5.trans ((show Below z5.heap.size z5 z6 by rw [← hq]; exact below_new _ _).mono b5.size)
      clear hq
      refine hK.out _ _ (mkS _ (chain HSU.out.bs b6)) (fun hHeld2 => ?_)
      clear hK K hHeld
      have hHeld := hHeld2
      clear hHeld2
      try simp only [Act.put, List.setIfInBounds_toArray, List.set_cons_zero, List.set_cons_succ]
      refine wpAnyH_ready (rs := [1]) (by kernel_rfl) (by simp) (AllReadyH.cons (o := { dst := some 52, op := .load 28 (.tmp 51), type := 28, pos := "ref.go:71", after := #[{ on := 0, ground := .data }], guard := none }) rfl (fun K hK => ?_) AllReadyH.nil)
      have hq2 := (facts3k (row_on7 HSU.out.rg b6)).2.2.2
      go_simp
      clear hq2
      refine hK.out _ _ (mkS _ (chain HSU.out.bs b6)) (fun hHeld2 => ?_)
      clear hK K hHeld
      have hHeld := hHeld2
      clear hHeld2
      try simp only [Act.put, List.setIfInBounds_toArray, List.set_cons_zero, List.set_cons_succ]
      refine wpAnyH_ready (rs := [7]) (by kernel_rfl) (by simp) (AllReadyH.cons (o := { dst := some 58, op := .call { callee := .builtin .append, args := #[.tmp 52, .tmp 57], argTypes := #[28, 28] }, type := 28, pos := "ref.go:71", after := #[{ on := 1, ground := .data }, { on := 6, ground := .data }, { on := 5, ground := .chain }], guard := none }) rfl (fun K hK => ?_) AllReadyH.nil)
      try rw [if_pos (by rfl)]
      refine wp_append_shorts (.tmp 52) (.tmp 57) rfl (W3.heap.size + 1) _ _ _ rfl (own_onS HSU.out.own b6) ⟨z5.heap.size, 0, none⟩ 1 1 C rfl (by rw [HC16.out]) (row_bvals r6) (by omega) (by have h1 := (Array.getElem?_eq_some_iff.1 HSU.out.rg).1; have h2 := b6.size; omega) ?_
      intro v7 z7 o7 g7
      obtain ⟨A7, c7, rfl⟩ := own_sliceS7 o7
      have lt7 := HSU.out.own.lt
      have bs7 : Below W3.heap.size W3 z7 := (chain HSU.out.bs b6).grown g7 (chain HSU.out.bs b6).size (fun j hj => by have := (lt7 j hj).1; omega)
      have rg7 : z7.heap[W3.heap.size]? = some (.cells #[.int .i64 nI, CV, .slice PA0 k pc0] 30 (0, 0)) := (g7.block _ (Array.getElem?_eq_some_iff.1 (row_on7 HSU.out.rg b6)).1 (fun e => by have := (lt7 _ e.symm).1; omega)).trans (row_on7 HSU.out.rg b6)
      have HS7 : RowKit.Hid (SX W3 nI CV A7 c7 (k + 1) (PF (k + 1)) (z7.setCell ⟨W3.heap.size, 2, none⟩ (.slice A7 (k + 1) c7))) := Lib.hid ⟨bs7.setCell (Nat.le_refl _) _, heap_setCell_same _ _ _ _ _ _ rg7, ownsRow_setCell_other (a := ⟨W3.heap.size, 2, none⟩) (by rw [HPF.out, bvals_app]; exact o7) (fun e => by have h1 := (o7.lt _ e).1; simp at h1; omega) _⟩
      have RG7 := Lib.hid rg7
      clear g7 o7 lt7 rg7
      refine hK.out _ _ (mkS _ (bs7)) (fun hHeld2 => ?_)
      clear hK K hHeld
      have hHeld := hHeld2
      clear hHeld2
      try simp only [Act.put, List.setIfInBounds_toArray, List.set_cons_zero, List.set_cons_succ]
      refine wpAnyH_take (i := 8) (oi := { dst := some 59, op := .fieldAddr 30 (.tmp 10) 2, type := 0, pos := "ref.go:71", after := #[{ on := 0, ground := .phase }, { on := 1, ground := .phase }, { on := 2, ground := .phase }, { on := 3, ground := .phase }, { on := 4, ground := .phase }, { on := 5, ground := .phase }, { on := 6, ground := .phase }, { on := 7, ground := .phase }], guard := none }) (v := ?_) rfl (by kernel_rfl) (by kernel_rfl) (by kernel_rfl) (fun _ _ _ h => h) (Or.inl ⟨by rfl, ?_⟩) hHeld ?_
      rotate_left
      ·
       intro w hSw
       clear hSw
       go_simp
       try with_reducible rfl
      try simp only [Act.put, List.setIfInBounds_toArray, List.set_cons_zero, List.set_cons_succ]
      refine wpAnyH_ready (rs := [9]) (by kernel_rfl) (by simp) (AllReadyH.cons (o := { dst := none, op := .store 28 (.tmp 59) (.tmp 58), type := 0, pos := "ref.go:71", after := #[{ on := 8, ground := .data }, { on := 7, ground := .data }, { on := 7, ground := .chain }, { on := 0, ground := .phase }, { on := 1, ground := .phase }, { on := 2, ground := .phase }, { on := 3, ground := .phase }, { on := 4, ground := .phase }, { on := 5, ground := .phase }, { on := 6, ground := .phase }, { on := 7, ground := .phase }], guard := none }) rfl (fun K hK => ?_) AllReadyH.nil)
      obtain ⟨⟨_, _, hf7⟩, _, _, hc7⟩ := facts3k RG7.out
      have hl7 := (Array.getElem?_eq_some_iff.1 RG7.out).1
      go_simp
      clear hf7 hc7 hl7
      have HS9 := HS7
      refine hK.out _ _ (mkS _ HS7.out.bs) (fun hHeld2 => ?_)
      clear hK K hHeld hHeld2
      try simp only [Act.put, List.setIfInBounds_toArray, List.set_cons_zero, List.set_cons_succ]
      refine wpAnyH_done (by kernel_rfl) ?_ _
      generalize World.setCell _ _ _ = z9 at HS9 ⊢
      clear mkS
      go_wp2_with fail
      exact ⟨⟨k + 1, _, _, by have := HLT.out; omega, by go_num, congrArg (Value.int .i64) HDK.out, HS9⟩, by have := HLT.out; simp [intOf]; omega⟩
  ·
   have hkk : k = h := by omega
   have hge : ¬ (k : Int) < (h : Int) := by omega
   obtain ⟨A', c', hv, _, _, hsp⟩ := shorts_own (ls := PTH h) HPM.out (by rw [HPL.out, HPFE.out]; rw [hkk] at HSX; exact HSX.out.own)
   have HSP := Lib.hid hsp
   have HSGV := Lib.hid (HSG.out.on HSX.out.bs)
   have HRR := Lib.hid (row_on7 HR13.out HSX.out.bs)
   have hlt6 := (Array.getElem?_eq_some_iff.1 HRR.out).1
   have hlt7 := (Array.getElem?_eq_some_iff.1 HSX.out.rg).1
   have hw3 := (Array.getElem?_eq_some_iff.1 HR13.out).1
   have hown := HSX.out.own.lt
   have HOWN := Lib.hid hown
   have HHV := Lib.hid hv
   have HKK := Lib.hid hkk
   obtain ⟨⟨hf0, hf1, hf2⟩, hc0, hc1, hc2⟩ := facts3k HRR.out
   have hrg := HSX.out.rg
   rw [← HCV.out] at hrg
   obtain ⟨_, hd0, hd1, hd2⟩ := facts3k hrg
   clear hkk hv hsp hown hrg hlt
   go_wp2_with fail
   have hkh := HKK.out
   refine bodyPost_ret (v := .tuple #[.agg #[.int .i64 nI, .slice B 35 cb, .slice PA0 k pc0], .int .i64 0]) (results_twoS rfl _ _ (w.heap.size + 1) 30 _ (0, 0) _ rfl rfl (put3 HRR.out _ _ _) Tryz.underlying30 (sz3 _ _ _)) rfl ⟨B, cb, PA0, pc0, by rw [hkh], ?_, ?_, ?_⟩
   ·
    exact shorts_put3z HSGV.out HRR.out _ _ _
   ·
    have hv2 := HHV.out
    rw [HPL.out] at hv2
    obtain ⟨e1, _, _⟩ := Value.slice.inj hv2
    rw [e1]
    refine shorts_put3 HSP.out (fun g o e => ?_) _ _ _
    rw [← e1] at e
    have := (HOWN.out g (by rw [e]; rfl)).1
    omega
   ·
    exact below_put3 (chain HB3.out HSX.out.bs) (by omega) _ _ _
end Go.Proofs.YtcgffkkfeimifaaGreatDoor
