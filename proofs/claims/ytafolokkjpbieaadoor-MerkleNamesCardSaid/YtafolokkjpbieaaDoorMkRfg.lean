import Derived.Test.YtafolokkjpbieaaDoorMkRabcd
import Derived.Test.YtafolokkjpbieaaDoorOneRF
import Derived.Test.YtafolokkjpbieaaDoorOneRG
namespace Go.Proofs.YtafolokkjpbieaaDoor
open Go.RowKit Sha Ots
set_option linter.unusedVariables false
set_option linter.unusedSimpArgs false
set_option maxRecDepth 100000 in
set_option maxHeartbeats 2000000 in
theorem root_ref_bad (h n : Int) (M : Value) (CA PA : Option Addr) (cl cc pl pc : Nat) (hne : chkV h n cl pl ≠ 0) (w : World) :
    Calls Tryd.prog 20 #[.int .i64 h, M, .agg #[.int .i64 n, .slice CA cl cc, .slice PA pl pc]] w fun e w' => e = .returned (.tuple #[.agg (bcells (List.replicate 16 0)), .int .i64 (chkV h n cl pl)]) ∧ Below w.heap.size w w' := by
  have CK := Lib.hid (fun (V : World) => check_ref h n CA PA cl cc pl pc V)
  obtain ⟨e7, he7⟩ : ∃ e7, chkV h n cl pl = e7 := ⟨_, rfl⟩
  rw [he7] at CK hne ⊢
  have hnb : (e7 != 0) = true := by simp [hne]
  have hz16 : (List.replicate 16 (0 : UInt8)).length = 16 := rfl
  obtain ⟨R, hR⟩ : ∃ R, List.replicate 16 (0 : UInt8) = R := ⟨_, rfl⟩
  rw [hR] at hz16 ⊢
  have HSZ := Lib.hid (sz16 R hz16)
  have hso : (16 : Nat) = (bcells R).size := by rw [bcells_size, hz16]
  have HSO := Lib.hid hso
  have HR := Lib.hid hR
  clear he7 hne hz16 hR hso
  go_enter Tryd.func20, Tryd.ntmps20
  go_wp2_with fail
  refine (CK.out _).mono ?_
  rintro e w1 ⟨rfl, hb1⟩
  have HR0 := Lib.hid ((hb1.block w.heap.size (by simp; omega)).trans (heap_alloc2_old _ _ _))
  have HR1 := Lib.hid ((hb1.block (w.heap.size + 1) (by simp)).trans (heap_alloc2_new _ _ _))
  have HB1 := Lib.hid (chain ((below_new w _).trans ((below_new _ _).mono (by simp))) hb1)
  have hlt1 := (Array.getElem?_eq_some_iff.1 HR0.out).1
  obtain ⟨_, hc0, hc1, hc2⟩ := facts3 HR0.out
  clear hb1
  go_wp2_with fail
  refine (CK.out _).mono ?_
  rintro e w2 ⟨rfl, hb2⟩
  have HR2 := Lib.hid (row_on HR1.out hb2)
  have HB2 := Lib.hid (chain HB1.out hb2)
  clear hb2 hc0 hc1 hc2 hlt1 HR0 HR1 HB1
  go_wp2_with (refine wpList_store_row rfl 23 (.tmp 6) (.tmp 16) rfl (w.heap.size + 1) (bcells R) rfl (by rw [← HR.out]; rfl) 23 _ HR2.out HSZ.out HSO.out (bcells_one _) ?_)
  refine bodyPost_ret (v := .tuple #[.agg (bcells R), .int .i64 e7]) (results_two rfl _ _ (w.heap.size + 1) 23 _ (0, 0) _ _ _ rfl rfl (setRow_heap _ _ _ _ _ _ HR2.out) Tryd.underlying23 HSZ.out) rfl ⟨rfl, ?_⟩
  exact below_row HB2.out (by omega) _
theorem rangeAt_ltN {g o : Nat} {w : World} {p : List UInt8} (h : w.rangeAt g o (bvals p)) (hp : p.length = 16) : g < w.heap.size := rangeAt_lt h (by intro e; have := congrArg List.length e; rw [bvals_len, hp] at this; simp at this)
/-- between two elements of the path -/
structure RX (w : World) (Bx : Nat) (X : List UInt8) (sg : Array Value) (V : World) : Prop where
  bl : Below w.heap.size w V
  ge : w.heap.size + 2 ≤ Bx
  rx : V.heap[Bx]? = some (.cells (bcells X) 23 (0, 0))
  rs : V.heap[w.heap.size]? = some (.cells sg 31 (0, 0))
  ro : V.heap[w.heap.size + 1]? = some (.cells (bcells (List.replicate 16 0)) 23 (0, 0))
theorem RX.on {w V U : World} {Bx : Nat} {X : List UInt8} {sg : Array Value} (h : RX w Bx X sg V) (hb : Below V.heap.size V U) : RX w Bx X sg U :=
  ⟨chain h.bl hb, h.ge, row_on h.rx hb, row_on h.rs hb, row_on h.ro hb⟩
theorem RX.put {w V : World} {Bx : Nat} {X Y : List UInt8} {sg : Array Value} (h : RX w Bx X sg V) (hX : X.length = 16) (hY : Y.length = 16) : RX w Bx Y sg (V.setCells Bx 0 (bcells Y).toList) :=
  ⟨below_setCells _ _ _ h.bl (by have := h.ge; omega), h.ge, row_setCells h.rx (by rw [bcells_size, bcells_size, hX, hY]), (heap_setCells_other _ _ _ (by have := h.ge; omega)).trans h.rs, (heap_setCells_other _ _ _ (by have := h.ge; omega)).trans h.ro⟩
set_option maxRecDepth 100000 in
set_option maxHeartbeats 4000000 in
theorem root_ref_yes (h n : Nat) (hh : h ≤ 4) (hn : n < 2 ^ h) (l : List UInt8) (A : Option Addr) (c : Nat) (hl : l.length ≤ 100000) (hc : l.length ≤ c) (hA : A = none → c = 0) (ls ps : List (List UInt8)) (CA PA : Option Addr) (cc pc : Nat) (h35 : ls.length = 35) (hpl : ps.length = h) (w : World) (hsrc : SrcAt A l w) (hsh : Shorts CA ls w) (hps : Shorts PA ps w) :
    Calls Tryd.prog 20 #[.int .i64 (h : Int), .slice A l.length c, .agg #[.int .i64 (n : Int), .slice CA 35 cc, .slice PA h pc]] w fun e w' => e = .returned (.tuple #[.agg (bcells (fol (key l ls) n ps)), .int .i64 0]) ∧ Below w.heap.size w w' := by
  have hck0 : chkV (h : Int) (n : Int) 35 h = 0 := by
    unfold chkV
    rw [if_pos (by omega), if_pos ⟨⟨by omega, by rw [Int.toNat_natCast]; exact_mod_cast hn⟩, rfl, rfl⟩]
  have hck : ∀ V : World, Calls Tryd.prog 21 #[.int .i64 (h : Int), .agg #[.int .i64 (n : Int), .slice CA 35 cc, .slice PA h pc]] V fun e w' => e = .returned (.int .i64 0) ∧ Below V.heap.size V w' := fun V => by
    have h1 := check_ref (h : Int) (n : Int) CA PA 35 cc h pc V
    rw [hck0] at h1
    exact h1
  have hre : ∀ V : World, Below w.heap.size w V → Calls Tryd.prog 40 #[.slice A l.length c, .slice CA 35 cc] V fun e w' => e = .returned (.tuple #[.agg (bcells (key l ls)), .int .i64 0]) ∧ Below V.heap.size V w' := fun V hb => by
    have h1 := recover_ref l A c hl hc hA ls CA cc h35 V (hsrc.on hb) (hsh.on hb)
    rw [h35] at h1
    exact h1
  -- what the walk over the path has come to
  obtain ⟨x0, hx0⟩ : ∃ x0, key l ls = x0 := ⟨_, rfl⟩
  have hx16 : x0.length = 16 := by rw [← hx0]; exact key_len _ _
  rw [hx0] at hre ⊢
  obtain ⟨T, hT⟩ : ∃ T : Nat → List UInt8, ∀ k, T k = fol x0 n (ps.take k) := ⟨_, fun _ => rfl⟩
  obtain ⟨D, hD⟩ : ∃ D : Nat → Nat, ∀ k, D k = n / 2 ^ k := ⟨_, fun _ => rfl⟩
  have hT0 : T 0 = x0 := by rw [hT]; rfl
  have hD0 : D 0 = n := by rw [hD, Nat.pow_zero, Nat.div_one]
  have hTl : ∀ k, (T k).length = 16 := fun k => by rw [hT]; exact fol_len x0 hx16 _ _
  have hDl : ∀ k, D k ≤ 1000000 := fun k => by
    have hn16 : n < 16 := by
      have := Nat.pow_le_pow_right (show 0 < 2 by decide) hh
      have h16 : 2 ^ 4 = 16 := rfl
      omega
    rw [hD]
    have := Nat.div_le_self n (2 ^ k)
    omega
  have hDs : ∀ k, wrap64 ((D k : Int) / 2) = (D (k + 1) : Int) := fun k => by
    have h1 := hDl k
    have e2 : D k / 2 = D (k + 1) := by rw [hD, hD, Nat.pow_succ, Nat.div_div_eq_div_mul]
    rw [← e2]
    unfold wrap64
    omega
  have hTe : T h = fol x0 n ps := by rw [hT, ← hpl, List.take_length]
  have hst : ∀ k, k < h → ∀ p, ps.getD k [] = p → T (k + 1) = stq (T k) (D k) p := fun k hk p hp => by
    rw [hT, hT, hD, fol_take x0 ps n k (by omega), hp]
  have hpa : ∀ k, k < h → ∃ g o p, PA = some ⟨g, o, none⟩ ∧ ps.getD k [] = p ∧ p.length = 16 ∧ w.rangeAt g (o + k * 16) (bvals p) := fun k hk => by
    obtain ⟨g, o, e, hr⟩ := hps.atS k (by omega)
    exact ⟨g, o, _, e, rfl, getD_len16 hps.len k (by omega), hr⟩
  rw [← hTe]
  have HTL := Lib.hid hTl
  have CK := Lib.hid hck
  have RE := Lib.hid hre
  have HST := Lib.hid hst
  have HPA := Lib.hid hpa
  have HT0 := Lib.hid hT0
  have HD0 := Lib.hid hD0
  have HDS := Lib.hid hDs
  have HX16 := Lib.hid hx16
  have HH := Lib.hid hh
  have HSZ := Lib.hid (sz16 x0 hx16)
  have hso : (16 : Nat) = (bcells x0).size := by rw [bcells_size, hx16]
  have HSO := Lib.hid hso
  obtain ⟨m, hm⟩ : ∃ m, l.length = m := ⟨_, rfl⟩
  rw [hm] at RE ⊢
  clear hck0 hck hre hx0 hx16 hT hD hT0 hD0 hTl hDl hDs hTe hst hpa hso hm hl hc hsrc hsh hps hn h35 hpl hh hA
  go_enter Tryd.func20, Tryd.ntmps20
  go_wp2_with fail
  refine (CK.out _).mono ?_
  rintro e w1 ⟨rfl, hb1⟩
  have HR0 := Lib.hid ((hb1.block w.heap.size (by simp; omega)).trans (heap_alloc2_old _ _ _))
  have HR1 := Lib.hid ((hb1.block (w.heap.size + 1) (by simp)).trans (heap_alloc2_new _ _ _))
  have HB1 := Lib.hid (chain ((below_new w _).trans ((below_new _ _).mono (by simp))) hb1)
  have hlt1 := (Array.getElem?_eq_some_iff.1 HR0.out).1
  obtain ⟨_, hc0, hc1, hc2⟩ := facts3 HR0.out
  clear hb1
  go_wp2_with fail
  refine (RE.out _ HB1.out).mono ?_
  rintro e w2 ⟨rfl, hb2⟩
  have HR02 := Lib.hid (row_on HR0.out hb2)
  have HR12 := Lib.hid (row_on HR1.out hb2)
  have HB2 := Lib.hid (chain HB1.out hb2)
  clear hb2 hc0 hc1 hc2 hlt1 HR0 HR1 HB1
  go_upto_region 4 with (refine wpList_store_row rfl 23 (.tmp 8) (.tmp 25) rfl w2.heap.size (bcells x0) rfl rfl 23 _ (heap_alloc_new _ _) HSZ.out HSO.out (bcells_one _) ?_)
  rw [World.setRow_alloc_new]
  generalize hV : World.alloc w2 _ = V
  have hbV : Below w2.heap.size w2 V := by rw [← hV]; exact below_new _ _
  have hrx : V.heap[w2.heap.size]? = some (.cells (bcells x0) 23 (0, 0)) := by rw [← hV]; exact heap_alloc_new _ _
  have HRX : RowKit.Hid (RX w w2.heap.size x0 #[.int .i64 (n : Int), .slice CA 35 cc, .slice PA h pc] V) := Lib.hid ⟨chain HB2.out hbV, (Array.getElem?_eq_some_iff.1 HR12.out).1, hrx, row_on HR02.out hbV, (row_on HR12.out hbV).trans rfl⟩
  obtain ⟨Bx, hBx⟩ : ∃ Bx, w2.heap.size = Bx := ⟨_, rfl⟩
  rw [hBx] at HRX
  try simp only [hBx]
  obtain ⟨_, hc0, hc1, hc2⟩ := facts3 HRX.out.rs
  have hlt0 := (Array.getElem?_eq_some_iff.1 HRX.out.rs).1
  have HRXT : RowKit.Hid (RX w Bx (T 0) #[.int .i64 (n : Int), .slice CA 35 cc, .slice PA h pc] V) := Lib.hid (by rw [HT0.out]; exact HRX.out)
  clear hV hbV hrx hBx HR02 HR12 HB2 HRX
  go_wp2_with fail
  go_loopw [10, 11] (fun nn ix wr => ∃ k : Nat, k ≤ h ∧ ix = .int .i64 (k : Int) ∧ nn = .int .i64 (D k : Int) ∧ RowKit.Hid (RX w Bx (T k) #[.int .i64 (n : Int), .slice CA 35 cc, .slice PA h pc] wr)) (fun _ ix _ => h - (intOf ix).toNat)
  case atStart => exact ⟨0, by omega, rfl, by rw [HD0.out], HRXT⟩
  case round =>
    clear HRXT hc0 hc1 hc2 hlt0
    obtain ⟨k, hk, rfl, rfl, HRX⟩ := hrel
    obtain ⟨_, hc0, hc1, hc2⟩ := facts3 HRX.out.rs
    have hlt0 := (Array.getElem?_eq_some_iff.1 HRX.out.rs).1
    by_cases hlt : k < h
    · have hki : (k : Int) < (h : Int) := by omega
      have hh4 := HH.out
      obtain ⟨g, o, p, rfl, hp, hp16, hr⟩ := HPA.out k hlt
      have hgl : g < w.heap.size := rangeAt_ltN hr hp16
      have HR := Lib.hid hr
      have HR0 := Lib.hid hr
      have hst := HST.out k hlt p hp
      have HXI : (Tryd.prog.info? 23).map (·.size) = some (bvals p).length := by rw [bvals_len, hp16]; kernel_rfl
      have HXI2 := Lib.hid HXI
      have HDK := Lib.hid (HDS.out k)
      have hX16 := HTL.out k
      have hY16 := HTL.out (k + 1)
      have HGL := Lib.hid hgl
      have HLT := Lib.hid hlt
      have hu := Tryd.underlying23
      obtain ⟨dk, hdk⟩ : ∃ dk, D k = dk := ⟨_, rfl⟩
      obtain ⟨d2, hd2⟩ : ∃ d2, D (k + 1) = d2 := ⟨_, rfl⟩
      rw [hdk] at hst HDK ⊢
      rw [hd2] at HDK
      have HD2 := Lib.hid hd2
      by_cases he : dk % 2 = 0

      · rw [show stq (T k) dk p = jn (T k) p from if_pos he] at hst
        have hjo := fun (V : World) => joined7_ref (T k) p hX16 hp16 V
        rw [← hst] at hjo
        have hi : (dk : Int) % 2 = 0 := by omega
        obtain ⟨X, hX⟩ : ∃ X, T k = X := ⟨_, rfl⟩
        obtain ⟨F, hF⟩ : ∃ F, T (k + 1) = F := ⟨_, rfl⟩
        rw [hX] at hjo hX16 HRX
        rw [hF] at hjo hY16
        have JO := Lib.hid hjo
        have HX16b := Lib.hid hX16
        have HF16 := Lib.hid hY16
        have HSZX := Lib.hid (sz16 X hX16)
        have HSZF := Lib.hid (sz16 F hY16)
        have HF := Lib.hid hF
        clear hjo hst hX hF hX16 hY16 he hdk hd2 hp hp16 hr hgl hlt HXI
        go_wp2_with fail
        obtain ⟨U, hU⟩ : ∃ U, wr.drew = U := ⟨_, rfl⟩
        have hbU : Below wr.heap.size wr U := by rw [← hU]; exact (Below.refl _ _).drew
        have HRU := Lib.hid (HRX.out.on hbU)
        have mkS : ∀ z, RX w Bx X #[.int .i64 (n : Int), .slice CA 35 cc, .slice (some ⟨g, o, none⟩) h pc] z → z.cell? ⟨w.heap.size, 2, none⟩ = some (.slice (some ⟨g, o, none⟩) h pc) ∧ z.rangeAt g (o + k * 16) (bvals p) := fun z hz => ⟨(facts3 hz.rs).2.2.2, rangeAt_below HR0.out hz.bl HGL.out⟩
        have mkS2 : ∀ z, RX w Bx F #[.int .i64 (n : Int), .slice CA 35 cc, .slice (some ⟨g, o, none⟩) h pc] z → z.cell? ⟨w.heap.size, 2, none⟩ = some (.slice (some ⟨g, o, none⟩) h pc) ∧ z.rangeAt g (o + k * 16) (bvals p) := fun z hz => ⟨(facts3 hz.rs).2.2.2, rangeAt_below HR0.out hz.bl HGL.out⟩
        have hS0 : wr.drew.cell? ⟨w.heap.size, 2, none⟩ = some (.slice (some ⟨g, o, none⟩) h pc) ∧ wr.drew.rangeAt g (o + k * 16) (bvals p) := by rw [hU]; exact mkS _ HRU.out
        clear hbU hc0 hc1 hc2 hlt0 HR
        refine wp_region_held_drew (S := fun z => z.cell? ⟨w.heap.size, 2, none⟩ = some (.slice (some ⟨g, o, none⟩) h pc) ∧ z.rangeAt g (o + k * 16) (bvals p)) (by kernel_rfl) hS0 (fun hHeld => ?_)
        rw [hU] at hHeld ⊢
        clear hS0 hU
        refine wpAnyH_take (i := 1) (oi := { dst := Option.some 40, op := Go.Op.fieldAddr 31 (Go.Operand.tmp 5) 2, type := 0, pos := "ref.go:97", after := #[], guard := Option.none }) (v := ?_) rfl (by kernel_rfl) (by kernel_rfl) (by kernel_rfl) (fun _ _ _ h => h) (Or.inl ⟨by rfl, ?_⟩) hHeld ?_
        rotate_left
        · intro w hSw
          clear hSw
          go_simp
          try with_reducible rfl
        try simp only [Act.put, List.setIfInBounds_toArray, List.set_cons_zero, List.set_cons_succ]
        refine wpAnyH_take (i := 2) (oi := { dst := Option.some 41, op := Go.Op.load 29 (Go.Operand.tmp 40), type := 29, pos := "ref.go:97", after := #[{ on := 1, ground := Go.Ground.data }], guard := Option.none }) (v := ?_) rfl (by kernel_rfl) (by kernel_rfl) (by kernel_rfl) (fun _ _ _ h => h) (Or.inl ⟨by rfl, ?_⟩) hHeld ?_
        rotate_left
        · intro w hSw
          have hfc0 := hSw.1
          clear hSw
          go_simp
          try with_reducible rfl
        try simp only [Act.put, List.setIfInBounds_toArray, List.set_cons_zero, List.set_cons_succ]
        refine wpAnyH_take (i := 3) (oi := { dst := Option.some 42, op := Go.Op.move (Go.Operand.tmp 11), type := 3, pos := "ref.go:97", after := #[], guard := Option.none }) (v := ?_) rfl (by kernel_rfl) (by kernel_rfl) (by kernel_rfl) (fun _ _ _ h => h) (Or.inl ⟨by rfl, ?_⟩) hHeld ?_
        rotate_left
        · intro w hSw
          clear hSw
          go_simp
          try with_reducible rfl
        try simp only [Act.put, List.setIfInBounds_toArray, List.set_cons_zero, List.set_cons_succ]
        refine wpAnyH_take (i := 4) (oi := { dst := Option.some 43, op := Go.Op.indexAddr 29 (Go.Operand.tmp 41) (Go.Operand.tmp 42), type := 0, pos := "ref.go:97", after := #[{ on := 2, ground := Go.Ground.data }, { on := 3, ground := Go.Ground.data }], guard := Option.none }) (v := ?_) rfl (by kernel_rfl) (by kernel_rfl) (by kernel_rfl) (fun _ _ _ h => h) (Or.inl ⟨by rfl, ?_⟩) hHeld ?_
        rotate_left
        · intro w hSw
          clear hSw
          go_simp
          try with_reducible rfl
        try simp only [Act.put, List.setIfInBounds_toArray, List.set_cons_zero, List.set_cons_succ]
        refine wpAnyH_take (i := 5) (oi := { dst := Option.some 44, op := Go.Op.load 23 (Go.Operand.tmp 43), type := 23, pos := "ref.go:97", after := #[{ on := 4, ground := Go.Ground.data }], guard := Option.none }) (v := .agg (bvals p).toArray) rfl (by kernel_rfl) (by kernel_rfl) (by kernel_rfl) (fun _ _ _ h => h) (yieldsIf_load_mid (by rfl) _ _ rfl _ _ rfl (bvals p) _ (fun w hSw => hSw.2) hu rfl HXI2.out) hHeld ?_
        try simp only [Act.put, List.setIfInBounds_toArray, List.set_cons_zero, List.set_cons_succ]
        refine wpAnyH_ready (rs := [0]) (by kernel_rfl) (by simp) (AllReadyH.cons (o := { dst := Option.some 39, op := Go.Op.load 23 (Go.Operand.tmp 8), type := 23, pos := "ref.go:97", after := #[], guard := Option.none }) rfl (fun K hK => ?_) AllReadyH.nil)
        try rw [if_pos (by rfl)]
        refine wp_load_row 23 (.tmp 8) rfl Bx rfl 23 (bcells X) (0, 0) _ HRU.out.rx hu rfl HSZX.out ?_
        refine hK.out _ _ hHeld (fun hHeld2 => ?_)
        clear hK K hHeld
        have hHeld := hHeld2
        clear hHeld2
        try simp only [Act.put, List.setIfInBounds_toArray, List.set_cons_zero, List.set_cons_succ]
        refine wpAnyH_ready (rs := [6]) (by kernel_rfl) (by simp) (AllReadyH.cons (o := { dst := Option.some 45, op := Go.Op.call { callee := Go.Callee.value (Go.Operand.func 41), args := #[Go.Operand.tmp 39, Go.Operand.tmp 44], argTypes := #[23, 23] }, type := 23, pos := "ref.go:97", after := #[{ on := 0, ground := Go.Ground.data }, { on := 5, ground := Go.Ground.data }], guard := Option.none }) rfl (fun K hK => ?_) AllReadyH.nil)
        go_simp
        refine (JO.out _).mono ?_
        rintro e z1 ⟨rfl, hb1⟩
        have HRZ := Lib.hid (HRU.out.on hb1)
        go_simp
        refine hK.out _ _ (mkS _ HRZ.out) (fun hHeld2 => ?_)
        clear hK K hHeld hb1
        have hHeld := hHeld2
        clear hHeld2
        try simp only [Act.put, List.setIfInBounds_toArray, List.set_cons_zero, List.set_cons_succ]
        refine wpAnyH_ready (rs := [7]) (by kernel_rfl) (by simp) (AllReadyH.cons (o := { dst := Option.none, op := Go.Op.store 23 (Go.Operand.tmp 8) (Go.Operand.tmp 45), type := 0, pos := "ref.go:97", after := #[{ on := 6, ground := Go.Ground.data }, { on := 6, ground := Go.Ground.chain }, { on := 0, ground := Go.Ground.phase }, { on := 1, ground := Go.Ground.phase }, { on := 2, ground := Go.Ground.phase }, { on := 3, ground := Go.Ground.phase }, { on := 4, ground := Go.Ground.phase }, { on := 5, ground := Go.Ground.phase }, { on := 6, ground := Go.Ground.phase }], guard := Option.none }) rfl (fun K hK => ?_) AllReadyH.nil)
        try rw [if_pos (by rfl)]
        refine wp_store_mid 23 (.tmp 8) (.tmp 45) rfl Bx 0 (bcells F) rfl rfl (there_row HRZ.out.rx _ (by rw [bcells_size, bcells_size, HX16b.out, HF16.out]; exact Nat.le_refl _)) HSZF.out (bcells_one _) ?_
        have HRY := Lib.hid (HRZ.out.put HX16b.out HF16.out)
        refine hK.out _ _ (mkS2 _ HRY.out) (fun hHeld2 => ?_)
        clear hK K hHeld hHeld2
        try simp only [Act.put, List.setIfInBounds_toArray, List.set_cons_zero, List.set_cons_succ]
        refine wpAnyH_done (by kernel_rfl) ?_ _
        generalize World.setCells _ _ _ _ = z5 at HRY ⊢
        clear mkS mkS2
        go_wp2_with fail
        refine ⟨⟨k + 1, by have := HLT.out; omega, by go_num, by rw [HD2.out]; exact congrArg (Value.int .i64) HDK.out, by rw [HF.out]; exact HRY⟩, by have := HLT.out; simp [intOf]; omega⟩
      · rw [show stq (T k) dk p = jn p (T k) from if_neg he] at hst
        have hjo := fun (V : World) => joined7_ref p (T k) hp16 hX16 V
        rw [← hst] at hjo
        have hi : (dk : Int) % 2 = 1 := by omega
        obtain ⟨X, hX⟩ : ∃ X, T k = X := ⟨_, rfl⟩
        obtain ⟨F, hF⟩ : ∃ F, T (k + 1) = F := ⟨_, rfl⟩
        rw [hX] at hjo hX16 HRX
        rw [hF] at hjo hY16
        have JO := Lib.hid hjo
        have HX16b := Lib.hid hX16
        have HF16 := Lib.hid hY16
        have HSZX := Lib.hid (sz16 X hX16)
        have HSZF := Lib.hid (sz16 F hY16)
        have HF := Lib.hid hF
        clear hjo hst hX hF hX16 hY16 he hdk hd2 hp hp16 hr hgl hlt HXI
        go_wp2_with fail
        obtain ⟨U, hU⟩ : ∃ U, wr.drew = U := ⟨_, rfl⟩
        have hbU : Below wr.heap.size wr U := by rw [← hU]; exact (Below.refl _ _).drew
        have HRU := Lib.hid (HRX.out.on hbU)
        have mkS : ∀ z, RX w Bx X #[.int .i64 (n : Int), .slice CA 35 cc, .slice (some ⟨g, o, none⟩) h pc] z → z.cell? ⟨w.heap.size, 2, none⟩ = some (.slice (some ⟨g, o, none⟩) h pc) ∧ z.rangeAt g (o + k * 16) (bvals p) := fun z hz => ⟨(facts3 hz.rs).2.2.2, rangeAt_below HR0.out hz.bl HGL.out⟩
        have mkS2 : ∀ z, RX w Bx F #[.int .i64 (n : Int), .slice CA 35 cc, .slice (some ⟨g, o, none⟩) h pc] z → z.cell? ⟨w.heap.size, 2, none⟩ = some (.slice (some ⟨g, o, none⟩) h pc) ∧ z.rangeAt g (o + k * 16) (bvals p) := fun z hz => ⟨(facts3 hz.rs).2.2.2, rangeAt_below HR0.out hz.bl HGL.out⟩
        have hS0 : wr.drew.cell? ⟨w.heap.size, 2, none⟩ = some (.slice (some ⟨g, o, none⟩) h pc) ∧ wr.drew.rangeAt g (o + k * 16) (bvals p) := by rw [hU]; exact mkS _ HRU.out
        clear hbU hc0 hc1 hc2 hlt0 HR
        refine wp_region_held_drew (S := fun z => z.cell? ⟨w.heap.size, 2, none⟩ = some (.slice (some ⟨g, o, none⟩) h pc) ∧ z.rangeAt g (o + k * 16) (bvals p)) (by kernel_rfl) hS0 (fun hHeld => ?_)
        rw [hU] at hHeld ⊢
        clear hS0 hU
        refine wpAnyH_take (i := 0) (oi := { dst := Option.some 46, op := Go.Op.fieldAddr 31 (Go.Operand.tmp 5) 2, type := 0, pos := "ref.go:99", after := #[], guard := Option.none }) (v := ?_) rfl (by kernel_rfl) (by kernel_rfl) (by kernel_rfl) (fun _ _ _ h => h) (Or.inl ⟨by rfl, ?_⟩) hHeld ?_
        rotate_left
        · intro w hSw
          clear hSw
          go_simp
          try with_reducible rfl
        try simp only [Act.put, List.setIfInBounds_toArray, List.set_cons_zero, List.set_cons_succ]
        refine wpAnyH_take (i := 1) (oi := { dst := Option.some 47, op := Go.Op.load 29 (Go.Operand.tmp 46), type := 29, pos := "ref.go:99", after := #[{ on := 0, ground := Go.Ground.data }], guard := Option.none }) (v := ?_) rfl (by kernel_rfl) (by kernel_rfl) (by kernel_rfl) (fun _ _ _ h => h) (Or.inl ⟨by rfl, ?_⟩) hHeld ?_
        rotate_left
        · intro w hSw
          have hfc0 := hSw.1
          clear hSw
          go_simp
          try with_reducible rfl
        try simp only [Act.put, List.setIfInBounds_toArray, List.set_cons_zero, List.set_cons_succ]
        refine wpAnyH_take (i := 2) (oi := { dst := Option.some 48, op := Go.Op.move (Go.Operand.tmp 11), type := 3, pos := "ref.go:99", after := #[], guard := Option.none }) (v := ?_) rfl (by kernel_rfl) (by kernel_rfl) (by kernel_rfl) (fun _ _ _ h => h) (Or.inl ⟨by rfl, ?_⟩) hHeld ?_
        rotate_left
        · intro w hSw
          clear hSw
          go_simp
          try with_reducible rfl
        try simp only [Act.put, List.setIfInBounds_toArray, List.set_cons_zero, List.set_cons_succ]
        refine wpAnyH_take (i := 3) (oi := { dst := Option.some 49, op := Go.Op.indexAddr 29 (Go.Operand.tmp 47) (Go.Operand.tmp 48), type := 0, pos := "ref.go:99", after := #[{ on := 1, ground := Go.Ground.data }, { on := 2, ground := Go.Ground.data }], guard := Option.none }) (v := ?_) rfl (by kernel_rfl) (by kernel_rfl) (by kernel_rfl) (fun _ _ _ h => h) (Or.inl ⟨by rfl, ?_⟩) hHeld ?_
        rotate_left
        · intro w hSw
          clear hSw
          go_simp
          try with_reducible rfl
        try simp only [Act.put, List.setIfInBounds_toArray, List.set_cons_zero, List.set_cons_succ]
        refine wpAnyH_take (i := 4) (oi := { dst := Option.some 50, op := Go.Op.load 23 (Go.Operand.tmp 49), type := 23, pos := "ref.go:99", after := #[{ on := 3, ground := Go.Ground.data }], guard := Option.none }) (v := .agg (bvals p).toArray) rfl (by kernel_rfl) (by kernel_rfl) (by kernel_rfl) (fun _ _ _ h => h) (yieldsIf_load_mid (by rfl) _ _ rfl _ _ rfl (bvals p) _ (fun w hSw => hSw.2) hu rfl HXI2.out) hHeld ?_
        try simp only [Act.put, List.setIfInBounds_toArray, List.set_cons_zero, List.set_cons_succ]
        refine wpAnyH_ready (rs := [5]) (by kernel_rfl) (by simp) (AllReadyH.cons (o := { dst := Option.some 51, op := Go.Op.load 23 (Go.Operand.tmp 8), type := 23, pos := "ref.go:99", after := #[], guard := Option.none }) rfl (fun K hK => ?_) AllReadyH.nil)
        try rw [if_pos (by rfl)]
        refine wp_load_row 23 (.tmp 8) rfl Bx rfl 23 (bcells X) (0, 0) _ HRU.out.rx hu rfl HSZX.out ?_
        refine hK.out _ _ hHeld (fun hHeld2 => ?_)
        clear hK K hHeld
        have hHeld := hHeld2
        clear hHeld2
        try simp only [Act.put, List.setIfInBounds_toArray, List.set_cons_zero, List.set_cons_succ]
        refine wpAnyH_ready (rs := [6]) (by kernel_rfl) (by simp) (AllReadyH.cons (o := { dst := Option.some 52, op := Go.Op.call { callee := Go.Callee.value (Go.Operand.func 41), args := #[Go.Operand.tmp 50, Go.Operand.tmp 51], argTypes := #[23, 23] }, type := 23, pos := "ref.go:99", after := #[{ on := 4, ground := Go.Ground.data }, { on := 5, ground := Go.Ground.data }], guard := Option.none }) rfl (fun K hK => ?_) AllReadyH.nil)
        go_simp
        refine (JO.out _).mono ?_
        rintro e z1 ⟨rfl, hb1⟩
        have HRZ := Lib.hid (HRU.out.on hb1)
        go_simp
        refine hK.out _ _ (mkS _ HRZ.out) (fun hHeld2 => ?_)
        clear hK K hHeld hb1
        have hHeld := hHeld2
        clear hHeld2
        try simp only [Act.put, List.setIfInBounds_toArray, List.set_cons_zero, List.set_cons_succ]
        refine wpAnyH_ready (rs := [7]) (by kernel_rfl) (by simp) (AllReadyH.cons (o := { dst := Option.none, op := Go.Op.store 23 (Go.Operand.tmp 8) (Go.Operand.tmp 52), type := 0, pos := "ref.go:99", after := #[{ on := 6, ground := Go.Ground.data }, { on := 6, ground := Go.Ground.chain }, { on := 0, ground := Go.Ground.phase }, { on := 1, ground := Go.Ground.phase }, { on := 2, ground := Go.Ground.phase }, { on := 3, ground := Go.Ground.phase }, { on := 4, ground := Go.Ground.phase }, { on := 5, ground := Go.Ground.phase }, { on := 6, ground := Go.Ground.phase }], guard := Option.none }) rfl (fun K hK => ?_) AllReadyH.nil)
        try rw [if_pos (by rfl)]
        refine wp_store_mid 23 (.tmp 8) (.tmp 52) rfl Bx 0 (bcells F) rfl rfl (there_row HRZ.out.rx _ (by rw [bcells_size, bcells_size, HX16b.out, HF16.out]; exact Nat.le_refl _)) HSZF.out (bcells_one _) ?_
        have HRY := Lib.hid (HRZ.out.put HX16b.out HF16.out)
        refine hK.out _ _ (mkS2 _ HRY.out) (fun hHeld2 => ?_)
        clear hK K hHeld hHeld2
        try simp only [Act.put, List.setIfInBounds_toArray, List.set_cons_zero, List.set_cons_succ]
        refine wpAnyH_done (by kernel_rfl) ?_ _
        generalize World.setCells _ _ _ _ = z5 at HRY ⊢
        clear mkS mkS2
        go_wp2_with fail
        refine ⟨⟨k + 1, by have := HLT.out; omega, by go_num, by rw [HD2.out]; exact congrArg (Value.int .i64) HDK.out, by rw [HF.out]; exact HRY⟩, by have := HLT.out; simp [intOf]; omega⟩
    · have hkk : k = h := by omega
      subst hkk
      have hge : ¬ (k : Int) < (k : Int) := by omega
      have hX16 := HTL.out k
      have HSZF := Lib.hid (sz16 (T k) hX16)
      have hso : (16 : Nat) = (bcells (T k)).size := by rw [bcells_size, hX16]
      have HSO2 := Lib.hid hso
      clear hX16 hso
      go_wp2_with (first | (refine wpList_load_row rfl 23 (.tmp 8) rfl Bx rfl 23 (bcells (T k)) (0, 0) _ HRX.out.rx Tryd.underlying23 rfl HSZF.out ?_) | (refine wpList_store_row rfl 23 (.tmp 6) (.tmp 55) rfl (w.heap.size + 1) (bcells (T k)) rfl rfl 23 _ HRX.out.ro HSZF.out HSO2.out (bcells_one _) ?_))
      refine bodyPost_ret (v := .tuple #[.agg (bcells (T k)), .int .i64 0]) (results_two rfl _ _ (w.heap.size + 1) 23 _ (0, 0) _ _ _ rfl rfl (setRow_heap _ _ _ _ _ _ HRX.out.ro) Tryd.underlying23 HSZF.out) rfl ⟨rfl, ?_⟩
      exact below_row HRX.out.bl (by omega) _
theorem root_ref_all (l : List UInt8) (A : Option Addr) (c : Nat) (hl : l.length ≤ 100000) (hc : l.length ≤ c) (hA : A = none → c = 0) (n : Int) (CA PA : Option Addr) (cs ps : List (List UInt8)) (cc pc : Nat) (w : World) (hsrc : SrcAt A l w) (hsc : Shorts CA cs w) (hsp : Shorts PA ps w) (h : Int) :
    Calls Tryd.prog 20 #[.int .i64 h, .slice A l.length c, .agg #[.int .i64 n, .slice CA cs.length cc, .slice PA ps.length pc]] w fun e w' => e = .returned (.tuple #[.agg (bcells (rtV l cs ps h n)), .int .i64 (chkV h n cs.length ps.length)]) ∧ Below w.heap.size w w' := by
  by_cases h0 : chkV h n cs.length ps.length = 0
  · obtain ⟨h1, h2, h3, h4⟩ := chkV_zero h0
    have hr : rtV l cs ps h n = fol (key l cs) n.toNat ps := by unfold rtV; rw [if_pos h0]
    obtain ⟨k, rfl⟩ : ∃ k : Nat, h = (k : Int) := ⟨h.toNat, by omega⟩
    obtain ⟨j, rfl⟩ : ∃ j : Nat, n = (j : Int) := ⟨n.toNat, by omega⟩
    rw [Int.toNat_natCast] at h2
    have hpk : ps.length = k := by omega
    have hj : j < 2 ^ k := by have := h2.2; exact_mod_cast this
    rw [h0, hr, Int.toNat_natCast, h3, hpk]
    exact root_ref_yes k j (by omega) hj l A c hl hc hA cs ps CA PA cc pc h3 hpk w hsrc hsc hsp
  · have hr : rtV l cs ps h n = List.replicate 16 0 := by unfold rtV; rw [if_neg h0]
    rw [hr]
    exact root_ref_bad h n _ CA PA _ cc _ pc h0 w
set_option maxRecDepth 100000 in
set_option maxHeartbeats 1000000 in
theorem verify_ref_of (R X : List UInt8) (hR : R.length = 16) (hX : X.length = 16) (h n e7 : Int) (A : Option Addr) (m c : Nat) (CA PA : Option Addr) (cl cc pl pc : Nat) (w : World)
    (hroot : ∀ V : World, Below w.heap.size w V → Calls Tryd.prog 20 #[.int .i64 h, .slice A m c, .agg #[.int .i64 n, .slice CA cl cc, .slice PA pl pc]] V fun e w' => e = .returned (.tuple #[.agg (bcells X), .int .i64 e7]) ∧ Below V.heap.size V w') :
    Calls Tryd.prog 22 #[.agg (pkc R h), .slice A m c, .agg #[.int .i64 n, .slice CA cl cc, .slice PA pl pc]] w fun e w' => e = .returned (.bool (decide (e7 = 0) && (X == R))) ∧ Below w.heap.size w w' := by
  have RO := Lib.hid hroot
  have HXI : (Tryd.prog.info? 23).map (·.size) = some (bvals R).length := by rw [bvals_len, hR]; kernel_rfl
  have HSZX := Lib.hid (sz16 X hX)
  have hso : (16 : Nat) = (bcells X).size := by rw [bcells_size, hX]
  have HSO := Lib.hid hso
  have hq : ∀ w, (binOp .eql 23 (.agg (bcells X)) (.agg (bvals R).toArray)).run Tryd.prog w = .ok (.bool (X == R)) w := fun w => eql_short X R hX hR w
  have HR16 := Lib.hid hR
  have hrow : ((w.alloc (.cells (pkc R h) 25)).alloc (.cells #[.int .i64 n, .slice CA cl cc, .slice PA pl pc] 31)).heap[w.heap.size]? = some (.cells (pkc R h) 25 (0, 0)) := heap_alloc2_old _ _ _
  have hc16 := cell_pkc hR hrow
  obtain ⟨PK, hPK⟩ : ∃ PK, pkc R h = PK := ⟨_, rfl⟩
  have HPK := Lib.hid hPK
  rw [hPK] at hrow hc16 ⊢
  have HROW := Lib.hid hrow
  obtain ⟨b, hb⟩ : ∃ b, (X == R) = b := ⟨_, rfl⟩
  rw [hb] at hq ⊢
  clear hroot hso hR hX hb hPK hrow
  by_cases he : e7 = 0
  · subst he
    rw [show (decide ((0 : Int) = 0) && b) = b by simp]
    go_enter Tryd.func22, Tryd.ntmps22
    go_wp2_with fail
    refine (RO.out _ ((below_new w _).trans ((below_new _ _).mono (by simp)))).mono ?_
    rintro e w2 ⟨rfl, hb2⟩
    have HR2 := Lib.hid ((hb2.block w.heap.size (by simp; omega)).trans HROW.out)
    have HB2 := Lib.hid (chain ((below_new w _).trans ((below_new _ _).mono (by simp))) hb2)
    clear hb2 hc16
    have hlt2 := (Array.getElem?_eq_some_iff.1 HR2.out).1
    have hrg2 : w2.rangeAt w.heap.size 0 (bvals R) := rangeAt_pkc (by rw [HPK.out]; exact HR2.out)
    have HRG := Lib.hid (rangeAt_on hrg2 (below_new w2 (.cells (bcells X) 23)))
    clear hrg2
    go_upto_region 2 with (refine wpList_store_row rfl 23 (.tmp 7) (.tmp 15) rfl w2.heap.size (bcells X) rfl rfl 23 _ (heap_alloc_new _ _) HSZX.out HSO.out (bcells_one _) ?_)
    rw [World.setRow_alloc_new]
    go_wp2_with (first | (refine wpList_load_wantedR (by rfl) 23 (.tmp 7) rfl w2.heap.size rfl 23 (bcells X) (0, 0) _ _ (heap_alloc_new _ _) Tryd.underlying23 HSZX.out ?_) | (refine wpList_load_wantedM (by rfl) 23 (.tmp 21) rfl w.heap.size 0 rfl (bvals R) _ _ HRG.out Tryd.underlying23 HXI ?_))
    go_ret
    exact ⟨rfl, HB2.out.alloc HB2.out.size _⟩
  · have hd : (e7 == 0) = false := by simp [he]
    rw [show (decide (e7 = 0) && b) = false by simp [he]]
    go_enter Tryd.func22, Tryd.ntmps22
    go_wp2_with fail
    refine (RO.out _ ((below_new w _).trans ((below_new _ _).mono (by simp)))).mono ?_
    rintro e w2 ⟨rfl, hb2⟩
    have HB2 := Lib.hid (chain ((below_new w _).trans ((below_new _ _).mono (by simp))) hb2)
    clear hb2 hc16
    go_wp2_with (refine wpList_store_row rfl 23 (.tmp 7) (.tmp 15) rfl w2.heap.size (bcells X) rfl rfl 23 _ (heap_alloc_new _ _) HSZX.out HSO.out (bcells_one _) ?_)
    go_ret
    exact ⟨rfl, by rw [World.setRow_alloc_new]; exact HB2.out.alloc HB2.out.size _⟩
theorem verify_ref_all (R : List UInt8) (hR : R.length = 16) (x : Int) (l : List UInt8) (A : Option Addr) (c : Nat) (hl : l.length ≤ 100000) (hc : l.length ≤ c) (hA : A = none → c = 0) (n : Int) (CA PA : Option Addr) (cs ps : List (List UInt8)) (cc pc : Nat) (w : World) (hsrc : SrcAt A l w) (hsc : Shorts CA cs w) (hsp : Shorts PA ps w) :
    Calls Tryd.prog 22 #[.agg (pkc R x), .slice A l.length c, .agg #[.int .i64 n, .slice CA cs.length cc, .slice PA ps.length pc]] w fun e w' => e = .returned (.bool (decide (chkV x n cs.length ps.length = 0) && (rtV l cs ps x n == R))) ∧ Below w.heap.size w w' :=
  verify_ref_of R (rtV l cs ps x n) hR (rtV_len _ _ _ _ _) x n (chkV x n cs.length ps.length) A l.length c CA PA cs.length cc ps.length pc w (fun V hb => root_ref_all l A c hl hc hA n CA PA cs ps cc pc V (hsrc.on hb) (hsc.on hb) (hsp.on hb) x)
end Go.Proofs.YtafolokkjpbieaaDoor
namespace Go.Proofs.YtafolokkjpbieaaDoor
open Go.RowKit Sha Ots
set_option linter.unusedVariables false
set_option linter.unusedSimpArgs false
theorem run_copy (w : World) (Y : Nat) (hY : w.heap[Y]? = some (.cells #[] 23 (0, 0))) (ty : TypeId) (B : Option Addr) (ls : List (List UInt8)) (m c : Nat) (hm : ls.length = m) (hB : B = none → c = 0) (hsh : Shorts B ls w) (h63 : m ≤ 100000) :
    ∃ A' c' w', (Builtin.append_ #[29, 29] ty #[.slice (some ⟨Y, 0, none⟩) 0 0, .slice B m c]).run Tryd.prog w = .ok (.slice A' m c') w' ∧ Shorts A' ls w' ∧ m ≤ c' ∧ w.grownBy w' (some Y) ∧ (∀ g o, A' = some ⟨g, o, none⟩ → (g = Y ∨ g = w.heap.size) ∧ g < w'.heap.size) := by
  have hlt : Y < w.heap.size := (Array.getElem?_eq_some_iff.1 hY).1
  have hown : w.ownsRow Y 23 16 (.slice (some ⟨Y, 0, none⟩) 0 0) 0 [] := ⟨rfl, .inr ⟨Y, 0, #[], rfl, Nat.le_refl _, hY, Nat.le_refl _, Nat.zero_le _, rfl, rfl⟩⟩
  obtain ⟨i0, hi, hz0, hz1, hz2⟩ := info_parts Tryd.info_short
  have fin : ∀ v' w', (Builtin.append_ #[29, 29] ty #[.slice (some ⟨Y, 0, none⟩) 0 0, .slice B m c]).run Tryd.prog w = .ok v' w' → w'.ownsRow Y 23 16 v' m (bvals ls.flatten) → w.grownBy w' (some Y) → (v'.ownBlock = some Y ∨ v'.ownBlock = some w.heap.size) → ∃ A' c' w', (Builtin.append_ #[29, 29] ty #[.slice (some ⟨Y, 0, none⟩) 0 0, .slice B m c]).run Tryd.prog w = .ok (.slice A' m c') w' ∧ Shorts A' ls w' ∧ m ≤ c' ∧ w.grownBy w' (some Y) ∧ (∀ g o, A' = some ⟨g, o, none⟩ → (g = Y ∨ g = w.heap.size) ∧ g < w'.heap.size) := fun v' w' h0 h1 h2 h3 => by
    subst hm
    have h5 := h1.lt
    obtain ⟨A', c', rfl, h6, _, h4⟩ := shorts_own hsh.len h1
    refine ⟨A', c', w', h0, h4, h6, h2, fun g o e => ?_⟩
    subst e
    refine ⟨?_, (h5 g rfl).2⟩
    rcases h3 with h3 | h3
    · exact .inl (Option.some.inj h3)
    · exact .inr (Option.some.inj h3)
  cases B with
  | none =>
    have hls : ls = [] := by
      cases ls with
      | nil => rfl
      | cons y r =>
        obtain ⟨g, o, e, _⟩ := hsh.row 0 y rfl
        cases e
    subst hls
    subst hm
    obtain rfl := hB rfl
    exact fin _ w (run_append_owned_none (P := Tryd.prog) (w := w) Y 29 ty 23 i0 16 Tryd.underlying29 hi _ 0 [] hown) hown (World.grownBy.refl _ _) (.inl rfl)
  | some ad =>
    have hcells : ∀ j u, (bvals ls.flatten)[j]? = some u → w.cell? (ad.add j) = some u := fun j u hj => by
      unfold bvals at hj
      rw [List.getElem?_map] at hj
      obtain ⟨y, hy, rfl⟩ := Option.map_eq_some_iff.1 hj
      have hjl := (List.getElem?_eq_some_iff.1 hy).1
      rw [flat_len ls hsh.len] at hjl
      have hq := List.getElem?_eq_getElem (show j / 16 < ls.length by omega)
      obtain ⟨l, hl⟩ : ∃ l, ls[j / 16]? = some l := ⟨_, hq⟩
      obtain ⟨g, o, e, hr⟩ := hsh.row (j / 16) l hl
      obtain rfl := Option.some.inj e
      have hl16 := hsh.len l (List.mem_of_getElem? hl)
      obtain ⟨z, hz⟩ : ∃ z, l[j % 16]? = some z := ⟨_, List.getElem?_eq_getElem (by omega)⟩
      have hf := flat_at ls hsh.len (j / 16) l hl (j % 16) z hz
      rw [show 16 * (j / 16) + j % 16 = j by omega, hy] at hf
      obtain rfl := Option.some.inj hf
      have h9 := hr (j % 16) (.int .u8 (y.toNat : Int)) (by unfold bvals; rw [List.getElem?_map, hz]; rfl)
      rw [Nat.add_assoc, show 16 * (j / 16) + j % 16 = j by omega] at h9
      rw [add_eq]
      exact h9
    obtain ⟨v', w', h0, h1, h2, _, h3⟩ := run_append_own_at (P := Tryd.prog) w Y 29 ty 23 i0 (.agg (bcells (List.replicate 16 0))) 16 16 Tryd.underlying29 hi hz0 hz1 hz2 rfl (by decide) _ 0 [] hown ad m c (bvals ls.flatten) (by rw [bvals_len, flat_len ls hsh.len, hm, Nat.mul_comm]) hcells (fun u hu => by
      unfold bvals at hu
      obtain ⟨x, _, rfl⟩ := List.mem_map.1 hu
      rfl) (by unfold maxLen; omega) (by omega) (Nat.le_of_lt hlt)
    rw [Nat.zero_add, List.nil_append] at h1
    exact fin v' w' h0 h1 h2 h3
theorem wp_append_copy {w : World} {o : Oper} {a : Act} {K : Act → World → Prop} {Q : Exit → Act → World → Prop} (s x : Operand)
    (ho : o.op = .call { callee := .builtin .append, args := #[s, x], argTypes := #[29, 29] }) (Y : Nat) (hs : a.eval s = .slice (some ⟨Y, 0, none⟩) 0 0) (hY : w.heap[Y]? = some (.cells #[] 23 (0, 0)))
    (B : Option Addr) (ls : List (List UInt8)) (m c : Nat) (hx : a.eval x = .slice B m c) (hm : ls.length = m) (hB : B = none → c = 0) (hsh : Shorts B ls w) (h63 : m ≤ 100000)
    (h : ∀ A' c' w', Shorts A' ls w' → m ≤ c' → w.grownBy w' (some Y) → (∀ g o, A' = some ⟨g, o, none⟩ → (g = Y ∨ g = w.heap.size) ∧ g < w'.heap.size) → K (a.put o.dst (.slice A' m c')) w') : o.wp Tryd.prog a w K Q := by
  obtain ⟨A', c', w', hr, h1, h6, h2, h3⟩ := run_copy w Y hY o.type B ls m c hm hB hsh h63
  unfold Oper.wp execOp
  simp only [ho, resolve, invoke, builtin, Sem.run_bind, Sem.run_pure, Result.andThen_ok, List.map_toArray, List.map_cons, List.map_nil, hs, hx, hr]
  exact h A' c' w' h1 h6 h2 h3
theorem rangeAt_setCells_far {z : World} {X Y o : Nat} {cs : List Value} (h : z.rangeAt X o cs) (o2 : Nat) (vs : List Value) (hne : X ≠ Y) : (z.setCells Y o2 vs).rangeAt X o cs :=
  World.rangeAt_setCells_apart h _ _ _ (.inl hne)
theorem shorts_setCells {A : Option Addr} {ls : List (List UInt8)} {w : World} {X : Nat} (h : Shorts A ls w) (hne : ∀ g o, A = some ⟨g, o, none⟩ → g ≠ X) (o : Nat) (vs : List Value) : Shorts A ls (w.setCells X o vs) :=
  ⟨fun i l hi => by
    obtain ⟨g, o1, e, hr⟩ := h.row i l hi
    exact ⟨g, o1, e, rangeAt_setCells_far hr _ _ (hne g o1 e)⟩, h.len⟩
def TwinPost (n : Int) (cs ps : List (List UInt8)) (w : World) (e : Ending) (w' : World) : Prop := ∃ A1 A2 c1 c2, e = .returned (.agg #[.int .i64 n, .slice A1 cs.length c1, .slice A2 ps.length c2]) ∧ Shorts A1 cs w' ∧ Shorts A2 ps w' ∧ Below w.heap.size w w' ∧ cs.length ≤ c1 ∧ ps.length ≤ c2
set_option maxRecDepth 100000 in
set_option maxHeartbeats 4000000 in
theorem twin_ref (n : Int) (CA PA : Option Addr) (cs ps : List (List UInt8)) (cc pc : Nat) (hcn : CA = none → cc = 0) (hpn : PA = none → pc = 0) (hl : cs.length ≤ 100000 ∧ ps.length ≤ 100000) (w : World) (hsc : Shorts CA cs w) (hsp : Shorts PA ps w) :
    Calls Tryd.prog 10 #[.agg #[.int .i64 n, .slice CA cs.length cc, .slice PA ps.length pc]] w (TwinPost n cs ps w) := by
  have HCN := Lib.hid hcn
  have HPN := Lib.hid hpn
  have HLL := Lib.hid hl
  have HSC := Lib.hid hsc
  have HSP := Lib.hid hsp
  clear hcn hpn hl hsc hsp
  go_enter Tryd.func10, Tryd.ntmps10
  go_upto_region 1 with (fail)
  generalize hV : World.alloc (World.alloc w _) _ = V
  have hb0 : Below w.heap.size w V := by rw [← hV]; exact (below_new _ _).alloc (by simp) _
  have hr0 : V.heap[w.heap.size]? = some (.cells #[.int .i64 n, .slice CA cs.length cc, .slice PA ps.length pc] 31 (0, 0)) := by rw [← hV]; exact heap_alloc2_old _ _ _
  have hr1 : V.heap[w.heap.size + 1]? = some (.cells #[.int .i64 0, .slice none 0 0, .slice none 0 0] 31 (0, 0)) := by rw [← hV]; exact (heap_alloc2_new _ _ _).trans rfl
  obtain ⟨U, hU⟩ : ∃ U, V.drew = U := ⟨_, rfl⟩
  have hbU : Below V.heap.size V U := by rw [← hU]; exact (Below.refl _ _).drew
  have HWU := Lib.hid (chain hb0 hbU)
  have HSG := Lib.hid (row_on hr0 hbU)
  have HRR := Lib.hid (row_on hr1 hbU)
  have HLE : RowKit.Hid (w.heap.size + 1 < U.heap.size) := Lib.hid (Array.getElem?_eq_some_iff.1 HRR.out).1
  have mkS : ∀ z, Below U.heap.size U z → z.cell? ⟨w.heap.size, 0, none⟩ = some (.int .i64 n) ∧ z.cell? ⟨w.heap.size, 1, none⟩ = some (.slice CA cs.length cc) ∧ z.cell? ⟨w.heap.size, 2, none⟩ = some (.slice PA ps.length pc) := fun z hz => (facts3 (row_on HSG.out hz)).2
  have hS0 : V.drew.cell? ⟨w.heap.size, 0, none⟩ = some (.int .i64 n) ∧ V.drew.cell? ⟨w.heap.size, 1, none⟩ = some (.slice CA cs.length cc) ∧ V.drew.cell? ⟨w.heap.size, 2, none⟩ = some (.slice PA ps.length pc) := by rw [hU]; exact mkS _ (Below.refl _ _)
  clear hV hb0 hr0 hr1 hbU
  refine wp_region_held_drew (S := fun z => z.cell? ⟨w.heap.size, 0, none⟩ = some (.int .i64 n) ∧ z.cell? ⟨w.heap.size, 1, none⟩ = some (.slice CA cs.length cc) ∧ z.cell? ⟨w.heap.size, 2, none⟩ = some (.slice PA ps.length pc)) (by kernel_rfl) hS0 (fun hHeld => ?_)
  rw [hU] at hHeld ⊢
  clear hS0 hU
  refine wpAnyH_take (i := 0) (oi := { dst := Option.some 3, op := Go.Op.fieldAddr 31 (Go.Operand.tmp 1) 0, type := 0, pos := "ref.go:119", after := #[], guard := Option.none }) (v := ?_) rfl (by kernel_rfl) (by kernel_rfl) (by kernel_rfl) (fun _ _ _ h => h) (Or.inl ⟨by rfl, ?_⟩) hHeld ?_
  rotate_left
  · intro w hSw
    clear hSw
    go_simp
    try with_reducible rfl
  try simp only [Act.put, List.setIfInBounds_toArray, List.set_cons_zero, List.set_cons_succ]
  refine wpAnyH_take (i := 1) (oi := { dst := Option.some 4, op := Go.Op.load 3 (Go.Operand.tmp 3), type := 3, pos := "ref.go:119", after := #[{ on := 0, ground := Go.Ground.data }], guard := Option.none }) (v := ?_) rfl (by kernel_rfl) (by kernel_rfl) (by kernel_rfl) (fun _ _ _ h => h) (Or.inl ⟨by rfl, ?_⟩) hHeld ?_
  rotate_left
  · intro w hSw
    have hfc0 := hSw.1
    clear hSw
    go_simp
    try with_reducible rfl
  try simp only [Act.put, List.setIfInBounds_toArray, List.set_cons_zero, List.set_cons_succ]
  refine wpAnyH_take (i := 3) (oi := { dst := Option.some 6, op := Go.Op.fieldAddr 31 (Go.Operand.tmp 1) 1, type := 0, pos := "ref.go:119", after := #[], guard := Option.none }) (v := ?_) rfl (by kernel_rfl) (by kernel_rfl) (by kernel_rfl) (fun _ _ _ h => h) (Or.inl ⟨by rfl, ?_⟩) hHeld ?_
  rotate_left
  · intro w hSw
    clear hSw
    go_simp
    try with_reducible rfl
  try simp only [Act.put, List.setIfInBounds_toArray, List.set_cons_zero, List.set_cons_succ]
  refine wpAnyH_take (i := 4) (oi := { dst := Option.some 7, op := Go.Op.load 29 (Go.Operand.tmp 6), type := 29, pos := "ref.go:119", after := #[{ on := 3, ground := Go.Ground.data }], guard := Option.none }) (v := ?_) rfl (by kernel_rfl) (by kernel_rfl) (by kernel_rfl) (fun _ _ _ h => h) (Or.inl ⟨by rfl, ?_⟩) hHeld ?_
  rotate_left
  · intro w hSw
    have hfc0 := hSw.2.1
    clear hSw
    go_simp
    try with_reducible rfl
  try simp only [Act.put, List.setIfInBounds_toArray, List.set_cons_zero, List.set_cons_succ]
  refine wpAnyH_take (i := 7) (oi := { dst := Option.some 10, op := Go.Op.fieldAddr 31 (Go.Operand.tmp 1) 2, type := 0, pos := "ref.go:119", after := #[], guard := Option.none }) (v := ?_) rfl (by kernel_rfl) (by kernel_rfl) (by kernel_rfl) (fun _ _ _ h => h) (Or.inl ⟨by rfl, ?_⟩) hHeld ?_
  rotate_left
  · intro w hSw
    clear hSw
    go_simp
    try with_reducible rfl
  try simp only [Act.put, List.setIfInBounds_toArray, List.set_cons_zero, List.set_cons_succ]
  refine wpAnyH_take (i := 8) (oi := { dst := Option.some 11, op := Go.Op.load 29 (Go.Operand.tmp 10), type := 29, pos := "ref.go:119", after := #[{ on := 7, ground := Go.Ground.data }], guard := Option.none }) (v := ?_) rfl (by kernel_rfl) (by kernel_rfl) (by kernel_rfl) (fun _ _ _ h => h) (Or.inl ⟨by rfl, ?_⟩) hHeld ?_
  rotate_left
  · intro w hSw
    have hfc0 := hSw.2.2
    clear hSw
    go_simp
    try with_reducible rfl
  try simp only [Act.put, List.setIfInBounds_toArray, List.set_cons_zero, List.set_cons_succ]
  refine wpAnyH_ready (rs := [2, 6]) (by kernel_rfl) (by simp) (AllReadyH.cons (o := { dst := Option.some 5, op := Go.Op.buildSlice 29 0 #[], type := 29, pos := "ref.go:119", after := #[], guard := Option.none }) rfl (fun K hK => ?_) (AllReadyH.cons (o := { dst := Option.some 9, op := Go.Op.buildSlice 29 0 #[], type := 29, pos := "ref.go:119", after := #[], guard := Option.none }) rfl (fun K hK => ?_) AllReadyH.nil))
  · go_simp
    generalize hq : World.alloc _ _ = z0
    have rz0 : z0.heap[U.heap.size]? = some (.cells #[] 23 (0, 0)) := by rw [← hq]; exact heap_alloc_new _ _
    have nz0 : Below U.heap.size U z0 := by rw [← hq]; exact below_new _ _
    have sz0 : U.heap.size < z0.heap.size := by rw [← hq]; simp
    have bz0 : Below U.heap.size U z0 := nz0
    clear hq
    refine hK.out _ _ (mkS _ bz0) (fun hHeld2 => ?_)
    clear hK K hHeld
    have hHeld := hHeld2
    clear hHeld2
    try simp only [Act.put, List.setIfInBounds_toArray, List.set_cons_zero, List.set_cons_succ]
    refine wpAnyH_ready (rs := [5, 6]) (by kernel_rfl) (by simp) (AllReadyH.cons (o := { dst := Option.some 8, op := Go.Op.call { callee := Go.Callee.builtin Go.Builtin.append, args := #[Go.Operand.tmp 5, Go.Operand.tmp 7], argTypes := #[29, 29] }, type := 29, pos := "ref.go:119", after := #[{ on := 2, ground := Go.Ground.data }, { on := 4, ground := Go.Ground.data }], guard := Option.none }) rfl (fun K hK => ?_) (AllReadyH.cons (o := { dst := Option.some 9, op := Go.Op.buildSlice 29 0 #[], type := 29, pos := "ref.go:119", after := #[], guard := Option.none }) rfl (fun K hK => ?_) AllReadyH.nil))
    · try rw [if_pos (by rfl)]
      refine wp_append_copy (.tmp 5) (.tmp 7) rfl U.heap.size rfl (rz0) CA cs _ cc rfl rfl HCN.out (HSC.out.on (chain HWU.out bz0)) (by have := HLL.out; omega) ?_
      intro A1 c1 z1 hA1 mA1 gz1 lA1
      have bz1 : Below U.heap.size U z1 := bz0.grown gz1 bz0.size (fun j hj => by have hj2 := Option.some.inj hj; have := bz0.size; have := bz0.size;  omega)
      refine hK.out _ _ (mkS _ bz1) (fun hHeld2 => ?_)
      clear hK K hHeld
      have hHeld := hHeld2
      clear hHeld2
      try simp only [Act.put, List.setIfInBounds_toArray, List.set_cons_zero, List.set_cons_succ]
      refine wpAnyH_ready (rs := [6]) (by kernel_rfl) (by simp) (AllReadyH.cons (o := { dst := Option.some 9, op := Go.Op.buildSlice 29 0 #[], type := 29, pos := "ref.go:119", after := #[], guard := Option.none }) rfl (fun K hK => ?_) AllReadyH.nil)
      go_simp
      generalize hq : World.alloc _ _ = z2
      have rz2 : z2.heap[z1.heap.size]? = some (.cells #[] 23 (0, 0)) := by rw [← hq]; exact heap_alloc_new _ _
      have nz2 : Below z1.heap.size z1 z2 := by rw [← hq]; exact below_new _ _
      have sz2 : z1.heap.size < z2.heap.size := by rw [← hq]; simp
      have bz2 : Below U.heap.size U z2 := chain bz1 nz2
      clear hq
      refine hK.out _ _ (mkS _ bz2) (fun hHeld2 => ?_)
      clear hK K hHeld
      have hHeld := hHeld2
      clear hHeld2
      try simp only [Act.put, List.setIfInBounds_toArray, List.set_cons_zero, List.set_cons_succ]
      refine wpAnyH_ready (rs := [9]) (by kernel_rfl) (by simp) (AllReadyH.cons (o := { dst := Option.some 12, op := Go.Op.call { callee := Go.Callee.builtin Go.Builtin.append, args := #[Go.Operand.tmp 9, Go.Operand.tmp 11], argTypes := #[29, 29] }, type := 29, pos := "ref.go:119", after := #[{ on := 6, ground := Go.Ground.data }, { on := 8, ground := Go.Ground.data }, { on := 5, ground := Go.Ground.chain }], guard := Option.none }) rfl (fun K hK => ?_) AllReadyH.nil)
      try rw [if_pos (by rfl)]
      refine wp_append_copy (.tmp 9) (.tmp 11) rfl z1.heap.size rfl (rz2) PA ps _ pc rfl rfl HPN.out (HSP.out.on (chain HWU.out bz2)) (by have := HLL.out; omega) ?_
      intro A2 c2 z3 hA2 mA2 gz3 lA2
      have bz3 : Below U.heap.size U z3 := bz2.grown gz3 bz2.size (fun j hj => by have hj2 := Option.some.inj hj; have := bz2.size; have := bz0.size; have := bz1.size; omega)
      refine hK.out _ _ (mkS _ bz3) (fun hHeld2 => ?_)
      clear hK K hHeld
      have hHeld := hHeld2
      clear hHeld2
      try simp only [Act.put, List.setIfInBounds_toArray, List.set_cons_zero, List.set_cons_succ]
      have hs1 : Shorts A1 cs z3 := shorts_grown (hA1.on nz2) gz3 (fun g o e h => by have h1 := lA1 g o e; have h2 := Option.some.inj h; omega)
      refine wpAnyH_take (i := 10) (oi := { dst := Option.some 13, op := Go.Op.build 31 #[(0, Go.Operand.tmp 4), (1, Go.Operand.tmp 8), (2, Go.Operand.tmp 12)], type := 31, pos := "ref.go:119", after := #[{ on := 1, ground := Go.Ground.data }, { on := 5, ground := Go.Ground.data }, { on := 9, ground := Go.Ground.data }], guard := Option.none }) (v := ?_) rfl (by kernel_rfl) (by kernel_rfl) (by kernel_rfl) (fun _ _ _ h => h) (Or.inl ⟨by rfl, ?_⟩) hHeld ?_
      rotate_left
      · intro w hSw
        clear hSw
        go_simp
        try with_reducible rfl
      try simp only [Act.put, List.setIfInBounds_toArray, List.set_cons_zero, List.set_cons_succ]
      refine wpAnyH_ready (rs := [11]) (by kernel_rfl) (by simp) (AllReadyH.cons (o := { dst := Option.none, op := Go.Op.store 31 (Go.Operand.tmp 2) (Go.Operand.tmp 13), type := 0, pos := "ref.go:119", after := #[{ on := 10, ground := Go.Ground.data }, { on := 9, ground := Go.Ground.chain }, { on := 0, ground := Go.Ground.phase }, { on := 1, ground := Go.Ground.phase }, { on := 2, ground := Go.Ground.phase }, { on := 3, ground := Go.Ground.phase }, { on := 4, ground := Go.Ground.phase }, { on := 5, ground := Go.Ground.phase }, { on := 6, ground := Go.Ground.phase }, { on := 7, ground := Go.Ground.phase }, { on := 8, ground := Go.Ground.phase }, { on := 9, ground := Go.Ground.phase }, { on := 10, ground := Go.Ground.phase }], guard := Option.none }) rfl (fun K hK => ?_) AllReadyH.nil)
      try rw [if_pos (by rfl)]
      have HR3 := Lib.hid (row_on HRR.out bz3)
      refine wp_store_mid 31 (.tmp 2) (.tmp 13) rfl (w.heap.size + 1) 0 #[.int .i64 n, .slice A1 cs.length c1, .slice A2 ps.length c2] rfl rfl (there_row HR3.out 3 (by decide)) (sz3 _ _ _) (by simp [Value.oneCell']) ?_
      have HR4 := Lib.hid (row_setCells HR3.out (cs := #[.int .i64 n, .slice A1 cs.length c1, .slice A2 ps.length c2]) rfl)
      have HB4 := Lib.hid (below_setCells [.int .i64 n, .slice A1 cs.length c1, .slice A2 ps.length c2] 0 _ (chain HWU.out bz3) (show w.heap.size ≤ w.heap.size + 1 by omega))
      have HS41 := Lib.hid (shorts_setCells hs1 (X := w.heap.size + 1) (fun g o e => by have h1 := lA1 g o e; have h2 := HLE.out; have h3 := bz0.size; have h4 := bz1.size; have h5 := bz2.size; omega) 0 [.int .i64 n, .slice A1 cs.length c1, .slice A2 ps.length c2])
      have HS42 := Lib.hid (shorts_setCells hA2 (X := w.heap.size + 1) (fun g o e => by have h1 := lA2 g o e; have h2 := HLE.out; have h3 := bz0.size; have h4 := bz1.size; have h5 := bz2.size; omega) 0 [.int .i64 n, .slice A1 cs.length c1, .slice A2 ps.length c2])
      refine hK.out _ _ (facts3 ((heap_setCells_other _ _ _ (by omega)).trans (row_on HSG.out bz3))).2 (fun hHeld2 => ?_)
      clear hK K hHeld hHeld2
      try simp only [Act.put, List.setIfInBounds_toArray, List.set_cons_zero, List.set_cons_succ]
      refine wpAnyH_done (by kernel_rfl) ?_ _
      generalize World.setCells _ _ _ _ = z9 at HR4 HB4 HS41 HS42 ⊢
      clear mkS
      go_wp2_with fail
      refine bodyPost_ret (v := .agg #[.int .i64 n, .slice A1 cs.length c1, .slice A2 ps.length c2]) (results_cell_row rfl _ _ (w.heap.size + 1) 31 _ (0, 0) _ rfl HR4.out Tryd.underlying31 rfl (sz3 _ _ _)) rfl ⟨A1, A2, c1, c2, rfl, HS41.out, HS42.out, HB4.out, mA1, mA2⟩
    · go_simp
      generalize hq : World.alloc _ _ = z1
      have rz1 : z1.heap[z0.heap.size]? = some (.cells #[] 23 (0, 0)) := by rw [← hq]; exact heap_alloc_new _ _
      have nz1 : Below z0.heap.size z0 z1 := by rw [← hq]; exact below_new _ _
      have sz1 : z0.heap.size < z1.heap.size := by rw [← hq]; simp
      have bz1 : Below U.heap.size U z1 := chain bz0 nz1
      clear hq
      refine hK.out _ _ (mkS _ bz1) (fun hHeld2 => ?_)
      clear hK K hHeld
      have hHeld := hHeld2
      clear hHeld2
      try simp only [Act.put, List.setIfInBounds_toArray, List.set_cons_zero, List.set_cons_succ]
      refine wpAnyH_ready (rs := [5]) (by kernel_rfl) (by simp) (AllReadyH.cons (o := { dst := Option.some 8, op := Go.Op.call { callee := Go.Callee.builtin Go.Builtin.append, args := #[Go.Operand.tmp 5, Go.Operand.tmp 7], argTypes := #[29, 29] }, type := 29, pos := "ref.go:119", after := #[{ on := 2, ground := Go.Ground.data }, { on := 4, ground := Go.Ground.data }], guard := Option.none }) rfl (fun K hK => ?_) AllReadyH.nil)
      try rw [if_pos (by rfl)]
      refine wp_append_copy (.tmp 5) (.tmp 7) rfl U.heap.size rfl ((nz1.block _ (Array.getElem?_eq_some_iff.1 rz0).1).trans rz0) CA cs _ cc rfl rfl HCN.out (HSC.out.on (chain HWU.out bz1)) (by have := HLL.out; omega) ?_
      intro A1 c1 z2 hA1 mA1 gz2 lA1
      have bz2 : Below U.heap.size U z2 := bz1.grown gz2 bz1.size (fun j hj => by have hj2 := Option.some.inj hj; have := bz1.size; have := bz0.size;  omega)
      refine hK.out _ _ (mkS _ bz2) (fun hHeld2 => ?_)
      clear hK K hHeld
      have hHeld := hHeld2
      clear hHeld2
      try simp only [Act.put, List.setIfInBounds_toArray, List.set_cons_zero, List.set_cons_succ]
      have rq : z2.heap[z0.heap.size]? = some (.cells #[] 23 (0, 0)) := (gz2.block _ (by omega) (fun e => by have e2 := Option.some.inj e; omega)).trans rz1
      refine wpAnyH_ready (rs := [9]) (by kernel_rfl) (by simp) (AllReadyH.cons (o := { dst := Option.some 12, op := Go.Op.call { callee := Go.Callee.builtin Go.Builtin.append, args := #[Go.Operand.tmp 9, Go.Operand.tmp 11], argTypes := #[29, 29] }, type := 29, pos := "ref.go:119", after := #[{ on := 6, ground := Go.Ground.data }, { on := 8, ground := Go.Ground.data }, { on := 5, ground := Go.Ground.chain }], guard := Option.none }) rfl (fun K hK => ?_) AllReadyH.nil)
      try rw [if_pos (by rfl)]
      refine wp_append_copy (.tmp 9) (.tmp 11) rfl z0.heap.size rfl (rq) PA ps _ pc rfl rfl HPN.out (HSP.out.on (chain HWU.out bz2)) (by have := HLL.out; omega) ?_
      intro A2 c2 z3 hA2 mA2 gz3 lA2
      have bz3 : Below U.heap.size U z3 := bz2.grown gz3 bz2.size (fun j hj => by have hj2 := Option.some.inj hj; have := bz2.size; have := bz0.size;  omega)
      refine hK.out _ _ (mkS _ bz3) (fun hHeld2 => ?_)
      clear hK K hHeld
      have hHeld := hHeld2
      clear hHeld2
      try simp only [Act.put, List.setIfInBounds_toArray, List.set_cons_zero, List.set_cons_succ]
      have hs1 : Shorts A1 cs z3 := shorts_grown hA1 gz3 (fun g o e h => by have h1 := lA1 g o e; have h2 := Option.some.inj h; omega)
      refine wpAnyH_take (i := 10) (oi := { dst := Option.some 13, op := Go.Op.build 31 #[(0, Go.Operand.tmp 4), (1, Go.Operand.tmp 8), (2, Go.Operand.tmp 12)], type := 31, pos := "ref.go:119", after := #[{ on := 1, ground := Go.Ground.data }, { on := 5, ground := Go.Ground.data }, { on := 9, ground := Go.Ground.data }], guard := Option.none }) (v := ?_) rfl (by kernel_rfl) (by kernel_rfl) (by kernel_rfl) (fun _ _ _ h => h) (Or.inl ⟨by rfl, ?_⟩) hHeld ?_
      rotate_left
      · intro w hSw
        clear hSw
        go_simp
        try with_reducible rfl
      try simp only [Act.put, List.setIfInBounds_toArray, List.set_cons_zero, List.set_cons_succ]
      refine wpAnyH_ready (rs := [11]) (by kernel_rfl) (by simp) (AllReadyH.cons (o := { dst := Option.none, op := Go.Op.store 31 (Go.Operand.tmp 2) (Go.Operand.tmp 13), type := 0, pos := "ref.go:119", after := #[{ on := 10, ground := Go.Ground.data }, { on := 9, ground := Go.Ground.chain }, { on := 0, ground := Go.Ground.phase }, { on := 1, ground := Go.Ground.phase }, { on := 2, ground := Go.Ground.phase }, { on := 3, ground := Go.Ground.phase }, { on := 4, ground := Go.Ground.phase }, { on := 5, ground := Go.Ground.phase }, { on := 6, ground := Go.Ground.phase }, { on := 7, ground := Go.Ground.phase }, { on := 8, ground := Go.Ground.phase }, { on := 9, ground := Go.Ground.phase }, { on := 10, ground := Go.Ground.phase }], guard := Option.none }) rfl (fun K hK => ?_) AllReadyH.nil)
      try rw [if_pos (by rfl)]
      have HR3 := Lib.hid (row_on HRR.out bz3)
      refine wp_store_mid 31 (.tmp 2) (.tmp 13) rfl (w.heap.size + 1) 0 #[.int .i64 n, .slice A1 cs.length c1, .slice A2 ps.length c2] rfl rfl (there_row HR3.out 3 (by decide)) (sz3 _ _ _) (by simp [Value.oneCell']) ?_
      have HR4 := Lib.hid (row_setCells HR3.out (cs := #[.int .i64 n, .slice A1 cs.length c1, .slice A2 ps.length c2]) rfl)
      have HB4 := Lib.hid (below_setCells [.int .i64 n, .slice A1 cs.length c1, .slice A2 ps.length c2] 0 _ (chain HWU.out bz3) (show w.heap.size ≤ w.heap.size + 1 by omega))
      have HS41 := Lib.hid (shorts_setCells hs1 (X := w.heap.size + 1) (fun g o e => by have h1 := lA1 g o e; have h2 := HLE.out; have h3 := bz0.size; have h4 := bz1.size; have h5 := bz2.size; omega) 0 [.int .i64 n, .slice A1 cs.length c1, .slice A2 ps.length c2])
      have HS42 := Lib.hid (shorts_setCells hA2 (X := w.heap.size + 1) (fun g o e => by have h1 := lA2 g o e; have h2 := HLE.out; have h3 := bz0.size; have h4 := bz1.size; have h5 := bz2.size; omega) 0 [.int .i64 n, .slice A1 cs.length c1, .slice A2 ps.length c2])
      refine hK.out _ _ (facts3 ((heap_setCells_other _ _ _ (by omega)).trans (row_on HSG.out bz3))).2 (fun hHeld2 => ?_)
      clear hK K hHeld hHeld2
      try simp only [Act.put, List.setIfInBounds_toArray, List.set_cons_zero, List.set_cons_succ]
      refine wpAnyH_done (by kernel_rfl) ?_ _
      generalize World.setCells _ _ _ _ = z9 at HR4 HB4 HS41 HS42 ⊢
      clear mkS
      go_wp2_with fail
      refine bodyPost_ret (v := .agg #[.int .i64 n, .slice A1 cs.length c1, .slice A2 ps.length c2]) (results_cell_row rfl _ _ (w.heap.size + 1) 31 _ (0, 0) _ rfl HR4.out Tryd.underlying31 rfl (sz3 _ _ _)) rfl ⟨A1, A2, c1, c2, rfl, HS41.out, HS42.out, HB4.out, mA1, mA2⟩
  · go_simp
    generalize hq : World.alloc _ _ = z0
    have rz0 : z0.heap[U.heap.size]? = some (.cells #[] 23 (0, 0)) := by rw [← hq]; exact heap_alloc_new _ _
    have nz0 : Below U.heap.size U z0 := by rw [← hq]; exact below_new _ _
    have sz0 : U.heap.size < z0.heap.size := by rw [← hq]; simp
    have bz0 : Below U.heap.size U z0 := nz0
    clear hq
    refine hK.out _ _ (mkS _ bz0) (fun hHeld2 => ?_)
    clear hK K hHeld
    have hHeld := hHeld2
    clear hHeld2
    try simp only [Act.put, List.setIfInBounds_toArray, List.set_cons_zero, List.set_cons_succ]
    refine wpAnyH_ready (rs := [2]) (by kernel_rfl) (by simp) (AllReadyH.cons (o := { dst := Option.some 5, op := Go.Op.buildSlice 29 0 #[], type := 29, pos := "ref.go:119", after := #[], guard := Option.none }) rfl (fun K hK => ?_) AllReadyH.nil)
    go_simp
    generalize hq : World.alloc _ _ = z1
    have rz1 : z1.heap[z0.heap.size]? = some (.cells #[] 23 (0, 0)) := by rw [← hq]; exact heap_alloc_new _ _
    have nz1 : Below z0.heap.size z0 z1 := by rw [← hq]; exact below_new _ _
    have sz1 : z0.heap.size < z1.heap.size := by rw [← hq]; simp
    have bz1 : Below U.heap.size U z1 := chain bz0 nz1
    clear hq
    refine hK.out _ _ (mkS _ bz1) (fun hHeld2 => ?_)
    clear hK K hHeld
    have hHeld := hHeld2
    clear hHeld2
    try simp only [Act.put, List.setIfInBounds_toArray, List.set_cons_zero, List.set_cons_succ]
    refine wpAnyH_ready (rs := [5]) (by kernel_rfl) (by simp) (AllReadyH.cons (o := { dst := Option.some 8, op := Go.Op.call { callee := Go.Callee.builtin Go.Builtin.append, args := #[Go.Operand.tmp 5, Go.Operand.tmp 7], argTypes := #[29, 29] }, type := 29, pos := "ref.go:119", after := #[{ on := 2, ground := Go.Ground.data }, { on := 4, ground := Go.Ground.data }], guard := Option.none }) rfl (fun K hK => ?_) AllReadyH.nil)
    try rw [if_pos (by rfl)]
    refine wp_append_copy (.tmp 5) (.tmp 7) rfl z0.heap.size rfl (rz1) CA cs _ cc rfl rfl HCN.out (HSC.out.on (chain HWU.out bz1)) (by have := HLL.out; omega) ?_
    intro A1 c1 z2 hA1 mA1 gz2 lA1
    have bz2 : Below U.heap.size U z2 := bz1.grown gz2 bz1.size (fun j hj => by have hj2 := Option.some.inj hj; have := bz1.size; have := bz0.size;  omega)
    refine hK.out _ _ (mkS _ bz2) (fun hHeld2 => ?_)
    clear hK K hHeld
    have hHeld := hHeld2
    clear hHeld2
    try simp only [Act.put, List.setIfInBounds_toArray, List.set_cons_zero, List.set_cons_succ]
    have rq : z2.heap[U.heap.size]? = some (.cells #[] 23 (0, 0)) := (gz2.block _ (by omega) (fun e => by have e2 := Option.some.inj e; omega)).trans ((nz1.block _ (by omega)).trans rz0)
    refine wpAnyH_ready (rs := [9]) (by kernel_rfl) (by simp) (AllReadyH.cons (o := { dst := Option.some 12, op := Go.Op.call { callee := Go.Callee.builtin Go.Builtin.append, args := #[Go.Operand.tmp 9, Go.Operand.tmp 11], argTypes := #[29, 29] }, type := 29, pos := "ref.go:119", after := #[{ on := 6, ground := Go.Ground.data }, { on := 8, ground := Go.Ground.data }, { on := 5, ground := Go.Ground.chain }], guard := Option.none }) rfl (fun K hK => ?_) AllReadyH.nil)
    try rw [if_pos (by rfl)]
    refine wp_append_copy (.tmp 9) (.tmp 11) rfl U.heap.size rfl (rq) PA ps _ pc rfl rfl HPN.out (HSP.out.on (chain HWU.out bz2)) (by have := HLL.out; omega) ?_
    intro A2 c2 z3 hA2 mA2 gz3 lA2
    have bz3 : Below U.heap.size U z3 := bz2.grown gz3 bz2.size (fun j hj => by have hj2 := Option.some.inj hj; have := bz2.size; have := bz0.size;  omega)
    refine hK.out _ _ (mkS _ bz3) (fun hHeld2 => ?_)
    clear hK K hHeld
    have hHeld := hHeld2
    clear hHeld2
    try simp only [Act.put, List.setIfInBounds_toArray, List.set_cons_zero, List.set_cons_succ]
    have hs1 : Shorts A1 cs z3 := shorts_grown hA1 gz3 (fun g o e h => by have h1 := lA1 g o e; have h2 := Option.some.inj h; omega)
    refine wpAnyH_take (i := 10) (oi := { dst := Option.some 13, op := Go.Op.build 31 #[(0, Go.Operand.tmp 4), (1, Go.Operand.tmp 8), (2, Go.Operand.tmp 12)], type := 31, pos := "ref.go:119", after := #[{ on := 1, ground := Go.Ground.data }, { on := 5, ground := Go.Ground.data }, { on := 9, ground := Go.Ground.data }], guard := Option.none }) (v := ?_) rfl (by kernel_rfl) (by kernel_rfl) (by kernel_rfl) (fun _ _ _ h => h) (Or.inl ⟨by rfl, ?_⟩) hHeld ?_
    rotate_left
    · intro w hSw
      clear hSw
      go_simp
      try with_reducible rfl
    try simp only [Act.put, List.setIfInBounds_toArray, List.set_cons_zero, List.set_cons_succ]
    refine wpAnyH_ready (rs := [11]) (by kernel_rfl) (by simp) (AllReadyH.cons (o := { dst := Option.none, op := Go.Op.store 31 (Go.Operand.tmp 2) (Go.Operand.tmp 13), type := 0, pos := "ref.go:119", after := #[{ on := 10, ground := Go.Ground.data }, { on := 9, ground := Go.Ground.chain }, { on := 0, ground := Go.Ground.phase }, { on := 1, ground := Go.Ground.phase }, { on := 2, ground := Go.Ground.phase }, { on := 3, ground := Go.Ground.phase }, { on := 4, ground := Go.Ground.phase }, { on := 5, ground := Go.Ground.phase }, { on := 6, ground := Go.Ground.phase }, { on := 7, ground := Go.Ground.phase }, { on := 8, ground := Go.Ground.phase }, { on := 9, ground := Go.Ground.phase }, { on := 10, ground := Go.Ground.phase }], guard := Option.none }) rfl (fun K hK => ?_) AllReadyH.nil)
    try rw [if_pos (by rfl)]
    have HR3 := Lib.hid (row_on HRR.out bz3)
    refine wp_store_mid 31 (.tmp 2) (.tmp 13) rfl (w.heap.size + 1) 0 #[.int .i64 n, .slice A1 cs.length c1, .slice A2 ps.length c2] rfl rfl (there_row HR3.out 3 (by decide)) (sz3 _ _ _) (by simp [Value.oneCell']) ?_
    have HR4 := Lib.hid (row_setCells HR3.out (cs := #[.int .i64 n, .slice A1 cs.length c1, .slice A2 ps.length c2]) rfl)
    have HB4 := Lib.hid (below_setCells [.int .i64 n, .slice A1 cs.length c1, .slice A2 ps.length c2] 0 _ (chain HWU.out bz3) (show w.heap.size ≤ w.heap.size + 1 by omega))
    have HS41 := Lib.hid (shorts_setCells hs1 (X := w.heap.size + 1) (fun g o e => by have h1 := lA1 g o e; have h2 := HLE.out; have h3 := bz0.size; have h4 := bz1.size; have h5 := bz2.size; omega) 0 [.int .i64 n, .slice A1 cs.length c1, .slice A2 ps.length c2])
    have HS42 := Lib.hid (shorts_setCells hA2 (X := w.heap.size + 1) (fun g o e => by have h1 := lA2 g o e; have h2 := HLE.out; have h3 := bz0.size; have h4 := bz1.size; have h5 := bz2.size; omega) 0 [.int .i64 n, .slice A1 cs.length c1, .slice A2 ps.length c2])
    refine hK.out _ _ (facts3 ((heap_setCells_other _ _ _ (by omega)).trans (row_on HSG.out bz3))).2 (fun hHeld2 => ?_)
    clear hK K hHeld hHeld2
    try simp only [Act.put, List.setIfInBounds_toArray, List.set_cons_zero, List.set_cons_succ]
    refine wpAnyH_done (by kernel_rfl) ?_ _
    generalize World.setCells _ _ _ _ = z9 at HR4 HB4 HS41 HS42 ⊢
    clear mkS
    go_wp2_with fail
    refine bodyPost_ret (v := .agg #[.int .i64 n, .slice A1 cs.length c1, .slice A2 ps.length c2]) (results_cell_row rfl _ _ (w.heap.size + 1) 31 _ (0, 0) _ rfl HR4.out Tryd.underlying31 rfl (sz3 _ _ _)) rfl ⟨A1, A2, c1, c2, rfl, HS41.out, HS42.out, HB4.out, mA1, mA2⟩
set_option maxRecDepth 100000 in
set_option maxHeartbeats 2000000 in
theorem same7_ref (n : Int) (CA PA CB PB : Option Addr) (cs ps : List (List UInt8)) (cc pc dc qc : Nat) (hl : cs.length ≤ 100000 ∧ ps.length ≤ 100000) (w : World) (hsc : Shorts CA cs w) (hsp : Shorts PA ps w) (hsd : Shorts CB cs w) (hsq : Shorts PB ps w) :
    Calls Tryd.prog 17 #[.agg #[.int .i64 n, .slice CA cs.length cc, .slice PA ps.length pc], .agg #[.int .i64 n, .slice CB cs.length dc, .slice PB ps.length qc]] w fun e w' => e = .returned (.bool true) ∧ Below w.heap.size w w' := by
  have hnn : (n == n) = true := by simp
  have S1 := Lib.hid (fun (V : World) (hb : Below w.heap.size w V) => same_ref cs CA CB cc dc hl.1 V (hsc.on hb) (hsd.on hb))
  have S2 := Lib.hid (fun (V : World) (hb : Below w.heap.size w V) => same_ref ps PA PB pc qc hl.2 V (hsp.on hb) (hsq.on hb))
  have hb2 : Below w.heap.size w ((w.alloc (.cells #[.int .i64 n, .slice CA cs.length cc, .slice PA ps.length pc] 31)).alloc (.cells #[.int .i64 n, .slice CB cs.length dc, .slice PB ps.length qc] 31)) := (below_new w _).trans ((below_new _ _).mono (by simp))
  have HB2 := Lib.hid hb2
  have HR0 := Lib.hid (heap_alloc2_old w (.cells #[.int .i64 n, .slice CA cs.length cc, .slice PA ps.length pc] 31) (.cells #[.int .i64 n, .slice CB cs.length dc, .slice PB ps.length qc] 31))
  have HR1 := Lib.hid (heap_alloc2_new w (.cells #[.int .i64 n, .slice CA cs.length cc, .slice PA ps.length pc] 31) (.cells #[.int .i64 n, .slice CB cs.length dc, .slice PB ps.length qc] 31))
  clear hl hsc hsp hsd hsq hb2
  go_enter Tryd.func17, Tryd.ntmps17
  go_wp2_with fail
  refine (S1.out _ HB2.out).mono ?_
  rintro e w1 ⟨rfl, hb1⟩
  have HB3 := Lib.hid (chain HB2.out hb1)
  have HR01 := Lib.hid (row_on HR0.out hb1)
  have HR11 := Lib.hid (row_on HR1.out hb1)
  clear hb1 HB2 HR0 HR1
  have hlt0 := (Array.getElem?_eq_some_iff.1 HR01.out).1
  have hlt1 := (Array.getElem?_eq_some_iff.1 HR11.out).1
  obtain ⟨_, hc0, hc1, hc2⟩ := facts3 HR01.out
  obtain ⟨_, hd0, hd1, hd2⟩ := facts3 HR11.out
  go_wp2_with fail
  refine (S2.out _ HB3.out).mono ?_
  rintro e w2 ⟨rfl, hb2⟩
  have HB4 := Lib.hid (chain HB3.out hb2)
  clear hb2 hc0 hc1 hc2 hd0 hd1 hd2 hlt0 hlt1
  go_wp2_with fail
  go_ret
  exact ⟨rfl, HB4.out⟩
end Go.Proofs.YtafolokkjpbieaaDoor
