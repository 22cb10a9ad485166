/-
  THE WALKS over layer 8: Seq, of the program and of the reference. Written by wip/gen-oc8.py.
-/
import Derived.Test.YtlbchefdkdngnaaOcL
namespace Go.Proofs.Ytlbchefdkdngnaa
open Go.RowKit Sha Oc
set_option linter.unusedVariables false
set_option linter.unusedSimpArgs false
set_option maxRecDepth 100000 in
set_option maxHeartbeats 4000000 in
theorem seq_any (tg : UInt8) (l : List Oct) (hll : l.length ≤ 5000) (hT : ∀ o ∈ l, cnt o ≤ 5000 ∧ tot o ≤ 100000) (B : Option Addr) (d g off : Nat) (vb vl : Nat → Value) (w : World) (he : Els w B l g off vb vl) : Calls Try.prog 21 #[.int .u8 (tg.toNat : Int), .slice B l.length d] w (TwPost (.mk tg [] l) w) := by
  have HT := Lib.hid (fun (V : World) (hb : Below w.heap.size w V) => twins_of l hll (fun k o ho V x y hat => twin_all 5000 o (hT o (List.mem_of_getElem? ho)).1 (Nat.le_refl _) (hT o (List.mem_of_getElem? ho)).2 V x y hat) B d g off vb vl V (he.on hb))
  unfold TwsPost at HT
  have HL := Lib.hid hll
  clear hT he hll
  go_enter Try.func21, Try.ntmps21
  go_upto_region 1 with (fail)
  obtain ⟨V, hV, hb0, hr0⟩ : ∃ V, World.alloc w (.cells #[.int .u8 0, .slice none 0 0, .slice none 0 0] 28) = V ∧ Below w.heap.size w V ∧ V.heap[w.heap.size]? = some (.cells #[.int .u8 0, .slice none 0 0, .slice none 0 0] 28 (0, 0)) := ⟨_, rfl, below_new w _, heap_alloc_new w _⟩
  rw [hV]
  clear hV
  have HB0 := Lib.hid hb0
  have HR0 := Lib.hid hr0
  have hle0 : w.heap.size ≤ V.heap.size := hb0.size
  clear hb0 hr0

  go_wp2_with fail
  refine (HT.out V HB0.out).mono ?_
  rintro e W ⟨v, ts, rfl, hts, hown, hels, hb1⟩
  have HB1 := Lib.hid (chain HB0.out hb1)
  have HR1 := Lib.hid (row_on HR0.out hb1)
  have HLV : RowKit.Hid (w.heap.size < V.heap.size) := Lib.hid (Array.getElem?_eq_some_iff.1 HR0.out).1
  have htl : ts.length = l.length := by rw [← hts, List.length_map]
  rw [← htl] at hown
  obtain ⟨B2, d2, rfl, hat⟩ := at_of_rows tg (b := []) (A := none) (c := 0) hown hels (by rw [htl]; have := HL.out; omega) (Nat.le_refl _) (by decide) (fun _ => rfl) (fun h => absurd rfl h) (fun _ _ _ h => absurd rfl h)
  rw [hts] at hat
  rw [htl] at hat ⊢
  have HAT := Lib.hid hat
  clear hts hown hels hb1 htl hat
  have hlt := (Array.getElem?_eq_some_iff.1 HR1.out).1
  obtain ⟨⟨hf0, hf1, hf2⟩, hd0, hd1, hd2⟩ := facts3 HR1.out
  go_wp2_with fail
  have e9 : ∀ a b c : Value, ((W.setCell ⟨w.heap.size, 0, none⟩ a).setCell ⟨w.heap.size, 1, none⟩ b).setCell ⟨w.heap.size, 2, none⟩ c = W.setCells w.heap.size 0 [a, b, c] := fun _ _ _ => rfl
  rw [e9]
  refine bodyPost_ret (v := .agg #[.int .u8 (tg.toNat : Int), .slice none 0 0, .slice B2 l.length d2]) (results_cell_row rfl _ _ w.heap.size 28 _ (0, 0) _ rfl (row_setCells8 HR1.out rfl) Try.underlying28 rfl (sz3o _ _ _)) rfl ⟨_, _, rfl, at_setCells HAT.out HLV.out (by have := HLV.out; omega) _ _, below_setCells8 _ _ _ HB1.out (Nat.le_refl _)⟩
set_option maxRecDepth 100000 in
set_option maxHeartbeats 8000000 in
theorem seq_ref (t : UInt8) (l : List Oct) (hll : l.length ≤ 5000) (hT : ∀ o ∈ l, cnt o ≤ 5000 ∧ tot o ≤ 100000) (B : Option Addr) (d g off : Nat) (vb vl : Nat → Value) (w : World) (he : Els w B l g off vb vl) : Calls Try.prog 39 #[.int .u8 (t.toNat : Int), .slice B l.length d] w (TwPost (.mk t [] l) w) := by
  have HTT : RowKit.Hid (∀ (k : Nat) (o : Oct), l[k]? = some o → ∀ (V : World) (x y : Value), At (fun _ => True) V o x y → Calls Try.prog 25 #[.agg (cell3 o x y)] V (TwPost o V)) := Lib.hid (fun k o ho V x y hat => twin_ref8 5000 o (hT o (List.mem_of_getElem? ho)).1 (Nat.le_refl _) (hT o (List.mem_of_getElem? ho)).2 V x y hat)
  have HE := Lib.hid he
  have HL := Lib.hid hll
  clear hT he hll
  go_enter Try.func39, Try.ntmps39
  go_upto_region 1 with (fail)
  obtain ⟨V, hV, hb0, hr0⟩ : ∃ V, World.alloc w (.cells #[.int .u8 0, .slice none 0 0, .slice none 0 0] 28) = V ∧ Below w.heap.size w V ∧ V.heap[w.heap.size]? = some (.cells #[.int .u8 0, .slice none 0 0, .slice none 0 0] 28 (0, 0)) := ⟨_, rfl, below_new w _, heap_alloc_new w _⟩
  rw [hV]
  clear hV
  have HB0 := Lib.hid hb0
  have HR0 := Lib.hid hr0
  have hle0 : w.heap.size ≤ V.heap.size := hb0.size
  clear hb0 hr0

  obtain ⟨U, hU⟩ : ∃ U, V = U := ⟨_, rfl⟩
  subst hU
  have HWU := HB0
  have HRR := HR0
  have HLE : RowKit.Hid (w.heap.size < V.heap.size) := Lib.hid (Array.getElem?_eq_some_iff.1 HRR.out).1
  go_cut [5] (fun s3 wx => ∃ SB : Nat, s3 = .pointer (some ⟨SB, 0, none⟩) ∧ V.heap.size ≤ SB ∧ wx.heap[SB]? = some (.cells #[.int .u8 (t.toNat : Int), .slice none 0 0, .slice none 0 0] 28 (0, 0)) ∧ Below V.heap.size V wx)
  case first =>
    go_wp2_with fail
    go_meet
    exact ⟨_, rfl, Nat.le_refl _, heap_alloc_new V _, below_new _ _⟩
  case rest =>
    obtain ⟨SB, rfl, hle9, hr9, hb9⟩ := hcut
    obtain ⟨U, hU⟩ : ∃ U, V = U := ⟨_, rfl⟩
    rw [hU] at HWU HRR HLE HB0 HR0 hle0 hle9 hb9
    obtain ⟨W1, hW1⟩ : ∃ W1, wc = W1 := ⟨_, rfl⟩
    subst hW1
    clear hU
    have HB9 := Lib.hid hb9
    have HSB0 : RowKit.Hid (U.heap.size ≤ SB) := Lib.hid hle9
    have HW01 : RowKit.Hid (U.heap.size ≤ wc.heap.size) := Lib.hid hb9.size
    have HTX : RowKit.Hid (TX wc SB (.int .u8 (t.toNat : Int)) (.slice none 0 0) [] none 0 0 wc) := Lib.hid ⟨rfl, rfl, rfl, Nat.le_refl _, fun _ _ _ => rfl, (Array.getElem?_eq_some_iff.1 hr9).1, hr9, mk_none _ _⟩
    obtain ⟨n, hn⟩ : ∃ n, l.length = n := ⟨_, rfl⟩
    have HN := Lib.hid hn
    rw [hn] at HL
    try simp only [hn]
    clear hle9 hr9 hb9 hn
    go_wp2_with fail
    go_loopw [6] (fun i wr => ∃ (k : Nat) (ts : List (Oct × Value × Value)) (PB : Option Addr) (pd : Nat), k ≤ n ∧ i = .int .i64 (k : Int) ∧ RowKit.Hid (ts.map (·.1) = l.take k) ∧ RowKit.Hid (TX wc SB (.int .u8 (t.toNat : Int)) (.slice none 0 0) ts PB pd k wr)) (fun i _ => n - (intOf i).toNat)
    case atStart => exact ⟨0, [], none, 0, by omega, rfl, Lib.hid (by simp), HTX⟩
    case round =>
      clear HTX
      obtain ⟨k, ts, PB, pd, hk, rfl, HM, HTX⟩ := hrel
      have HBR : RowKit.Hid (Below U.heap.size U wr) := Lib.hid (HTX.out.below HB9.out HW01.out HSB0.out)
      by_cases hlt : k < n
      · have hki : (k : Int) < (n : Int) := by omega
        have hh5 := HL.out
        obtain ⟨o, ho⟩ : ∃ o, l[k]? = some o := ⟨_, List.getElem?_eq_getElem (by rw [HN.out]; exact hlt)⟩
        have hne : l ≠ [] := fun e => by rw [e] at ho; simp at ho
        have hBB := HE.out.hB hne
        subst hBB
        have hbw : Below w.heap.size w wr := chain HWU.out HBR.out
        have hew := HE.out.on hbw
        have hc0 := hew.h0 k o ho
        have hc1 := hew.h1 k o ho
        have hc2 := hew.h2 k o ho
        have hat := hew.hr k o ho
        obtain ⟨A1, m1, c1, B1, n1, d1, e1, e2⟩ := hat.slices
        rw [e1] at hc1 hat
        rw [e2] at hc2 hat
        have hcg : g < wr.heap.size := World.block_lt_of_cell? _ _ hc0
        have hrg : wr.rangeAt g (off + k * 3) [Value.int .u8 ((tagO o).toNat : Int), .slice A1 m1 c1, .slice B1 n1 d1] := range3o hc0 hc1 hc2
        have hgw : g < w.heap.size := World.block_lt_of_cell? _ _ (HE.out.h0 k o ho)
        have HRG0 : RowKit.Hid (w.rangeAt g (off + k * 3) [Value.int .u8 ((tagO o).toNat : Int), .slice A1 m1 c1, .slice B1 n1 d1]) := Lib.hid (fun j v hj => by
          have h1 := hrg j v hj
          rw [hbw.cell (p := ⟨g, off + k * 3 + j, none⟩) hgw] at h1
          exact h1)
        have HGW := Lib.hid hgw
        have hcall := fun (V : World) (hb : Below wr.heap.size wr V) => HTT.out k o ho V _ _ (hat.on hb)
        unfold TwPost at hcall
        have HTK : RowKit.Hid (l.take (k + 1) = l.take k ++ [o]) := Lib.hid (by rw [List.take_add_one, ho]; rfl)
        have HLT := Lib.hid hlt
        obtain ⟨W0, hW0⟩ : ∃ W0, U = W0 := ⟨_, rfl⟩
        rw [hW0] at HWU HRR HLE HBR HSB0 HW01 HB9
        clear hne hew hat ho e1 e2 hc0 hc1 hc2 hcg hrg hgw hbw hW0
        go_wp2_with fail
        obtain ⟨U, hU⟩ : ∃ U, wr.drew = U := ⟨_, rfl⟩
        have hbU : Below wr.heap.size wr U := by rw [← hU]; exact (Below.refl _ _).drew
        have HSU := Lib.hid (HTX.out.on hbU)
        have HBU := Lib.hid (chain HBR.out hbU)
        have hcall2 := fun (V : World) (hb : Below U.heap.size U V) => hcall V (chain hbU hb)
        have HCALL := Lib.hid hcall2
        have mkS : ∀ z, Below W0.heap.size W0 z → z.rangeAt g (off + k * 3) [Value.int .u8 ((tagO o).toNat : Int), .slice A1 m1 c1, .slice B1 n1 d1] := fun z hz => fun j v hj => by
          rw [(chain HWU.out hz).cell (p := ⟨g, off + k * 3 + j, none⟩) HGW.out]
          exact HRG0.out j v hj
        have hS0 : wr.drew.rangeAt g (off + k * 3) [Value.int .u8 ((tagO o).toNat : Int), .slice A1 m1 c1, .slice B1 n1 d1] := by rw [hU]; exact mkS _ HBU.out
        clear hbU hcall hcall2 HTX
        refine wp_region_held_drew (S := fun z => z.rangeAt g (off + k * 3) [Value.int .u8 ((tagO o).toNat : Int), .slice A1 m1 c1, .slice B1 n1 d1]) (by kernel_rfl) hS0 (fun hHeld => ?_)
        rw [hU] at hHeld ⊢
        clear hS0 hU
        refine wpAnyH_take (i := 0) (oi := { dst := Option.some 15, op := Go.Op.fieldAddr 28 (Go.Operand.tmp 5) 2, type := 0, pos := "ref.go:180", after := #[], guard := Option.none }) (v := ?_) rfl (by kernel_rfl) (by kernel_rfl) (by kernel_rfl) (fun _ _ _ h => h) (Or.inl ⟨by rfl, ?_⟩) hHeld ?_
        rotate_left
        · intro w hSw
          clear hSw
          go_simp
          try with_reducible rfl
        try simp only [Act.put, List.setIfInBounds_toArray, List.set_cons_zero, List.set_cons_succ]
        refine wpAnyH_take (i := 2) (oi := { dst := Option.some 17, op := Go.Op.move (Go.Operand.tmp 1), type := 26, pos := "ref.go:180", after := #[], guard := Option.none }) (v := ?_) rfl (by kernel_rfl) (by kernel_rfl) (by kernel_rfl) (fun _ _ _ h => h) (Or.inl ⟨by rfl, ?_⟩) hHeld ?_
        rotate_left
        · intro w hSw
          clear hSw
          go_simp
          try with_reducible rfl
        try simp only [Act.put, List.setIfInBounds_toArray, List.set_cons_zero, List.set_cons_succ]
        refine wpAnyH_take (i := 3) (oi := { dst := Option.some 18, op := Go.Op.move (Go.Operand.tmp 6), type := 3, pos := "ref.go:180", after := #[], guard := Option.none }) (v := ?_) rfl (by kernel_rfl) (by kernel_rfl) (by kernel_rfl) (fun _ _ _ h => h) (Or.inl ⟨by rfl, ?_⟩) hHeld ?_
        rotate_left
        · intro w hSw
          clear hSw
          go_simp
          try with_reducible rfl
        try simp only [Act.put, List.setIfInBounds_toArray, List.set_cons_zero, List.set_cons_succ]
        refine wpAnyH_take (i := 4) (oi := { dst := Option.some 19, op := Go.Op.indexAddr 26 (Go.Operand.tmp 17) (Go.Operand.tmp 18), type := 0, pos := "ref.go:180", after := #[{ on := 2, ground := Go.Ground.data }, { on := 3, ground := Go.Ground.data }], guard := Option.none }) (v := ?_) rfl (by kernel_rfl) (by kernel_rfl) (by kernel_rfl) (fun _ _ _ h => h) (Or.inl ⟨by rfl, ?_⟩) hHeld ?_
        rotate_left
        · intro w hSw
          clear hSw
          go_simp
          try with_reducible rfl
        try simp only [Act.put, List.setIfInBounds_toArray, List.set_cons_zero, List.set_cons_succ]
        refine wpAnyH_take (i := 5) (oi := { dst := Option.some 20, op := Go.Op.load 28 (Go.Operand.tmp 19), type := 28, pos := "ref.go:180", after := #[{ on := 4, ground := Go.Ground.data }], guard := Option.none }) (v := .agg [.int .u8 ((tagO o).toNat : Int), .slice A1 m1 c1, .slice B1 n1 d1].toArray) rfl (by kernel_rfl) (by kernel_rfl) (by kernel_rfl) (fun _ _ _ h => h) (yieldsIf_load_mid (by rfl) _ _ rfl _ _ rfl [Value.int .u8 ((tagO o).toNat : Int), .slice A1 m1 c1, .slice B1 n1 d1] _ (fun w hSw => hSw) Try.underlying28 rfl (sz3o _ _ _)) hHeld ?_
        try simp only [Act.put, List.setIfInBounds_toArray, List.set_cons_zero, List.set_cons_succ]
        refine wpAnyH_ready (rs := [1, 6]) (by kernel_rfl) (by simp) (AllReadyH.cons (o := { dst := Option.some 16, op := Go.Op.load 26 (Go.Operand.tmp 15), type := 26, pos := "ref.go:180", after := #[{ on := 0, ground := Go.Ground.data }], guard := Option.none }) rfl (fun K hK => ?_) (AllReadyH.cons (o := { dst := Option.some 21, op := Go.Op.call { callee := Go.Callee.value (Go.Operand.func 25), args := #[Go.Operand.tmp 20], argTypes := #[28] }, type := 28, pos := "ref.go:180", after := #[{ on := 5, ground := Go.Ground.data }], guard := Option.none }) rfl (fun K hK => ?_) AllReadyH.nil))
        · have hq2 := (facts3 (row_on HSU.out.rg (Below.refl _ _))).2.2.2
          go_simp
          clear hq2
          refine hK.out _ _ (mkS _ (chain HBU.out (Below.refl _ _))) (fun hHeld2 => ?_)
          clear hK K hHeld
          have hHeld := hHeld2
          clear hHeld2
          try simp only [Act.put, List.setIfInBounds_toArray, List.set_cons_zero, List.set_cons_succ]
          refine wpAnyH_ready (rs := [6]) (by kernel_rfl) (by simp) (AllReadyH.cons (o := { dst := Option.some 21, op := Go.Op.call { callee := Go.Callee.value (Go.Operand.func 25), args := #[Go.Operand.tmp 20], argTypes := #[28] }, type := 28, pos := "ref.go:180", after := #[{ on := 5, ground := Go.Ground.data }], guard := Option.none }) rfl (fun K hK => ?_) AllReadyH.nil)
          go_simp
          refine (HCALL.out _ (Below.refl _ _)).mono ?_
          rintro e z5 ⟨x, y, rfl, hat2, b5⟩
          have HAT := Lib.hid hat2
          have HONE := Lib.hid (oct_one hat2)
          obtain ⟨A2, m2, c2, B2, n2, d2, rfl, rfl⟩ := hat2.slices
          clear hat2
          go_simp
          refine hK.out _ _ (mkS _ (chain HBU.out b5)) (fun hHeld2 => ?_)
          clear hK K hHeld
          have hHeld := hHeld2
          clear hHeld2
          try simp only [Act.put, List.setIfInBounds_toArray, List.set_cons_zero, List.set_cons_succ]
          refine wpAnyH_ready (rs := [7]) (by kernel_rfl) (by simp) (AllReadyH.cons (o := { dst := Option.some 22, op := Go.Op.buildSlice 26 1 #[(0, Go.Operand.tmp 21)], type := 26, pos := "ref.go:180", after := #[{ on := 6, ground := Go.Ground.data }], guard := Option.none }) rfl (fun K hK => ?_) AllReadyH.nil)
          go_simp
          generalize hq : World.alloc z5 _ = z6
          have r6 : z6 = z5.alloc (.cells #[.int .u8 ((tagO o).toNat : Int), .slice A2 m2 c2, .slice B2 n2 d2] 28) := hq.symm
          have n6 : Below z5.heap.size z5 z6 := by rw [r6]; exact below_new _ _
          have b6 : Below U.heap.size U z6 := chain b5 n6
          have q6 : ∀ j u, ([.int .u8 ((tagO o).toNat : Int), .slice A2 m2 c2, .slice B2 n2 d2] : List Value)[j]? = some u → z6.cell? ((⟨z5.heap.size, 0, none⟩ : Addr).add j) = some u := by rw [r6]; exact cell_three_new _ _ _ _ _
          clear hq r6
          refine hK.out _ _ (mkS _ (chain HBU.out b6)) (fun hHeld2 => ?_)
          clear hK K hHeld
          have hHeld := hHeld2
          clear hHeld2
          try simp only [Act.put, List.setIfInBounds_toArray, List.set_cons_zero, List.set_cons_succ]
          refine wpAnyH_ready (rs := [8]) (by kernel_rfl) (by simp) (AllReadyH.cons (o := { dst := Option.some 23, op := Go.Op.call { callee := Go.Callee.builtin Go.Builtin.append, args := #[Go.Operand.tmp 16, Go.Operand.tmp 22], argTypes := #[26, 26] }, type := 26, pos := "ref.go:180", after := #[{ on := 1, ground := Go.Ground.data }, { on := 7, ground := Go.Ground.data }, { on := 6, ground := Go.Ground.chain }], guard := Option.none }) rfl (fun K hK => ?_) AllReadyH.nil)
          try rw [if_pos (by rfl)]
          have hmk := HSU.out.lm.on b6
          refine wp_append_own_at8 (.tmp 16) (.tmp 22) rfl wc.heap.size _ _ _ rfl hmk.own ⟨z5.heap.size, 0, none⟩ 1 1 [.int .u8 ((tagO o).toNat : Int), .slice A2 m2 c2, .slice B2 n2 d2] rfl rfl q6 HONE.out (by have := HLT.out; omega) (by have h1 := HSU.out.sz; have h2 := b6.size; omega) ?_
          intro v7 z7 o7 g7 l7
          have hput := HSU.out.lm.put b6 HSU.out.sz (HAT.out.own n6 (Nat.le_refl _)) o7 g7 l7
          obtain ⟨A7, c7, rfl⟩ := own_sliceO o7
          have hlo := HSU.out.lm.own.lt
          have HS7 := Lib.hid (HSU.out.step b6 g7 (fun j hj => (hlo j hj).1) hput)
          have b7 : Below W0.heap.size W0 z7 := (chain HBU.out b6).grown g7 (chain HBU.out b6).size (fun j hj => by have h1 := (hlo j hj).1; have h2 := HW01.out; omega)
          clear g7 o7 l7 hput hlo hmk
          refine hK.out _ _ (mkS _ (b7)) (fun hHeld2 => ?_)
          clear hK K hHeld
          have hHeld := hHeld2
          clear hHeld2
          try simp only [Act.put, List.setIfInBounds_toArray, List.set_cons_zero, List.set_cons_succ]
          refine wpAnyH_take (i := 9) (oi := { dst := Option.some 24, op := Go.Op.fieldAddr 28 (Go.Operand.tmp 5) 2, type := 0, pos := "ref.go:180", after := #[{ on := 0, ground := Go.Ground.phase }, { on := 1, ground := Go.Ground.phase }, { on := 2, ground := Go.Ground.phase }, { on := 3, ground := Go.Ground.phase }, { on := 4, ground := Go.Ground.phase }, { on := 5, ground := Go.Ground.phase }, { on := 6, ground := Go.Ground.phase }, { on := 7, ground := Go.Ground.phase }, { on := 8, ground := Go.Ground.phase }], guard := Option.none }) (v := ?_) rfl (by kernel_rfl) (by kernel_rfl) (by kernel_rfl) (fun _ _ _ h => h) (Or.inl ⟨by rfl, ?_⟩) hHeld ?_
          rotate_left
          · intro w hSw
            clear hSw
            go_simp
            try with_reducible rfl
          try simp only [Act.put, List.setIfInBounds_toArray, List.set_cons_zero, List.set_cons_succ]
          refine wpAnyH_ready (rs := [10]) (by kernel_rfl) (by simp) (AllReadyH.cons (o := { dst := Option.none, op := Go.Op.store 26 (Go.Operand.tmp 24) (Go.Operand.tmp 23), type := 0, pos := "ref.go:180", after := #[{ on := 9, ground := Go.Ground.data }, { on := 8, ground := Go.Ground.data }, { on := 8, ground := Go.Ground.chain }, { on := 0, ground := Go.Ground.phase }, { on := 1, ground := Go.Ground.phase }, { on := 2, ground := Go.Ground.phase }, { on := 3, ground := Go.Ground.phase }, { on := 4, ground := Go.Ground.phase }, { on := 5, ground := Go.Ground.phase }, { on := 6, ground := Go.Ground.phase }, { on := 7, ground := Go.Ground.phase }, { on := 8, ground := Go.Ground.phase }], guard := Option.none }) rfl (fun K hK => ?_) AllReadyH.nil)
          obtain ⟨⟨_, _, hf7⟩, _, _, hc7⟩ := facts3 HS7.out.1
          have hl7 := (Array.getElem?_eq_some_iff.1 HS7.out.1).1
          go_simp
          clear hf7 hc7 hl7
          have HS9 := Lib.hid HS7.out.2
          refine hK.out _ _ (mkS _ (b7.setCell HSB0.out _)) (fun hHeld2 => ?_)
          clear hK K hHeld hHeld2
          try simp only [Act.put, List.setIfInBounds_toArray, List.set_cons_zero, List.set_cons_succ]
          refine wpAnyH_done (by kernel_rfl) ?_ _
          generalize World.setCell _ _ _ = z9 at HS9 ⊢
          clear mkS
          go_wp2_with fail
          exact ⟨⟨k + 1, _, _, _, by have := HLT.out; omega, by go_num, Lib.hid (by rw [List.map_append, HM.out, HTK.out]; rfl), HS9⟩, by have := HLT.out; simp [intOf]; omega⟩
        · go_simp
          refine (HCALL.out _ (Below.refl _ _)).mono ?_
          rintro e z5 ⟨x, y, rfl, hat2, b5⟩
          have HAT := Lib.hid hat2
          have HONE := Lib.hid (oct_one hat2)
          obtain ⟨A2, m2, c2, B2, n2, d2, rfl, rfl⟩ := hat2.slices
          clear hat2
          go_simp
          refine hK.out _ _ (mkS _ (chain HBU.out b5)) (fun hHeld2 => ?_)
          clear hK K hHeld
          have hHeld := hHeld2
          clear hHeld2
          try simp only [Act.put, List.setIfInBounds_toArray, List.set_cons_zero, List.set_cons_succ]
          refine wpAnyH_ready (rs := [1, 7]) (by kernel_rfl) (by simp) (AllReadyH.cons (o := { dst := Option.some 16, op := Go.Op.load 26 (Go.Operand.tmp 15), type := 26, pos := "ref.go:180", after := #[{ on := 0, ground := Go.Ground.data }], guard := Option.none }) rfl (fun K hK => ?_) (AllReadyH.cons (o := { dst := Option.some 22, op := Go.Op.buildSlice 26 1 #[(0, Go.Operand.tmp 21)], type := 26, pos := "ref.go:180", after := #[{ on := 6, ground := Go.Ground.data }], guard := Option.none }) rfl (fun K hK => ?_) AllReadyH.nil))
          · have hq2 := (facts3 (row_on HSU.out.rg b5)).2.2.2
            go_simp
            clear hq2
            refine hK.out _ _ (mkS _ (chain HBU.out b5)) (fun hHeld2 => ?_)
            clear hK K hHeld
            have hHeld := hHeld2
            clear hHeld2
            try simp only [Act.put, List.setIfInBounds_toArray, List.set_cons_zero, List.set_cons_succ]
            refine wpAnyH_ready (rs := [7]) (by kernel_rfl) (by simp) (AllReadyH.cons (o := { dst := Option.some 22, op := Go.Op.buildSlice 26 1 #[(0, Go.Operand.tmp 21)], type := 26, pos := "ref.go:180", after := #[{ on := 6, ground := Go.Ground.data }], guard := Option.none }) rfl (fun K hK => ?_) AllReadyH.nil)
            go_simp
            generalize hq : World.alloc z5 _ = z6
            have r6 : z6 = z5.alloc (.cells #[.int .u8 ((tagO o).toNat : Int), .slice A2 m2 c2, .slice B2 n2 d2] 28) := hq.symm
            have n6 : Below z5.heap.size z5 z6 := by rw [r6]; exact below_new _ _
            have b6 : Below U.heap.size U z6 := chain b5 n6
            have q6 : ∀ j u, ([.int .u8 ((tagO o).toNat : Int), .slice A2 m2 c2, .slice B2 n2 d2] : List Value)[j]? = some u → z6.cell? ((⟨z5.heap.size, 0, none⟩ : Addr).add j) = some u := by rw [r6]; exact cell_three_new _ _ _ _ _
            clear hq r6
            refine hK.out _ _ (mkS _ (chain HBU.out b6)) (fun hHeld2 => ?_)
            clear hK K hHeld
            have hHeld := hHeld2
            clear hHeld2
            try simp only [Act.put, List.setIfInBounds_toArray, List.set_cons_zero, List.set_cons_succ]
            refine wpAnyH_ready (rs := [8]) (by kernel_rfl) (by simp) (AllReadyH.cons (o := { dst := Option.some 23, op := Go.Op.call { callee := Go.Callee.builtin Go.Builtin.append, args := #[Go.Operand.tmp 16, Go.Operand.tmp 22], argTypes := #[26, 26] }, type := 26, pos := "ref.go:180", after := #[{ on := 1, ground := Go.Ground.data }, { on := 7, ground := Go.Ground.data }, { on := 6, ground := Go.Ground.chain }], guard := Option.none }) rfl (fun K hK => ?_) AllReadyH.nil)
            try rw [if_pos (by rfl)]
            have hmk := HSU.out.lm.on b6
            refine wp_append_own_at8 (.tmp 16) (.tmp 22) rfl wc.heap.size _ _ _ rfl hmk.own ⟨z5.heap.size, 0, none⟩ 1 1 [.int .u8 ((tagO o).toNat : Int), .slice A2 m2 c2, .slice B2 n2 d2] rfl rfl q6 HONE.out (by have := HLT.out; omega) (by have h1 := HSU.out.sz; have h2 := b6.size; omega) ?_
            intro v7 z7 o7 g7 l7
            have hput := HSU.out.lm.put b6 HSU.out.sz (HAT.out.own n6 (Nat.le_refl _)) o7 g7 l7
            obtain ⟨A7, c7, rfl⟩ := own_sliceO o7
            have hlo := HSU.out.lm.own.lt
            have HS7 := Lib.hid (HSU.out.step b6 g7 (fun j hj => (hlo j hj).1) hput)
            have b7 : Below W0.heap.size W0 z7 := (chain HBU.out b6).grown g7 (chain HBU.out b6).size (fun j hj => by have h1 := (hlo j hj).1; have h2 := HW01.out; omega)
            clear g7 o7 l7 hput hlo hmk
            refine hK.out _ _ (mkS _ (b7)) (fun hHeld2 => ?_)
            clear hK K hHeld
            have hHeld := hHeld2
            clear hHeld2
            try simp only [Act.put, List.setIfInBounds_toArray, List.set_cons_zero, List.set_cons_succ]
            refine wpAnyH_take (i := 9) (oi := { dst := Option.some 24, op := Go.Op.fieldAddr 28 (Go.Operand.tmp 5) 2, type := 0, pos := "ref.go:180", after := #[{ on := 0, ground := Go.Ground.phase }, { on := 1, ground := Go.Ground.phase }, { on := 2, ground := Go.Ground.phase }, { on := 3, ground := Go.Ground.phase }, { on := 4, ground := Go.Ground.phase }, { on := 5, ground := Go.Ground.phase }, { on := 6, ground := Go.Ground.phase }, { on := 7, ground := Go.Ground.phase }, { on := 8, ground := Go.Ground.phase }], guard := Option.none }) (v := ?_) rfl (by kernel_rfl) (by kernel_rfl) (by kernel_rfl) (fun _ _ _ h => h) (Or.inl ⟨by rfl, ?_⟩) hHeld ?_
            rotate_left
            · intro w hSw
              clear hSw
              go_simp
              try with_reducible rfl
            try simp only [Act.put, List.setIfInBounds_toArray, List.set_cons_zero, List.set_cons_succ]
            refine wpAnyH_ready (rs := [10]) (by kernel_rfl) (by simp) (AllReadyH.cons (o := { dst := Option.none, op := Go.Op.store 26 (Go.Operand.tmp 24) (Go.Operand.tmp 23), type := 0, pos := "ref.go:180", after := #[{ on := 9, ground := Go.Ground.data }, { on := 8, ground := Go.Ground.data }, { on := 8, ground := Go.Ground.chain }, { on := 0, ground := Go.Ground.phase }, { on := 1, ground := Go.Ground.phase }, { on := 2, ground := Go.Ground.phase }, { on := 3, ground := Go.Ground.phase }, { on := 4, ground := Go.Ground.phase }, { on := 5, ground := Go.Ground.phase }, { on := 6, ground := Go.Ground.phase }, { on := 7, ground := Go.Ground.phase }, { on := 8, ground := Go.Ground.phase }], guard := Option.none }) rfl (fun K hK => ?_) AllReadyH.nil)
            obtain ⟨⟨_, _, hf7⟩, _, _, hc7⟩ := facts3 HS7.out.1
            have hl7 := (Array.getElem?_eq_some_iff.1 HS7.out.1).1
            go_simp
            clear hf7 hc7 hl7
            have HS9 := Lib.hid HS7.out.2
            refine hK.out _ _ (mkS _ (b7.setCell HSB0.out _)) (fun hHeld2 => ?_)
            clear hK K hHeld hHeld2
            try simp only [Act.put, List.setIfInBounds_toArray, List.set_cons_zero, List.set_cons_succ]
            refine wpAnyH_done (by kernel_rfl) ?_ _
            generalize World.setCell _ _ _ = z9 at HS9 ⊢
            clear mkS
            go_wp2_with fail
            exact ⟨⟨k + 1, _, _, _, by have := HLT.out; omega, by go_num, Lib.hid (by rw [List.map_append, HM.out, HTK.out]; rfl), HS9⟩, by have := HLT.out; simp [intOf]; omega⟩
          · go_simp
            generalize hq : World.alloc z5 _ = z6
            have r6 : z6 = z5.alloc (.cells #[.int .u8 ((tagO o).toNat : Int), .slice A2 m2 c2, .slice B2 n2 d2] 28) := hq.symm
            have n6 : Below z5.heap.size z5 z6 := by rw [r6]; exact below_new _ _
            have b6 : Below U.heap.size U z6 := chain b5 n6
            have q6 : ∀ j u, ([.int .u8 ((tagO o).toNat : Int), .slice A2 m2 c2, .slice B2 n2 d2] : List Value)[j]? = some u → z6.cell? ((⟨z5.heap.size, 0, none⟩ : Addr).add j) = some u := by rw [r6]; exact cell_three_new _ _ _ _ _
            clear hq r6
            refine hK.out _ _ (mkS _ (chain HBU.out b6)) (fun hHeld2 => ?_)
            clear hK K hHeld
            have hHeld := hHeld2
            clear hHeld2
            try simp only [Act.put, List.setIfInBounds_toArray, List.set_cons_zero, List.set_cons_succ]
            refine wpAnyH_ready (rs := [1]) (by kernel_rfl) (by simp) (AllReadyH.cons (o := { dst := Option.some 16, op := Go.Op.load 26 (Go.Operand.tmp 15), type := 26, pos := "ref.go:180", after := #[{ on := 0, ground := Go.Ground.data }], guard := Option.none }) rfl (fun K hK => ?_) AllReadyH.nil)
            have hq2 := (facts3 (row_on HSU.out.rg b6)).2.2.2
            go_simp
            clear hq2
            refine hK.out _ _ (mkS _ (chain HBU.out b6)) (fun hHeld2 => ?_)
            clear hK K hHeld
            have hHeld := hHeld2
            clear hHeld2
            try simp only [Act.put, List.setIfInBounds_toArray, List.set_cons_zero, List.set_cons_succ]
            refine wpAnyH_ready (rs := [8]) (by kernel_rfl) (by simp) (AllReadyH.cons (o := { dst := Option.some 23, op := Go.Op.call { callee := Go.Callee.builtin Go.Builtin.append, args := #[Go.Operand.tmp 16, Go.Operand.tmp 22], argTypes := #[26, 26] }, type := 26, pos := "ref.go:180", after := #[{ on := 1, ground := Go.Ground.data }, { on := 7, ground := Go.Ground.data }, { on := 6, ground := Go.Ground.chain }], guard := Option.none }) rfl (fun K hK => ?_) AllReadyH.nil)
            try rw [if_pos (by rfl)]
            have hmk := HSU.out.lm.on b6
            refine wp_append_own_at8 (.tmp 16) (.tmp 22) rfl wc.heap.size _ _ _ rfl hmk.own ⟨z5.heap.size, 0, none⟩ 1 1 [.int .u8 ((tagO o).toNat : Int), .slice A2 m2 c2, .slice B2 n2 d2] rfl rfl q6 HONE.out (by have := HLT.out; omega) (by have h1 := HSU.out.sz; have h2 := b6.size; omega) ?_
            intro v7 z7 o7 g7 l7
            have hput := HSU.out.lm.put b6 HSU.out.sz (HAT.out.own n6 (Nat.le_refl _)) o7 g7 l7
            obtain ⟨A7, c7, rfl⟩ := own_sliceO o7
            have hlo := HSU.out.lm.own.lt
            have HS7 := Lib.hid (HSU.out.step b6 g7 (fun j hj => (hlo j hj).1) hput)
            have b7 : Below W0.heap.size W0 z7 := (chain HBU.out b6).grown g7 (chain HBU.out b6).size (fun j hj => by have h1 := (hlo j hj).1; have h2 := HW01.out; omega)
            clear g7 o7 l7 hput hlo hmk
            refine hK.out _ _ (mkS _ (b7)) (fun hHeld2 => ?_)
            clear hK K hHeld
            have hHeld := hHeld2
            clear hHeld2
            try simp only [Act.put, List.setIfInBounds_toArray, List.set_cons_zero, List.set_cons_succ]
            refine wpAnyH_take (i := 9) (oi := { dst := Option.some 24, op := Go.Op.fieldAddr 28 (Go.Operand.tmp 5) 2, type := 0, pos := "ref.go:180", after := #[{ on := 0, ground := Go.Ground.phase }, { on := 1, ground := Go.Ground.phase }, { on := 2, ground := Go.Ground.phase }, { on := 3, ground := Go.Ground.phase }, { on := 4, ground := Go.Ground.phase }, { on := 5, ground := Go.Ground.phase }, { on := 6, ground := Go.Ground.phase }, { on := 7, ground := Go.Ground.phase }, { on := 8, ground := Go.Ground.phase }], guard := Option.none }) (v := ?_) rfl (by kernel_rfl) (by kernel_rfl) (by kernel_rfl) (fun _ _ _ h => h) (Or.inl ⟨by rfl, ?_⟩) hHeld ?_
            rotate_left
            · intro w hSw
              clear hSw
              go_simp
              try with_reducible rfl
            try simp only [Act.put, List.setIfInBounds_toArray, List.set_cons_zero, List.set_cons_succ]
            refine wpAnyH_ready (rs := [10]) (by kernel_rfl) (by simp) (AllReadyH.cons (o := { dst := Option.none, op := Go.Op.store 26 (Go.Operand.tmp 24) (Go.Operand.tmp 23), type := 0, pos := "ref.go:180", after := #[{ on := 9, ground := Go.Ground.data }, { on := 8, ground := Go.Ground.data }, { on := 8, ground := Go.Ground.chain }, { on := 0, ground := Go.Ground.phase }, { on := 1, ground := Go.Ground.phase }, { on := 2, ground := Go.Ground.phase }, { on := 3, ground := Go.Ground.phase }, { on := 4, ground := Go.Ground.phase }, { on := 5, ground := Go.Ground.phase }, { on := 6, ground := Go.Ground.phase }, { on := 7, ground := Go.Ground.phase }, { on := 8, ground := Go.Ground.phase }], guard := Option.none }) rfl (fun K hK => ?_) AllReadyH.nil)
            obtain ⟨⟨_, _, hf7⟩, _, _, hc7⟩ := facts3 HS7.out.1
            have hl7 := (Array.getElem?_eq_some_iff.1 HS7.out.1).1
            go_simp
            clear hf7 hc7 hl7
            have HS9 := Lib.hid HS7.out.2
            refine hK.out _ _ (mkS _ (b7.setCell HSB0.out _)) (fun hHeld2 => ?_)
            clear hK K hHeld hHeld2
            try simp only [Act.put, List.setIfInBounds_toArray, List.set_cons_zero, List.set_cons_succ]
            refine wpAnyH_done (by kernel_rfl) ?_ _
            generalize World.setCell _ _ _ = z9 at HS9 ⊢
            clear mkS
            go_wp2_with fail
            exact ⟨⟨k + 1, _, _, _, by have := HLT.out; omega, by go_num, Lib.hid (by rw [List.map_append, HM.out, HTK.out]; rfl), HS9⟩, by have := HLT.out; simp [intOf]; omega⟩
      · have hkk : k = n := by omega
        have HKK := Lib.hid hkk
        have hge : ¬ (k : Int) < (n : Int) := by omega
        have hlt0 : w.heap.size < wr.heap.size := by have h1 := HBR.out.size; have h2 := HLE.out; omega
        have HR2 := Lib.hid (row_on HRR.out HBR.out)
        have HBW := Lib.hid (chain HWU.out HBR.out)
        have hltR := (Array.getElem?_eq_some_iff.1 HR2.out).1
        obtain ⟨⟨hf0, hf1, hf2⟩, hd0, hd1, hd2⟩ := facts3 HR2.out
        have hlS := (Array.getElem?_eq_some_iff.1 HTX.out.rg).1
        obtain ⟨_, hs0, hs1, hs2⟩ := facts3 HTX.out.rg
        have hw01 := HW01.out
        have hlm := HTX.out.lm
        have htl : ts.length = l.length := by rw [hlm.len, hkk, HN.out]
        have hln : k = ts.length := hlm.len.symm
        have how := hlm.own
        rw [hln] at how
        obtain ⟨B2, d2, hv2, hfin⟩ := at_of_rows (base := U.heap.size) t (b := []) (A := none) (c := 0) (own_base8 how hw01) (fun u hu => (hlm.done u hu).to fun g p x hx hR => ⟨hx, by have := hR.1; omega, hR.2⟩) (by rw [htl, HN.out]; have := HL.out; omega) (Nat.le_refl _) (by decide) (fun _ => rfl) (fun h => absurd rfl h) (fun _ _ _ h => absurd rfl h)
        rw [HM.out, hkk, List.take_of_length_le (by rw [HN.out]; exact Nat.le_refl _)] at hfin
        rw [← hln] at hfin
        have HFIN := Lib.hid hfin
        clear hkk hlt hw01 hlm htl hln how hv2 hfin
        go_wp2_with fail
        have e9 : ∀ a b c : Value, ((wr.setCell ⟨w.heap.size, 0, none⟩ a).setCell ⟨w.heap.size, 1, none⟩ b).setCell ⟨w.heap.size, 2, none⟩ c = wr.setCells w.heap.size 0 [a, b, c] := fun _ _ _ => rfl
        rw [e9]
        refine bodyPost_ret (v := .agg #[.int .u8 (t.toNat : Int), .slice none 0 0, .slice PB k pd]) (results_cell_row rfl _ _ w.heap.size 28 _ (0, 0) _ rfl (row_setCells8 HR2.out rfl) Try.underlying28 rfl (sz3o _ _ _)) rfl ⟨_, _, rfl, ?_, ?_⟩
        · exact at_setCells HFIN.out HLE.out (by have := HLE.out; omega) _ _
        · exact below_setCells8 _ _ _ HBW.out (by omega)
end Go.Proofs.Ytlbchefdkdngnaa
