/-
  THE WALKS over layer 8's reference: SameBytes, SameList, Same, at equal values. Written by wip/gen-oc3.py.
-/
import Derived.Test.YthagoafcphaadaaOcC
namespace Go.Proofs.Ythagoafcphaadaa
open Go.RowKit Sha Oc
set_option linter.unusedVariables false
set_option linter.unusedSimpArgs false
set_option maxRecDepth 100000 in
set_option maxHeartbeats 2000000 in
theorem samebytes_eq (l : List UInt8) (A1 A2 : Option Addr) (c1 c2 : Nat) (hl : l.length ≤ 1000000) (h1 : l.length ≤ c1) (h2 : l.length ≤ c2) (w : World) (s1 : SrcAt A1 l w) (s2 : SrcAt A2 l w) :
    Calls Try.prog 32 #[.slice A1 l.length c1, .slice A2 l.length c2] w fun e w' => e = .returned (.bool true) ∧ ∃ m, w' = w.drewN m := by
  obtain ⟨n, hn⟩ : ∃ n, l.length = n := ⟨_, rfl⟩
  rw [hn] at hl h1 h2 ⊢
  have HN := Lib.hid hn
  have S1 := Lib.hid s1
  have S2 := Lib.hid s2
  have hnn : ((n : Int) != (n : Int)) = false := by simp
  clear hn s1 s2
  go_enter Try.func32, Try.ntmps32
  go_wp2_with fail
  go_loopw [5] (fun i wr => ∃ (k m : Nat), k ≤ n ∧ i = .int .i64 (k : Int) ∧ wr = w.drewN m) (fun i _ => n - (intOf i).toNat)
  case atStart => exact ⟨0, 0, by omega, rfl, rfl⟩
  case round =>
    obtain ⟨k, m, hk, rfl, hwr⟩ := hrel
    have HWR := Lib.hid hwr
    clear hwr
    by_cases hlt : k < n
    · obtain ⟨x, hx⟩ : ∃ x, l[k]? = some x := ⟨_, List.getElem?_eq_getElem (by rw [HN.out]; exact hlt)⟩
      have hne : l ≠ [] := by intro e; rw [e] at hx; simp at hx
      obtain ⟨g1, o1, rfl, c1⟩ := S1.out hne
      obtain ⟨g2, o2, rfl, c2⟩ := S2.out hne
      have e1 : wr.cell? ⟨g1, o1 + k, none⟩ = some (.int .u8 (x.toNat : Int)) := by rw [HWR.out]; exact c1 k x hx
      have e2 : wr.cell? ⟨g2, o2 + k, none⟩ = some (.int .u8 (x.toNat : Int)) := by rw [HWR.out]; exact c2 k x hx
      have hki : (k : Int) < (n : Int) := by omega
      clear hx hne c1 c2
      go_wp2_with fail
      go_quiet (fail)
      go_wp2_with fail
      go_roundw
      case rel => exact ⟨k + 1, _, by omega, by go_num, by rw [HWR.out, World.drewN_drewN]⟩
      case measure => simp [intOf]; omega
    · have hge : ¬ ((k : Int) < (n : Int)) := by omega
      go_wp2_with fail
      go_ret
      exact ⟨rfl, m, HWR.out⟩

theorem range3o {w : World} {g o : Nat} {a b c : Value} (h0 : w.cell? ⟨g, o, none⟩ = some a) (h1 : w.cell? ⟨g, o + 1, none⟩ = some b) (h2 : w.cell? ⟨g, o + 2, none⟩ = some c) : w.rangeAt g o [a, b, c] := fun j v hj => by
  match j, hj with
  | 0, hj => obtain rfl := Option.some.inj hj; exact h0
  | 1, hj => obtain rfl := Option.some.inj hj; exact h1
  | 2, hj => obtain rfl := Option.some.inj hj; exact h2
theorem range_on8 {g o : Nat} {w V : World} {cs : List Value} (h : w.rangeAt g o cs) (hb : Below w.heap.size w V) : V.rangeAt g o cs := fun j v hv => by
  have h1 := h j v hv
  rw [hb.cell (p := ⟨g, o + j, none⟩) (World.block_lt_of_cell? _ _ h1)]
  exact h1
theorem heap_alloc2_old8 (w : World) (o1 o2 : Obj) : ((w.alloc o1).alloc o2).heap[w.heap.size]? = some o1 := by
  rw [Below.heap_alloc _ _ _ (by simp)]
  exact heap_alloc_new w o1
theorem heap_alloc2_new8 (w : World) (o1 o2 : Obj) : ((w.alloc o1).alloc o2).heap[w.heap.size + 1]? = some o2 := by
  have := heap_alloc_new (w.alloc o1) o2
  simpa using this
def SmPost (w : World) (e : Ending) (w' : World) : Prop := e = .returned (.bool true) ∧ Below w.heap.size w w'
set_option maxRecDepth 100000 in
set_option maxHeartbeats 2000000 in
theorem samelist_of (l : List Oct) (hlen : l.length ≤ 100000) (hS : ∀ (k : Nat) (o : Oct), l[k]? = some o → ∀ (V : World) (x y x' y' : Value), At (fun _ => True) V o x y → At (fun _ => True) V o x' y' → Calls Try.prog 21 #[.agg (cell3 o x y), .agg (cell3 o x' y')] V (SmPost V))
    (A B : Option Addr) (c d g1 o1 g2 o2 : Nat) (vb vl vb' vl' : Nat → Value) (w : World) (h1 : Els w A l g1 o1 vb vl) (h2 : Els w B l g2 o2 vb' vl') : Calls Try.prog 33 #[.slice A l.length c, .slice B l.length d] w (SmPost w) := by
  obtain ⟨n, hn⟩ : ∃ n, l.length = n := ⟨_, rfl⟩
  have HSS := Lib.hid hS
  have H1 := Lib.hid h1
  have H2 := Lib.hid h2
  have HN := Lib.hid hn
  rw [hn] at hlen ⊢
  have hnn : ((n : Int) != (n : Int)) = false := by simp
  have HL := Lib.hid hlen
  clear hS h1 h2 hn hlen
  go_enter Try.func33, Try.ntmps33
  go_wp2_with fail
  go_loopw [5] (fun i wr => ∃ k : Nat, k ≤ n ∧ i = .int .i64 (k : Int) ∧ RowKit.Hid (Below w.heap.size w wr)) (fun i _ => n - (intOf i).toNat)
  case atStart => exact ⟨0, by omega, rfl, Lib.hid (Below.refl _ _)⟩
  case round =>
    obtain ⟨k, hk, rfl, HB⟩ := hrel
    by_cases hlt : k < n
    · have hki : (k : Int) < (n : Int) := by omega
      have hh5 := HL.out
      obtain ⟨o, ho⟩ : ∃ o, l[k]? = some o := ⟨_, List.getElem?_eq_getElem (by rw [HN.out]; exact hlt)⟩
      have hne : l ≠ [] := fun e => by rw [e] at ho; simp at ho
      have hA1 := H1.out.hB hne
      have hB1 := H2.out.hB hne
      subst hA1
      subst hB1
      have e1 := H1.out.on HB.out
      have e2 := H2.out.on HB.out
      have hat1 := e1.hr k o ho
      have hat2 := e2.hr k o ho
      have p0 := e1.h0 k o ho
      have p1 := e1.h1 k o ho
      have p2 := e1.h2 k o ho
      have q0 := e2.h0 k o ho
      have q1 := e2.h1 k o ho
      have q2 := e2.h2 k o ho
      obtain ⟨A1, m1, c1, B1, n1, d1, u1, u2⟩ := hat1.slices
      obtain ⟨A2, m2, c2, B2, n2, d2, u3, u4⟩ := hat2.slices
      rw [u1] at p1 hat1
      rw [u2] at p2 hat1
      rw [u3] at q1 hat2
      rw [u4] at q2 hat2
      have r1 : wr.rangeAt g1 (o1 + k * 3) [Value.int .u8 ((tagO o).toNat : Int), .slice A1 m1 c1, .slice B1 n1 d1] := range3o p0 p1 p2
      have r2 : wr.rangeAt g2 (o2 + k * 3) [Value.int .u8 ((tagO o).toNat : Int), .slice A2 m2 c2, .slice B2 n2 d2] := range3o q0 q1 q2
      have hcall := fun (V : World) (hb : Below wr.heap.size wr V) => HSS.out k o ho V _ _ _ _ (hat1.on hb) (hat2.on hb)
      unfold SmPost at hcall
      have HR1 := Lib.hid r1
      have HR2 := Lib.hid r2
      have HLT := Lib.hid hlt
      clear hne e1 e2 hat1 hat2 p0 p1 p2 q0 q1 q2 u1 u2 u3 u4 r1 r2 ho hlt
      go_wp2_with fail
      obtain ⟨U, hU⟩ : ∃ U, wr.drew = U := ⟨_, rfl⟩
      have hbU : Below wr.heap.size wr U := by rw [← hU]; exact (Below.refl _ _).drew
      have HBU := Lib.hid (chain HB.out hbU)
      have HCALL := Lib.hid (fun (V : World) (hb : Below U.heap.size U V) => hcall V (chain hbU hb))
      have mkS : ∀ z, Below U.heap.size U z → Below U.heap.size U z ∧ z.rangeAt g1 (o1 + k * 3) [Value.int .u8 ((tagO o).toNat : Int), .slice A1 m1 c1, .slice B1 n1 d1] ∧ z.rangeAt g2 (o2 + k * 3) [Value.int .u8 ((tagO o).toNat : Int), .slice A2 m2 c2, .slice B2 n2 d2] := fun z hz => ⟨hz, range_on8 HR1.out (chain hbU hz), range_on8 HR2.out (chain hbU hz)⟩
      clear hcall
      have hS0 : Below U.heap.size U wr.drew ∧ wr.drew.rangeAt g1 (o1 + k * 3) [Value.int .u8 ((tagO o).toNat : Int), .slice A1 m1 c1, .slice B1 n1 d1] ∧ wr.drew.rangeAt g2 (o2 + k * 3) [Value.int .u8 ((tagO o).toNat : Int), .slice A2 m2 c2, .slice B2 n2 d2] := by rw [hU]; exact mkS _ (Below.refl _ _)
      refine wp_region_held_drew (S := fun z => Below U.heap.size U z ∧ z.rangeAt g1 (o1 + k * 3) [Value.int .u8 ((tagO o).toNat : Int), .slice A1 m1 c1, .slice B1 n1 d1] ∧ z.rangeAt g2 (o2 + k * 3) [Value.int .u8 ((tagO o).toNat : Int), .slice A2 m2 c2, .slice B2 n2 d2]) (by kernel_rfl) hS0 (fun hHeld => ?_)
      rw [hU] at hHeld ⊢
      clear hS0 hU hbU
      refine wpAnyH_take (i := 0) (oi := { dst := Option.some 17, op := Go.Op.move (Go.Operand.tmp 0), type := 26, pos := "ref.go:238", after := #[], guard := Option.none }) (v := ?_) rfl (by kernel_rfl) (by kernel_rfl) (by kernel_rfl) (fun _ _ _ h => h) (Or.inl ⟨by rfl, ?_⟩) hHeld ?_
      rotate_left
      · intro w hSw
        clear hSw
        go_simp
        try with_reducible rfl
      try simp only [Act.put, List.setIfInBounds_toArray, List.set_cons_zero, List.set_cons_succ]
      refine wpAnyH_take (i := 1) (oi := { dst := Option.some 18, op := Go.Op.move (Go.Operand.tmp 5), type := 3, pos := "ref.go:238", after := #[], guard := Option.none }) (v := ?_) rfl (by kernel_rfl) (by kernel_rfl) (by kernel_rfl) (fun _ _ _ h => h) (Or.inl ⟨by rfl, ?_⟩) hHeld ?_
      rotate_left
      · intro w hSw
        clear hSw
        go_simp
        try with_reducible rfl
      try simp only [Act.put, List.setIfInBounds_toArray, List.set_cons_zero, List.set_cons_succ]
      refine wpAnyH_take (i := 2) (oi := { dst := Option.some 19, op := Go.Op.indexAddr 26 (Go.Operand.tmp 17) (Go.Operand.tmp 18), type := 0, pos := "ref.go:238", after := #[{ on := 0, ground := Go.Ground.data }, { on := 1, ground := Go.Ground.data }], guard := Option.none }) (v := ?_) rfl (by kernel_rfl) (by kernel_rfl) (by kernel_rfl) (fun _ _ _ h => h) (Or.inl ⟨by rfl, ?_⟩) hHeld ?_
      rotate_left
      · intro w hSw
        clear hSw
        go_simp
        try with_reducible rfl
      try simp only [Act.put, List.setIfInBounds_toArray, List.set_cons_zero, List.set_cons_succ]
      refine wpAnyH_take (i := 3) (oi := { dst := Option.some 20, op := Go.Op.load 28 (Go.Operand.tmp 19), type := 28, pos := "ref.go:238", after := #[{ on := 2, ground := Go.Ground.data }], guard := Option.none }) (v := .agg ([Value.int .u8 ((tagO o).toNat : Int), .slice A1 m1 c1, .slice B1 n1 d1]).toArray) rfl (by kernel_rfl) (by kernel_rfl) (by kernel_rfl) (fun _ _ _ h => h) (yieldsIf_load_mid (by rfl) _ _ rfl _ _ rfl ([Value.int .u8 ((tagO o).toNat : Int), .slice A1 m1 c1, .slice B1 n1 d1]) _ (fun w hSw => hSw.2.1) Try.underlying28 rfl (sz3o _ _ _)) hHeld ?_
      try simp only [Act.put, List.setIfInBounds_toArray, List.set_cons_zero, List.set_cons_succ]
      refine wpAnyH_take (i := 4) (oi := { dst := Option.some 21, op := Go.Op.move (Go.Operand.tmp 1), type := 26, pos := "ref.go:238", after := #[], guard := Option.none }) (v := ?_) rfl (by kernel_rfl) (by kernel_rfl) (by kernel_rfl) (fun _ _ _ h => h) (Or.inl ⟨by rfl, ?_⟩) hHeld ?_
      rotate_left
      · intro w hSw
        clear hSw
        go_simp
        try with_reducible rfl
      try simp only [Act.put, List.setIfInBounds_toArray, List.set_cons_zero, List.set_cons_succ]
      refine wpAnyH_take (i := 5) (oi := { dst := Option.some 22, op := Go.Op.move (Go.Operand.tmp 5), type := 3, pos := "ref.go:238", after := #[], guard := Option.none }) (v := ?_) rfl (by kernel_rfl) (by kernel_rfl) (by kernel_rfl) (fun _ _ _ h => h) (Or.inl ⟨by rfl, ?_⟩) hHeld ?_
      rotate_left
      · intro w hSw
        clear hSw
        go_simp
        try with_reducible rfl
      try simp only [Act.put, List.setIfInBounds_toArray, List.set_cons_zero, List.set_cons_succ]
      refine wpAnyH_take (i := 6) (oi := { dst := Option.some 23, op := Go.Op.indexAddr 26 (Go.Operand.tmp 21) (Go.Operand.tmp 22), type := 0, pos := "ref.go:238", after := #[{ on := 4, ground := Go.Ground.data }, { on := 5, ground := Go.Ground.data }], guard := Option.none }) (v := ?_) rfl (by kernel_rfl) (by kernel_rfl) (by kernel_rfl) (fun _ _ _ h => h) (Or.inl ⟨by rfl, ?_⟩) hHeld ?_
      rotate_left
      · intro w hSw
        clear hSw
        go_simp
        try with_reducible rfl
      try simp only [Act.put, List.setIfInBounds_toArray, List.set_cons_zero, List.set_cons_succ]
      refine wpAnyH_take (i := 7) (oi := { dst := Option.some 24, op := Go.Op.load 28 (Go.Operand.tmp 23), type := 28, pos := "ref.go:238", after := #[{ on := 6, ground := Go.Ground.data }], guard := Option.none }) (v := .agg ([Value.int .u8 ((tagO o).toNat : Int), .slice A2 m2 c2, .slice B2 n2 d2]).toArray) rfl (by kernel_rfl) (by kernel_rfl) (by kernel_rfl) (fun _ _ _ h => h) (yieldsIf_load_mid (by rfl) _ _ rfl _ _ rfl ([Value.int .u8 ((tagO o).toNat : Int), .slice A2 m2 c2, .slice B2 n2 d2]) _ (fun w hSw => hSw.2.2) Try.underlying28 rfl (sz3o _ _ _)) hHeld ?_
      try simp only [Act.put, List.setIfInBounds_toArray, List.set_cons_zero, List.set_cons_succ]
      refine wpAnyH_ready (rs := [8]) (by kernel_rfl) (by simp) (AllReadyH.cons (o := { dst := Option.some 25, op := Go.Op.call { callee := Go.Callee.value (Go.Operand.func 21), args := #[Go.Operand.tmp 20, Go.Operand.tmp 24], argTypes := #[28, 28] }, type := 4, pos := "ref.go:238", after := #[{ on := 3, ground := Go.Ground.data }, { on := 7, ground := Go.Ground.data }], guard := Option.none }) rfl (fun K hK => ?_) AllReadyH.nil)
      go_simp
      refine (HCALL.out _ hHeld.1).mono ?_
      rintro e z1 ⟨rfl, hb1⟩
      go_simp
      refine hK.out _ _ (mkS _ (chain hHeld.1 hb1)) (fun hHeld2 => ?_)
      clear hK K hHeld hb1
      have hHeld := hHeld2
      clear hHeld2
      try simp only [Act.put, List.setIfInBounds_toArray, List.set_cons_zero, List.set_cons_succ]
      refine wpAnyH_take (i := 9) (oi := { dst := Option.some 26, op := Go.Op.unOp Go.UnOp.not 4 (Go.Operand.tmp 25), type := 4, pos := "ref.go:238", after := #[{ on := 8, ground := Go.Ground.data }], guard := Option.none }) (v := ?_) rfl (by kernel_rfl) (by kernel_rfl) (by kernel_rfl) (fun _ _ _ h => h) (Or.inl ⟨by rfl, ?_⟩) hHeld ?_
      rotate_left
      · intro w hSw
        clear hSw
        go_simp
        try with_reducible rfl
      try simp only [Act.put, List.setIfInBounds_toArray, List.set_cons_zero, List.set_cons_succ]
      refine wpAnyH_done (by kernel_rfl) ?_ _
      have hbe := chain HBU.out hHeld.1
      clear hHeld mkS
      go_wp2_with fail
      exact ⟨⟨k + 1, by have := HLT.out; omega, by go_num, Lib.hid hbe⟩, by have := HLT.out; simp [intOf]; omega⟩
    · have hge : ¬ ((k : Int) < (n : Int)) := by omega
      go_wp2_with fail
      go_ret
      exact ⟨rfl, HB.out⟩
set_option maxRecDepth 100000 in
set_option maxHeartbeats 2000000 in
theorem same_of8 (t : UInt8) (b : List UInt8) (l : List Oct) (hbl : b.length ≤ 1000000) (hL : ∀ (A B : Option Addr) (c d g1 o1 g2 o2 : Nat) (vb vl vb' vl' : Nat → Value) (V : World), Els V A l g1 o1 vb vl → Els V B l g2 o2 vb' vl' → Calls Try.prog 33 #[.slice A l.length c, .slice B l.length d] V (SmPost V))
    (w : World) (x y x' y' : Value) (h1 : At (fun _ => True) w (.mk t b l) x y) (h2 : At (fun _ => True) w (.mk t b l) x' y') : Calls Try.prog 21 #[.agg (cell3 (.mk t b l) x y), .agg (cell3 (.mk t b l) x' y')] w (SmPost w) := by
  obtain ⟨A, c, B, d, g, off, vb, vl, rfl, rfl, hc, _, _, hs, _, _, he⟩ := h1.els
  obtain ⟨A', c', B', d', g', off', vb', vl', rfl, rfl, hc', _, _, hs', _, _, he'⟩ := h2.els
  have hsb := fun (V : World) (hb : Below w.heap.size w V) => samebytes_eq b A A' c c' hbl hc hc' V (hs.on hb) (hs'.on hb)
  have hsl := fun (V : World) (hb : Below w.heap.size w V) => hL B B' d d' g off g' off' vb vl vb' vl' V (he.on hb) (he'.on hb)
  unfold SmPost at hsl
  have S1 := Lib.hid hsb
  have S2 := Lib.hid hsl
  have htt : (((t.toNat : Nat) : Int) == ((t.toNat : Nat) : Int)) = true := by simp
  show Calls Try.prog 21 #[.agg #[.int .u8 (t.toNat : Int), .slice A b.length c, .slice B l.length d], .agg #[.int .u8 (t.toNat : Int), .slice A' b.length c', .slice B' l.length d']] w (SmPost w)
  have hb2 : Below w.heap.size w ((w.alloc (.cells #[.int .u8 (t.toNat : Int), .slice A b.length c, .slice B l.length d] 28)).alloc (.cells #[.int .u8 (t.toNat : Int), .slice A' b.length c', .slice B' l.length d'] 28)) := (below_new w _).trans ((below_new _ _).mono (by simp))
  have HB2 := Lib.hid hb2
  have HR0 := Lib.hid (heap_alloc2_old8 w (.cells #[.int .u8 (t.toNat : Int), .slice A b.length c, .slice B l.length d] 28) (.cells #[.int .u8 (t.toNat : Int), .slice A' b.length c', .slice B' l.length d'] 28))
  have HR1 := Lib.hid (heap_alloc2_new8 w (.cells #[.int .u8 (t.toNat : Int), .slice A b.length c, .slice B l.length d] 28) (.cells #[.int .u8 (t.toNat : Int), .slice A' b.length c', .slice B' l.length d'] 28))
  clear hsb hsl hL hbl h1 h2 hc hs he hc' hs' he' hb2
  go_enter Try.func21, Try.ntmps21
  go_wp2_with fail
  refine (S1.out _ HB2.out).mono ?_
  rintro e w1 ⟨rfl, q, hq⟩
  have hb1 : Below ((w.alloc (.cells #[.int .u8 (t.toNat : Int), .slice A b.length c, .slice B l.length d] 28)).alloc (.cells #[.int .u8 (t.toNat : Int), .slice A' b.length c', .slice B' l.length d'] 28)).heap.size ((w.alloc (.cells #[.int .u8 (t.toNat : Int), .slice A b.length c, .slice B l.length d] 28)).alloc (.cells #[.int .u8 (t.toNat : Int), .slice A' b.length c', .slice B' l.length d'] 28)) w1 := by rw [hq]; exact below_drewN (Below.refl _ _) q
  have HB3 := Lib.hid (chain HB2.out hb1)
  have HR01 := Lib.hid (row_on HR0.out hb1)
  have HR11 := Lib.hid (row_on HR1.out hb1)
  clear hq hb1 HB2 HR0 HR1
  have hlt0 := (Array.getElem?_eq_some_iff.1 HR01.out).1
  have hlt1 := (Array.getElem?_eq_some_iff.1 HR11.out).1
  obtain ⟨_, hc0, hc1, hc2⟩ := facts3 HR01.out
  obtain ⟨_, hd0, hd1, hd2⟩ := facts3 HR11.out
  go_wp2_with fail
  refine (S2.out _ HB3.out).mono ?_
  rintro e w2 ⟨rfl, hb2⟩
  have HB4 := Lib.hid (chain HB3.out hb2)
  clear hb2 hc0 hc1 hc2 hd0 hd1 hd2 hlt0 hlt1
  go_wp2_with fail
  go_ret
  exact ⟨rfl, HB4.out⟩
theorem same_all8 : ∀ (n : Nat) (o : Oct), cnt o ≤ n → n ≤ 10000 → tot o ≤ 1000000 → ∀ (V : World) (x y x' y' : Value), At (fun _ => True) V o x y → At (fun _ => True) V o x' y' → Calls Try.prog 21 #[.agg (cell3 o x y), .agg (cell3 o x' y')] V (SmPost V) := fun n => by
  induction n with
  | zero => intro o h; cases o; rw [cnt] at h; omega
  | succ n ih =>
    intro o h hn ht
    cases o with
    | mk t b l =>
      rw [cnt] at h
      rw [tot] at ht
      have hl := len_cnts l
      exact same_of8 t b l (by omega) (fun A B c d g1 o1 g2 o2 vb vl vb' vl' V e1 e2 => samelist_of l (by omega) (fun k o ho V x y x' y' a1 a2 => ih o (by have := cnt_le l o (List.mem_of_getElem? ho); omega) (by omega) (by have := tot_le l o (List.mem_of_getElem? ho); omega) V x y x' y' a1 a2) A B c d g1 o1 g2 o2 vb vl vb' vl' V e1 e2)
theorem samelist_all8 (l : List Oct) (h1 : cnts l ≤ 10000) (h2 : tots l ≤ 1000000) (A B : Option Addr) (c d g1 o1 g2 o2 : Nat) (vb vl vb' vl' : Nat → Value) (w : World) (e1 : Els w A l g1 o1 vb vl) (e2 : Els w B l g2 o2 vb' vl') : Calls Try.prog 33 #[.slice A l.length c, .slice B l.length d] w (SmPost w) :=
  samelist_of l (by have := len_cnts l; omega) (fun k o ho V x y x' y' a1 a2 => same_all8 10000 o (by have := cnt_le l o (List.mem_of_getElem? ho); omega) (Nat.le_refl _) (by have := tot_le l o (List.mem_of_getElem? ho); omega) V x y x' y' a1 a2) A B c d g1 o1 g2 o2 vb vl vb' vl' w e1 e2
end Go.Proofs.Ythagoafcphaadaa
