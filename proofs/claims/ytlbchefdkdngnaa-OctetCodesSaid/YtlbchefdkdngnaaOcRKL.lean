import Derived.Test.YtlbchefdkdngnaaOcRJ
namespace Go.Proofs.Ytlbchefdkdngnaa
open Go.RowKit Sha Oc
set_option linter.unusedVariables false
set_option linter.unusedSimpArgs false
mutual
/-- are two values the same? -/
def eqO : Oct → Oct → Bool
  | .mk t b l, .mk t' b' l' => decide (t = t') && (decide (b = b') && eqOs l l')
def eqOs : List Oct → List Oct → Bool
  | [], [] => true
  | v :: r, v' :: r' => eqO v v' && eqOs r r'
  | [], _ :: _ => false
  | _ :: _, [] => false
end
mutual
theorem eqO_self : ∀ o : Oct, eqO o o = true
  | .mk t b l => by rw [eqO, eqOs_self l, decide_eq_true rfl, decide_eq_true rfl]; rfl
theorem eqOs_self : ∀ l : List Oct, eqOs l l = true
  | [] => by rw [eqOs]
  | v :: r => by rw [eqOs, eqO_self v, eqOs_self r]; rfl
end
theorem eqOs_len : ∀ l l' : List Oct, l.length ≠ l'.length → eqOs l l' = false
  | [], [], h => absurd rfl h
  | [], _ :: _, _ => by rw [eqOs]
  | _ :: _, [], _ => by rw [eqOs]
  | v :: r, v' :: r', h => by rw [eqOs, eqOs_len r r' (fun e => h (by rw [List.length_cons, List.length_cons, e])), Bool.and_false]
theorem eqOs_no : ∀ (l l' : List Oct) (k : Nat) (o o' : Oct), l[k]? = some o → l'[k]? = some o' → eqO o o' = false → eqOs l l' = false
  | [], _, k, o, o', h, _, _ => by simp at h
  | _ :: _, [], k, o, o', _, h, _ => by simp at h
  | v :: r, v' :: r', 0, o, o', h, h', hf => by
    obtain rfl := Option.some.inj h
    obtain rfl := Option.some.inj h'
    rw [eqOs, hf, Bool.false_and]
  | v :: r, v' :: r', k + 1, o, o', h, h', hf => by
    rw [eqOs, eqOs_no r r' k o o' h h' hf, Bool.and_false]
theorem eqOs_snoc : ∀ (l l' : List Oct) (o o' : Oct), eqOs l l' = true → eqOs (l ++ [o]) (l' ++ [o']) = eqO o o'
  | [], [], o, o', _ => by rw [List.nil_append, List.nil_append, eqOs, eqOs, Bool.and_true]
  | [], _ :: _, o, o', h => by rw [eqOs] at h; cases h
  | _ :: _, [], o, o', h => by rw [eqOs] at h; cases h
  | v :: r, v' :: r', o, o', h => by
    rw [eqOs, Bool.and_eq_true] at h
    rw [List.cons_append, List.cons_append, eqOs, h.1, eqOs_snoc r r' o o' h.2, Bool.true_and]
theorem bytes_no (l l' : List UInt8) (k : Nat) (x y : UInt8) (h : l[k]? = some x) (h' : l'[k]? = some y) (hne : x ≠ y) : l ≠ l' := fun e => by
  rw [e, h'] at h
  exact hne (Option.some.inj h).symm
set_option maxRecDepth 100000 in
set_option maxHeartbeats 2000000 in
theorem samebytes_any (l l' : List UInt8) (A1 A2 : Option Addr) (c1 c2 : Nat) (hl : l.length ≤ 1000000) (hl' : l'.length ≤ 1000000) (w : World) (s1 : SrcAt A1 l w) (s2 : SrcAt A2 l' w) :
    Calls Try.prog 33 #[.slice A1 l.length c1, .slice A2 l'.length c2] w fun e w' => e = .returned (.bool (decide (l = l'))) ∧ Below w.heap.size w w' := by
  obtain ⟨n, hn⟩ : ∃ n, l.length = n := ⟨_, rfl⟩
  obtain ⟨n', hn'⟩ : ∃ n, l'.length = n := ⟨_, rfl⟩
  have HN := Lib.hid hn
  have HN' := Lib.hid hn'
  rw [hn] at hl ⊢
  rw [hn'] at hl' ⊢
  have S1 := Lib.hid s1
  have S2 := Lib.hid s2
  clear s1 s2
  by_cases hnn : n = n'
  · subst hnn
    have hni : ((n : Int) != (n : Int)) = false := by simp
    clear hn hn' hl'
    go_enter Try.func33, Try.ntmps33
    go_wp2_with fail
    go_loopw [5] (fun i wr => ∃ (k m : Nat), k ≤ n ∧ i = .int .i64 (k : Int) ∧ RowKit.Hid (l.take k = l'.take k) ∧ RowKit.Hid (wr = w.drewN m)) (fun i _ => n - (intOf i).toNat)
    case atStart => exact ⟨0, 0, by omega, rfl, Lib.hid rfl, Lib.hid rfl⟩
    case round =>
      obtain ⟨k, m, hk, rfl, HT, HWR⟩ := hrel
      by_cases hlt : k < n
      · obtain ⟨x, hx⟩ : ∃ x, l[k]? = some x := ⟨_, List.getElem?_eq_getElem (by rw [HN.out]; exact hlt)⟩
        obtain ⟨y, hy⟩ : ∃ y, l'[k]? = some y := ⟨_, List.getElem?_eq_getElem (by rw [HN'.out]; exact hlt)⟩
        obtain ⟨g1, o1, rfl, e1⟩ := S1.out (by intro e; rw [e] at hx; simp at hx)
        obtain ⟨g2, o2, rfl, e2⟩ := S2.out (by intro e; rw [e] at hy; simp at hy)
        have q1 : wr.cell? ⟨g1, o1 + k, none⟩ = some (.int .u8 (x.toNat : Int)) := by rw [HWR.out]; exact e1 k x hx
        have q2 : wr.cell? ⟨g2, o2 + k, none⟩ = some (.int .u8 (y.toNat : Int)) := by rw [HWR.out]; exact e2 k y hy
        have hki : (k : Int) < (n : Int) := by omega
        have HX := Lib.hid hx
        have HY := Lib.hid hy
        clear hx hy e1 e2
        by_cases hxy : x = y
        · subst hxy
          have htk : l.take (k + 1) = l'.take (k + 1) := by rw [List.take_add_one, List.take_add_one, HX.out, HY.out, HT.out]
          have HTK := Lib.hid htk
          clear htk
          go_wp2_with fail
          go_quiet (fail)
          go_wp2_with fail
          go_roundw
          case rel => exact ⟨k + 1, _, by omega, by go_num, HTK, Lib.hid (by rw [HWR.out, World.drewN_drewN])⟩
          case measure => simp [intOf]; omega
        · have hne : (((x.toNat : Nat) : Int) != ((y.toNat : Nat) : Int)) = true := by
            have : x.toNat ≠ y.toNat := fun e => hxy (UInt8.toNat_inj.1 e)
            simp
            omega
          have hd : decide (l = l') = false := decide_eq_false (bytes_no l l' k x y HX.out HY.out hxy)
          have HD := Lib.hid hd
          obtain ⟨zx, hzx⟩ : ∃ z : Int, ((x.toNat : Nat) : Int) = z := ⟨_, rfl⟩
          obtain ⟨zy, hzy⟩ : ∃ z : Int, ((y.toNat : Nat) : Int) = z := ⟨_, rfl⟩
          rw [hzx] at q1 hne
          rw [hzy] at q2 hne
          clear hxy hd hzx hzy
          go_wp2_with fail
          go_quiet (fail)
          go_wp2_with fail
          go_ret
          exact ⟨by rw [HD.out]; try rfl, by rw [HWR.out]; exact below_drewN (below_drewN (Below.refl _ _) _) _⟩
      · have hge : ¬ ((k : Int) < (n : Int)) := by omega
        have hd : decide (l = l') = true := decide_eq_true (by
          have h1 := HT.out
          rw [List.take_of_length_le (by rw [HN.out]; omega), List.take_of_length_le (by rw [HN'.out]; omega)] at h1
          exact h1)
        have HD := Lib.hid hd
        clear hd
        go_wp2_with fail
        go_ret
        exact ⟨by rw [HD.out]; try rfl, by rw [HWR.out]; exact below_drewN (Below.refl _ _) _⟩
  · have hni : ((n : Int) != (n' : Int)) = true := by simp; omega
    have hd : decide (l = l') = false := decide_eq_false (fun e => hnn (by rw [← hn, ← hn', e]))
    have HD := Lib.hid hd
    clear hn hn' hnn hd
    go_enter Try.func33, Try.ntmps33
    go_wp2_with fail
    go_ret
    exact ⟨by rw [HD.out]; try rfl, Below.refl _ _⟩
def EqPost (r : Bool) (w : World) (e : Ending) (w' : World) : Prop := e = .returned (.bool r) ∧ Below w.heap.size w w'
set_option maxRecDepth 100000 in
set_option maxHeartbeats 2000000 in
theorem samelist_anyof (l l' : List Oct) (hlen : l.length ≤ 100000) (hlen' : l'.length ≤ 100000) (hS : ∀ (k : Nat) (o o' : Oct), l[k]? = some o → l'[k]? = some o' → ∀ (V : World) (x y x' y' : Value), At (fun _ => True) V o x y → At (fun _ => True) V o' x' y' → Calls Try.prog 29 #[.agg (cell3 o x y), .agg (cell3 o' x' y')] V (EqPost (eqO o o') V))
    (A B : Option Addr) (c d g1 o1 g2 o2 : Nat) (vb vl vb' vl' : Nat → Value) (w : World) (h1 : Els w A l g1 o1 vb vl) (h2 : Els w B l' g2 o2 vb' vl') : Calls Try.prog 40 #[.slice A l.length c, .slice B l'.length d] w (EqPost (eqOs l l') w) := by
  obtain ⟨n, hn⟩ : ∃ n, l.length = n := ⟨_, rfl⟩
  obtain ⟨n', hn'⟩ : ∃ n, l'.length = n := ⟨_, rfl⟩
  have HSS := Lib.hid hS
  have H1 := Lib.hid h1
  have H2 := Lib.hid h2
  have HN := Lib.hid hn
  have HN' := Lib.hid hn'
  rw [hn] at hlen ⊢
  rw [hn'] at hlen' ⊢
  clear hS h1 h2
  unfold EqPost
  by_cases hnn : n = n'
  · subst hnn
    have hni : ((n : Int) != (n : Int)) = false := by simp
    have HL := Lib.hid hlen
    clear hn hn' hlen hlen'
    go_enter Try.func40, Try.ntmps40
    go_wp2_with fail
    go_loopw [5] (fun i wr => ∃ k : Nat, k ≤ n ∧ i = .int .i64 (k : Int) ∧ RowKit.Hid (eqOs (l.take k) (l'.take k) = true) ∧ RowKit.Hid (Below w.heap.size w wr)) (fun i _ => n - (intOf i).toNat)
    case atStart => exact ⟨0, by omega, rfl, Lib.hid (by rw [List.take_zero, List.take_zero, eqOs]), Lib.hid (Below.refl _ _)⟩
    case round =>
      obtain ⟨k, hk, rfl, HT, HB⟩ := hrel
      by_cases hlt : k < n
      · have hki : (k : Int) < (n : Int) := by omega
        have hh5 := HL.out
        obtain ⟨o, ho⟩ : ∃ o, l[k]? = some o := ⟨_, List.getElem?_eq_getElem (by rw [HN.out]; exact hlt)⟩
        obtain ⟨o', ho'⟩ : ∃ o, l'[k]? = some o := ⟨_, List.getElem?_eq_getElem (by rw [HN'.out]; exact hlt)⟩
        have hA1 := H1.out.hB (fun e => by rw [e] at ho; simp at ho)
        have hB1 := H2.out.hB (fun e => by rw [e] at ho'; simp at ho')
        subst hA1
        subst hB1
        have e1 := H1.out.on HB.out
        have e2 := H2.out.on HB.out
        have hat1 := e1.hr k o ho
        have hat2 := e2.hr k o' ho'
        have p0 := e1.h0 k o ho
        have p1 := e1.h1 k o ho
        have p2 := e1.h2 k o ho
        have q0 := e2.h0 k o' ho'
        have q1 := e2.h1 k o' ho'
        have q2 := e2.h2 k o' ho'
        obtain ⟨A1, m1, c1, B1, n1, d1, u1, u2⟩ := hat1.slices
        obtain ⟨A2, m2, c2, B2, n2, d2, u3, u4⟩ := hat2.slices
        rw [u1] at p1 hat1
        rw [u2] at p2 hat1
        rw [u3] at q1 hat2
        rw [u4] at q2 hat2
        have hcall := fun (V : World) (hb : Below wr.heap.size wr V) => HSS.out k o o' ho ho' V _ _ _ _ (hat1.on hb) (hat2.on hb)
        unfold EqPost cell3 at hcall
        obtain ⟨t1, ht1⟩ : ∃ t : Int, ((tagO o).toNat : Int) = t := ⟨_, rfl⟩
        obtain ⟨t2, ht2⟩ : ∃ t : Int, ((tagO o').toNat : Int) = t := ⟨_, rfl⟩
        rw [ht1] at p0 hcall
        rw [ht2] at q0 hcall
        obtain ⟨eb, heb⟩ : ∃ eb, eqO o o' = eb := ⟨_, rfl⟩
        rw [heb] at hcall
        have HEB := Lib.hid heb
        have HTK : RowKit.Hid (eqOs (l.take (k + 1)) (l'.take (k + 1)) = eb) := Lib.hid (by rw [List.take_add_one, List.take_add_one, ho, ho', ← heb]; exact eqOs_snoc _ _ _ _ HT.out)
        have HNO : RowKit.Hid (eb = false → eqOs l l' = false) := Lib.hid (fun e => eqOs_no l l' k o o' ho ho' (by rw [heb, e]))
        have HR1 := Lib.hid (range3o p0 p1 p2)
        have HR2 := Lib.hid (range3o q0 q1 q2)
        have HLT := Lib.hid hlt
        clear e1 e2 hat1 hat2 p0 p1 p2 q0 q1 q2 u1 u2 u3 u4 ho ho' hlt ht1 ht2 heb
        go_wp2_with fail
        obtain ⟨U, hU⟩ : ∃ U, wr.drew = U := ⟨_, rfl⟩
        have hbU : Below wr.heap.size wr U := by rw [← hU]; exact (Below.refl _ _).drew
        have HBU := Lib.hid (chain HB.out hbU)
        have HCALL := Lib.hid (fun (V : World) (hb : Below U.heap.size U V) => hcall V (chain hbU hb))
        have mkS : ∀ z, Below U.heap.size U z → Below U.heap.size U z ∧ z.rangeAt g1 (o1 + k * 3) [Value.int .u8 t1, .slice A1 m1 c1, .slice B1 n1 d1] ∧ z.rangeAt g2 (o2 + k * 3) [Value.int .u8 t2, .slice A2 m2 c2, .slice B2 n2 d2] := fun z hz => ⟨hz, range_on8 HR1.out (chain hbU hz), range_on8 HR2.out (chain hbU hz)⟩
        clear hcall
        have hS0 : Below U.heap.size U wr.drew ∧ wr.drew.rangeAt g1 (o1 + k * 3) [Value.int .u8 t1, .slice A1 m1 c1, .slice B1 n1 d1] ∧ wr.drew.rangeAt g2 (o2 + k * 3) [Value.int .u8 t2, .slice A2 m2 c2, .slice B2 n2 d2] := by rw [hU]; exact mkS _ (Below.refl _ _)
        refine wp_region_held_drew (S := fun z => Below U.heap.size U z ∧ z.rangeAt g1 (o1 + k * 3) [Value.int .u8 t1, .slice A1 m1 c1, .slice B1 n1 d1] ∧ z.rangeAt g2 (o2 + k * 3) [Value.int .u8 t2, .slice A2 m2 c2, .slice B2 n2 d2]) (by kernel_rfl) hS0 (fun hHeld => ?_)
        rw [hU] at hHeld ⊢
        clear hS0 hU hbU
        refine wpAnyH_take (i := 0) (oi := { dst := Option.some 17, op := Go.Op.move (Go.Operand.tmp 0), type := 26, pos := "ref.go:238", after := #[], guard := Option.none }) (v := ?_) rfl (by kernel_rfl) (by kernel_rfl) (by kernel_rfl) (fun _ _ _ h => h) (Or.inl ⟨by rfl, ?_⟩) hHeld ?_
        rotate_left
        · intro w hSw
          clear hSw
          go_simp
          try with_reducible rfl
        try simp only [Act.put, List.setIfInBounds_toArray, List.set_cons_zero, List.set_cons_succ]
        refine wpAnyH_take (i := 1) (oi := { dst := Option.some 18, op := Go.Op.move (Go.Operand.tmp 5), type := 3, pos := "ref.go:238", after := #[], guard := Option.none }) (v := ?_) rfl (by kernel_rfl) (by kernel_rfl) (by kernel_rfl) (fun _ _ _ h => h) (Or.inl ⟨by rfl, ?_⟩) hHeld ?_
        rotate_left
        · intro w hSw
          clear hSw
          go_simp
          try with_reducible rfl
        try simp only [Act.put, List.setIfInBounds_toArray, List.set_cons_zero, List.set_cons_succ]
        refine wpAnyH_take (i := 2) (oi := { dst := Option.some 19, op := Go.Op.indexAddr 26 (Go.Operand.tmp 17) (Go.Operand.tmp 18), type := 0, pos := "ref.go:238", after := #[{ on := 0, ground := Go.Ground.data }, { on := 1, ground := Go.Ground.data }], guard := Option.none }) (v := ?_) rfl (by kernel_rfl) (by kernel_rfl) (by kernel_rfl) (fun _ _ _ h => h) (Or.inl ⟨by rfl, ?_⟩) hHeld ?_
        rotate_left
        · intro w hSw
          clear hSw
          go_simp
          try with_reducible rfl
        try simp only [Act.put, List.setIfInBounds_toArray, List.set_cons_zero, List.set_cons_succ]
        refine wpAnyH_take (i := 3) (oi := { dst := Option.some 20, op := Go.Op.load 28 (Go.Operand.tmp 19), type := 28, pos := "ref.go:238", after := #[{ on := 2, ground := Go.Ground.data }], guard := Option.none }) (v := .agg ([Value.int .u8 t1, .slice A1 m1 c1, .slice B1 n1 d1]).toArray) rfl (by kernel_rfl) (by kernel_rfl) (by kernel_rfl) (fun _ _ _ h => h) (yieldsIf_load_mid (by rfl) _ _ rfl _ _ rfl ([Value.int .u8 t1, .slice A1 m1 c1, .slice B1 n1 d1]) _ (fun w hSw => hSw.2.1) Try.underlying28 rfl (sz3o _ _ _)) hHeld ?_
        try simp only [Act.put, List.setIfInBounds_toArray, List.set_cons_zero, List.set_cons_succ]
        refine wpAnyH_take (i := 4) (oi := { dst := Option.some 21, op := Go.Op.move (Go.Operand.tmp 1), type := 26, pos := "ref.go:238", after := #[], guard := Option.none }) (v := ?_) rfl (by kernel_rfl) (by kernel_rfl) (by kernel_rfl) (fun _ _ _ h => h) (Or.inl ⟨by rfl, ?_⟩) hHeld ?_
        rotate_left
        · intro w hSw
          clear hSw
          go_simp
          try with_reducible rfl
        try simp only [Act.put, List.setIfInBounds_toArray, List.set_cons_zero, List.set_cons_succ]
        refine wpAnyH_take (i := 5) (oi := { dst := Option.some 22, op := Go.Op.move (Go.Operand.tmp 5), type := 3, pos := "ref.go:238", after := #[], guard := Option.none }) (v := ?_) rfl (by kernel_rfl) (by kernel_rfl) (by kernel_rfl) (fun _ _ _ h => h) (Or.inl ⟨by rfl, ?_⟩) hHeld ?_
        rotate_left
        · intro w hSw
          clear hSw
          go_simp
          try with_reducible rfl
        try simp only [Act.put, List.setIfInBounds_toArray, List.set_cons_zero, List.set_cons_succ]
        refine wpAnyH_take (i := 6) (oi := { dst := Option.some 23, op := Go.Op.indexAddr 26 (Go.Operand.tmp 21) (Go.Operand.tmp 22), type := 0, pos := "ref.go:238", after := #[{ on := 4, ground := Go.Ground.data }, { on := 5, ground := Go.Ground.data }], guard := Option.none }) (v := ?_) rfl (by kernel_rfl) (by kernel_rfl) (by kernel_rfl) (fun _ _ _ h => h) (Or.inl ⟨by rfl, ?_⟩) hHeld ?_
        rotate_left
        · intro w hSw
          clear hSw
          go_simp
          try with_reducible rfl
        try simp only [Act.put, List.setIfInBounds_toArray, List.set_cons_zero, List.set_cons_succ]
        refine wpAnyH_take (i := 7) (oi := { dst := Option.some 24, op := Go.Op.load 28 (Go.Operand.tmp 23), type := 28, pos := "ref.go:238", after := #[{ on := 6, ground := Go.Ground.data }], guard := Option.none }) (v := .agg ([Value.int .u8 t2, .slice A2 m2 c2, .slice B2 n2 d2]).toArray) rfl (by kernel_rfl) (by kernel_rfl) (by kernel_rfl) (fun _ _ _ h => h) (yieldsIf_load_mid (by rfl) _ _ rfl _ _ rfl ([Value.int .u8 t2, .slice A2 m2 c2, .slice B2 n2 d2]) _ (fun w hSw => hSw.2.2) Try.underlying28 rfl (sz3o _ _ _)) hHeld ?_
        try simp only [Act.put, List.setIfInBounds_toArray, List.set_cons_zero, List.set_cons_succ]
        refine wpAnyH_ready (rs := [8]) (by kernel_rfl) (by simp) (AllReadyH.cons (o := { dst := Option.some 25, op := Go.Op.call { callee := Go.Callee.value (Go.Operand.func 29), args := #[Go.Operand.tmp 20, Go.Operand.tmp 24], argTypes := #[28, 28] }, type := 4, pos := "ref.go:238", after := #[{ on := 3, ground := Go.Ground.data }, { on := 7, ground := Go.Ground.data }], guard := Option.none }) rfl (fun K hK => ?_) AllReadyH.nil)
        go_simp
        refine (HCALL.out _ hHeld.1).mono ?_
        rintro e z1 ⟨rfl, hb1⟩
        go_simp
        refine hK.out _ _ (mkS _ (chain hHeld.1 hb1)) (fun hHeld2 => ?_)
        clear hK K hHeld hb1
        have hHeld := hHeld2
        clear hHeld2
        try simp only [Act.put, List.setIfInBounds_toArray, List.set_cons_zero, List.set_cons_succ]
        refine wpAnyH_take (i := 9) (oi := { dst := Option.some 26, op := Go.Op.unOp Go.UnOp.not 4 (Go.Operand.tmp 25), type := 4, pos := "ref.go:238", after := #[{ on := 8, ground := Go.Ground.data }], guard := Option.none }) (v := ?_) rfl (by kernel_rfl) (by kernel_rfl) (by kernel_rfl) (fun _ _ _ h => h) (Or.inl ⟨by rfl, ?_⟩) hHeld ?_
        rotate_left
        · intro w hSw
          clear hSw
          go_simp
          try with_reducible rfl
        try simp only [Act.put, List.setIfInBounds_toArray, List.set_cons_zero, List.set_cons_succ]
        refine wpAnyH_done (by kernel_rfl) ?_ _
        have hbe := chain HBU.out hHeld.1
        have HBE := Lib.hid hbe
        clear hHeld mkS hbe
        cases eb with
        | true =>
          go_wp2_with fail
          exact ⟨⟨k + 1, by have := HLT.out; omega, by go_num, HTK, HBE⟩, by have := HLT.out; simp [intOf]; omega⟩
        | false =>
          go_wp2_with fail
          go_ret
          exact ⟨by rw [HNO.out (by first | rfl | trivial)]; try rfl, HBE.out⟩
      · have hge : ¬ ((k : Int) < (n : Int)) := by omega
        have hd : eqOs l l' = true := by
          have h1 := HT.out
          rw [List.take_of_length_le (by rw [HN.out]; omega), List.take_of_length_le (by rw [HN'.out]; omega)] at h1
          exact h1
        have HD := Lib.hid hd
        clear hd
        go_wp2_with fail
        go_ret
        exact ⟨by rw [HD.out]; try rfl, HB.out⟩
  · have hni : ((n : Int) != (n' : Int)) = true := by simp; omega
    have hd : eqOs l l' = false := eqOs_len l l' (fun e => hnn (by rw [← hn, ← hn', e]))
    have HD := Lib.hid hd
    clear hn hn' hnn hd
    go_enter Try.func40, Try.ntmps40
    go_wp2_with fail
    go_ret
    exact ⟨by rw [HD.out]; try rfl, Below.refl _ _⟩
set_option maxRecDepth 100000 in
set_option maxHeartbeats 2000000 in
theorem rsame_any_of (t : UInt8) (b : List UInt8) (l : List Oct) (t' : UInt8) (b' : List UInt8) (l' : List Oct) (hbl : b.length ≤ 1000000) (hbl' : b'.length ≤ 1000000) (hL : ∀ (A B : Option Addr) (c d g1 o1 g2 o2 : Nat) (vb vl vb' vl' : Nat → Value) (V : World), Els V A l g1 o1 vb vl → Els V B l' g2 o2 vb' vl' → Calls Try.prog 40 #[.slice A l.length c, .slice B l'.length d] V (EqPost (eqOs l l') V))
    (w : World) (x y x' y' : Value) (h1 : At (fun _ => True) w (.mk t b l) x y) (h2 : At (fun _ => True) w (.mk t' b' l') x' y') : Calls Try.prog 29 #[.agg (cell3 (.mk t b l) x y), .agg (cell3 (.mk t' b' l') x' y')] w (EqPost (eqO (.mk t b l) (.mk t' b' l')) w) := by
  obtain ⟨A, c, B, d, g, off, vb, vl, rfl, rfl, hc, hbm, hcn, hs, _, _, he⟩ := h1.els
  obtain ⟨A', c', B', d', g', off', vb', vl', rfl, rfl, hc', hbm', hcn', hs', _, _, he'⟩ := h2.els
  have hsb := fun (V : World) (hb : Below w.heap.size w V) => samebytes_any b b' A A' c c' hbl hbl' V (hs.on hb) (hs'.on hb)
  have hsl := fun (V : World) (hb : Below w.heap.size w V) => hL B B' d d' g off g' off' vb vl vb' vl' V (he.on hb) (he'.on hb)
  unfold EqPost at hsl ⊢
  show Calls Try.prog 29 #[.agg #[.int .u8 (t.toNat : Int), .slice A b.length c, .slice B l.length d], .agg #[.int .u8 (t'.toNat : Int), .slice A' b'.length c', .slice B' l'.length d']] w _
  have hv : eqO (.mk t b l) (.mk t' b' l') = (decide (t = t') && (decide (b = b') && eqOs l l')) := by rw [eqO]
  obtain ⟨db, hdb⟩ : ∃ db, decide (b = b') = db := ⟨_, rfl⟩
  obtain ⟨dl, hdl⟩ : ∃ dl, eqOs l l' = dl := ⟨_, rfl⟩
  obtain ⟨m, hm⟩ : ∃ m, b.length = m := ⟨_, rfl⟩
  obtain ⟨m', hm'⟩ : ∃ m, b'.length = m := ⟨_, rfl⟩
  obtain ⟨n, hn⟩ : ∃ m, l.length = m := ⟨_, rfl⟩
  obtain ⟨n', hn'⟩ : ∃ m, l'.length = m := ⟨_, rfl⟩
  rw [hdb, hdl] at hv
  rw [hdb, hm, hm'] at hsb
  rw [hdl, hn, hn'] at hsl
  rw [hm, hm', hn, hn']
  have S1 := Lib.hid hsb
  have S2 := Lib.hid hsl
  obtain ⟨z, hz⟩ : ∃ z : Int, ((t.toNat : Nat) : Int) = z := ⟨_, rfl⟩
  obtain ⟨z', hz'⟩ : ∃ z : Int, ((t'.toNat : Nat) : Int) = z := ⟨_, rfl⟩
  rw [hz, hz']
  have HR0 := Lib.hid (heap_alloc2_old8 w (.cells #[.int .u8 z, .slice A m c, .slice B n d] 28) (.cells #[.int .u8 z', .slice A' m' c', .slice B' n' d'] 28))
  have HR1 := Lib.hid (heap_alloc2_new8 w (.cells #[.int .u8 z, .slice A m c, .slice B n d] 28) (.cells #[.int .u8 z', .slice A' m' c', .slice B' n' d'] 28))
  have HB2 : RowKit.Hid (Below w.heap.size w ((w.alloc (.cells #[.int .u8 z, .slice A m c, .slice B n d] 28)).alloc (.cells #[.int .u8 z', .slice A' m' c', .slice B' n' d'] 28))) := Lib.hid ((below_new w _).trans ((below_new _ _).mono (by simp)))
  clear hsb hsl hL hbl hbl' h1 h2 hc hs he hc' hs' he' hbm hbm' hcn hcn' hm hm' hn hn' hdb hdl
  by_cases ht : t = t'
  · subst ht
    obtain rfl : z = z' := hz.symm.trans hz'
    rw [decide_eq_true rfl, Bool.true_and] at hv
    have HV := Lib.hid hv
    clear hv hz hz'
    go_enter Try.func29, Try.ntmps29
    go_upto_region 1 with (fail)
    try rw [World.size_alloc]
    generalize hW : World.alloc (World.alloc w _) _ = w0 at HR0 HR1 HB2 ⊢
    clear hW
    have hlt0 := (Array.getElem?_eq_some_iff.1 HR0.out).1
    have hlt1 := (Array.getElem?_eq_some_iff.1 HR1.out).1
    obtain ⟨_, hc0, hc1, hc2⟩ := facts3 HR0.out
    obtain ⟨_, hd0, hd1, hd2⟩ := facts3 HR1.out
    go_wp2_with fail
    refine (S1.out _ HB2.out).mono ?_
    rintro e w1 ⟨rfl, hb1⟩
    have HB3 := Lib.hid (chain HB2.out hb1)
    have HR01 := Lib.hid (row_on HR0.out hb1)
    have HR11 := Lib.hid (row_on HR1.out hb1)
    clear hb1 HB2 HR0 HR1 hc0 hc1 hc2 hd0 hd1 hd2 hlt0 hlt1
    cases db with
    | false =>
      go_wp2_with fail
      go_ret
      exact ⟨by rw [HV.out]; try rfl, HB3.out⟩
    | true =>
      have hlt0 := (Array.getElem?_eq_some_iff.1 HR01.out).1
      have hlt1 := (Array.getElem?_eq_some_iff.1 HR11.out).1
      obtain ⟨_, hc0, hc1, hc2⟩ := facts3 HR01.out
      obtain ⟨_, hd0, hd1, hd2⟩ := facts3 HR11.out
      go_wp2_with fail
      refine (S2.out _ HB3.out).mono ?_
      rintro e w2 ⟨rfl, hb2⟩
      have HB4 := Lib.hid (chain HB3.out hb2)
      clear hb2 hc0 hc1 hc2 hd0 hd1 hd2 hlt0 hlt1
      go_wp2_with fail
      go_ret
      exact ⟨by rw [HV.out]; try rfl, HB4.out⟩
  · have hne : (z == z') = false := by
      have : t.toNat ≠ t'.toNat := fun e => ht (UInt8.toNat_inj.1 e)
      simp
      omega
    rw [decide_eq_false ht, Bool.false_and] at hv
    have HV := Lib.hid hv
    clear hv hz hz' ht
    go_enter Try.func29, Try.ntmps29
    go_upto_region 1 with (fail)
    try rw [World.size_alloc]
    generalize hW : World.alloc (World.alloc w _) _ = w0 at HR0 HR1 HB2 ⊢
    clear hW
    have hlt0 := (Array.getElem?_eq_some_iff.1 HR0.out).1
    have hlt1 := (Array.getElem?_eq_some_iff.1 HR1.out).1
    obtain ⟨_, hc0, hc1, hc2⟩ := facts3 HR0.out
    obtain ⟨_, hd0, hd1, hd2⟩ := facts3 HR1.out
    go_wp2_with fail
    go_ret
    exact ⟨by rw [HV.out]; try rfl, HB2.out⟩
theorem rsame_any : ∀ (n : Nat) (o o' : Oct), cnt o ≤ n → n ≤ 10000 → cnt o' ≤ 10000 → tot o ≤ 1000000 → tot o' ≤ 1000000 → ∀ (V : World) (x y x' y' : Value), At (fun _ => True) V o x y → At (fun _ => True) V o' x' y' → Calls Try.prog 29 #[.agg (cell3 o x y), .agg (cell3 o' x' y')] V (EqPost (eqO o o') V) := fun n => by
  induction n with
  | zero => intro o o' h; cases o; rw [cnt] at h; omega
  | succ n ih =>
    intro o o' h hn h' ht ht'
    obtain ⟨t, b, l⟩ := o
    obtain ⟨t', b', l'⟩ := o'
    rw [cnt] at h h'
    rw [tot] at ht ht'
    have hl := len_cnts l
    have hl' := len_cnts l'
    exact rsame_any_of t b l t' b' l' (by omega) (by omega) (fun A B c d g1 o1 g2 o2 vb vl vb' vl' V e1 e2 => samelist_anyof l l' (by omega) (by omega) (fun k o o' ho ho' V x y x' y' a1 a2 => ih o o' (by have := cnt_le l o (List.mem_of_getElem? ho); omega) (by omega) (by have := cnt_le l' o' (List.mem_of_getElem? ho'); omega) (by have := tot_le l o (List.mem_of_getElem? ho); omega) (by have := tot_le l' o' (List.mem_of_getElem? ho'); omega) V x y x' y' a1 a2) A B c d g1 o1 g2 o2 vb vl vb' vl' V e1 e2)
end Go.Proofs.Ytlbchefdkdngnaa
namespace Go.Proofs.Ytlbchefdkdngnaa
open Go.RowKit Sha Oc
set_option linter.unusedVariables false
set_option linter.unusedSimpArgs false
theorem bytes_equal (b b' : List UInt8) (A A' : Option Addr) (c c' : Nat) (hcn : A = none → c = 0) (hcn' : A' = none → c' = 0) (w : World) (hs : SrcAt A b w) (hs' : SrcAt A' b' w) :
    Calls Try.prog 57 #[.slice A b.length c, .slice A' b'.length c'] w fun e w' => e = .returned (.bool (decide (b = b'))) ∧ Below w.heap.size w w' := by
  have h1 := conv_back b A c w hcn hs
  have h2 := conv_back b' A' c' w hcn' hs'
  have hd : (b == b') = decide (b = b') := by
    by_cases h : b = b'
    · rw [decide_eq_true h, h]; simp
    · rw [decide_eq_false h]; simp [h]
  obtain ⟨m, hm⟩ : ∃ m, b.length = m := ⟨_, rfl⟩
  obtain ⟨m', hm'⟩ : ∃ m, b'.length = m := ⟨_, rfl⟩
  rw [hm] at h1 ⊢
  rw [hm'] at h2 ⊢
  have HD := Lib.hid hd
  clear hs hs' hcn hcn' hm hm' hd
  go_enter Try.func57, Try.ntmps57
  go_wp2_with fail
  go_ret
  exact ⟨by rw [← HD.out]; rfl, Below.refl _ _⟩
set_option maxRecDepth 100000 in
set_option maxHeartbeats 2000000 in
theorem equalfunc_of (l l' : List Oct) (hlen : l.length ≤ 100000) (hlen' : l'.length ≤ 100000) (hS : ∀ (k : Nat) (o o' : Oct), l[k]? = some o → l'[k]? = some o' → ∀ (V : World) (x y x' y' : Value), At (fun _ => True) V o x y → At (fun _ => True) V o' x' y' → Calls Try.prog 28 #[.agg (cell3 o x y), .agg (cell3 o' x' y')] V (EqPost (eqO o o') V))
    (A B : Option Addr) (c d g1 o1 g2 o2 : Nat) (vb vl vb' vl' : Nat → Value) (V : World) (h1 : Els V A l g1 o1 vb vl) (h2 : Els V B l' g2 o2 vb' vl') : Calls Try.prog 58 #[.slice A l.length c, .slice B l'.length d, .func (.func 28) #[] #[]] V (EqPost (eqOs l l') V) := by
  obtain ⟨n, hn⟩ : ∃ n, l.length = n := ⟨_, rfl⟩
  obtain ⟨n', hn'⟩ : ∃ n, l'.length = n := ⟨_, rfl⟩
  have HSS := Lib.hid hS
  have H1 := Lib.hid h1
  have H2 := Lib.hid h2
  have HN := Lib.hid hn
  have HN' := Lib.hid hn'
  rw [hn] at hlen ⊢
  rw [hn'] at hlen' ⊢
  clear hS h1 h2
  unfold EqPost
  by_cases hnn : n = n'
  · subst hnn
    have hni : ((n : Int) != (n : Int)) = false := by simp
    have HL := Lib.hid hlen
    clear hn hn' hlen hlen'
    go_enter Try.func58, Try.ntmps58
    go_wp2_with fail
    go_loopw [7, 8, 9, 17] (fun _ _ _ i wr => ∃ k : Nat, k ≤ n ∧ i = .int .i64 (k : Int) ∧ RowKit.Hid (eqOs (l.take k) (l'.take k) = true) ∧ RowKit.Hid (Below V.heap.size V wr)) (fun _ _ _ i _ => n - (intOf i).toNat)
    case atStart => exact ⟨0, by omega, rfl, Lib.hid (by rw [List.take_zero, List.take_zero, eqOs]), Lib.hid (Below.refl _ _)⟩
    case round =>
      obtain ⟨k, hk, rfl, HT, HB⟩ := hrel
      by_cases hlt : k < n
      · have hki : (k : Int) < (n : Int) := by omega
        have hh5 := HL.out
        obtain ⟨o, ho⟩ : ∃ o, l[k]? = some o := ⟨_, List.getElem?_eq_getElem (by rw [HN.out]; exact hlt)⟩
        obtain ⟨o', ho'⟩ : ∃ o, l'[k]? = some o := ⟨_, List.getElem?_eq_getElem (by rw [HN'.out]; exact hlt)⟩
        have hA1 := H1.out.hB (fun e => by rw [e] at ho; simp at ho)
        have hB1 := H2.out.hB (fun e => by rw [e] at ho'; simp at ho')
        subst hA1
        subst hB1
        have e1 := H1.out.on HB.out
        have e2 := H2.out.on HB.out
        have hat1 := e1.hr k o ho
        have hat2 := e2.hr k o' ho'
        have p0 := e1.h0 k o ho
        have p1 := e1.h1 k o ho
        have p2 := e1.h2 k o ho
        obtain ⟨A1, m1, c1, B1, n1, d1, u1, u2⟩ := hat1.slices
        obtain ⟨A2, m2, c2, B2, n2, d2, u3, u4⟩ := hat2.slices
        rw [u1] at p1 hat1
        rw [u2] at p2 hat1
        have hq : ∀ (U : World), Below wr.heap.size wr U → U.cell? ⟨g2, o2 + k * 3, none⟩ = some (.int .u8 ((tagO o').toNat : Int)) ∧ U.cell? ⟨g2, o2 + k * 3 + 1, none⟩ = some (.slice A2 m2 c2) ∧ U.cell? ⟨g2, o2 + k * 3 + 2, none⟩ = some (.slice B2 n2 d2) :=
          fun U hb => ⟨(e2.on hb).h0 k o' ho', by rw [← u3]; exact (e2.on hb).h1 k o' ho', by rw [← u4]; exact (e2.on hb).h2 k o' ho'⟩
        rw [u3, u4] at hat2
        have hcall := fun (U : World) (hb : Below wr.heap.size wr U) => HSS.out k o o' ho ho' U _ _ _ _ (hat1.on hb) (hat2.on hb)
        unfold EqPost cell3 at hcall
        obtain ⟨t1, ht1⟩ : ∃ t : Int, ((tagO o).toNat : Int) = t := ⟨_, rfl⟩
        obtain ⟨t2, ht2⟩ : ∃ t : Int, ((tagO o').toNat : Int) = t := ⟨_, rfl⟩
        rw [ht1] at p0 hcall
        rw [ht2] at hq hcall
        obtain ⟨eb, heb⟩ : ∃ eb, eqO o o' = eb := ⟨_, rfl⟩
        rw [heb] at hcall
        have HEB := Lib.hid heb
        have HTK : RowKit.Hid (eqOs (l.take (k + 1)) (l'.take (k + 1)) = eb) := Lib.hid (by rw [List.take_add_one, List.take_add_one, ho, ho', ← heb]; exact eqOs_snoc _ _ _ _ HT.out)
        have HNO : RowKit.Hid (eb = false → eqOs l l' = false) := Lib.hid (fun e => eqOs_no l l' k o o' ho ho' (by rw [heb, e]))
        have HQ := Lib.hid hq
        have HCALL := Lib.hid hcall
        have HLT := Lib.hid hlt
        have HRW1 := Lib.hid (heap_alloc_new wr (.cells #[.int .u8 t1, .slice A1 m1 c1, .slice B1 n1 d1] 28))
        have HBW1 := Lib.hid (below_new wr (.cells #[.int .u8 t1, .slice A1 m1 c1, .slice B1 n1 d1] 28))
        clear e1 e2 hat1 hat2 u1 u2 u3 u4 ho ho' hlt ht1 ht2 heb hq hcall
        go_upto_region 6 with (fail)
        generalize hV1 : World.alloc wr _ = V1 at HRW1 HBW1 ⊢
        clear hV1 p0 p1 p2
        obtain ⟨q0, q1, q2⟩ := HQ.out V1 HBW1.out
        have HRW2 := Lib.hid (heap_alloc_new V1 (.cells #[.int .u8 t2, .slice A2 m2 c2, .slice B2 n2 d2] 28))
        have HBW2 := Lib.hid (below_new V1 (.cells #[.int .u8 t2, .slice A2 m2 c2, .slice B2 n2 d2] 28))
        go_upto_region 7 with (fail)
        generalize hV2 : World.alloc V1 _ = V2 at HRW2 HBW2 ⊢
        clear hV2 q0 q1 q2
        have HRW3 := Lib.hid (row_on HRW1.out HBW2.out)
        have hl1 := (Array.getElem?_eq_some_iff.1 HRW2.out).1
        have hl2 := (Array.getElem?_eq_some_iff.1 HRW3.out).1
        obtain ⟨_, p0, p1, p2⟩ := facts3 HRW3.out
        obtain ⟨_, q0, q1, q2⟩ := facts3 HRW2.out
        go_wp2_with fail
        refine (HCALL.out _ (chain HBW1.out HBW2.out)).mono ?_
        rintro e W3 ⟨rfl, hb3⟩
        have HBE := Lib.hid (chain HB.out (chain (chain HBW1.out HBW2.out) hb3))
        clear hb3 p0 p1 p2 q0 q1 q2 hl1 hl2 HRW1 HRW2 HRW3
        cases eb with
        | true =>
          go_wp2_with fail
          exact ⟨⟨k + 1, by have := HLT.out; omega, by go_num, HTK, HBE⟩, by have := HLT.out; simp [intOf]; omega⟩
        | false =>
          go_wp2_with fail
          go_ret
          exact ⟨by rw [HNO.out (by first | rfl | trivial)]; try rfl, HBE.out⟩
      · have hge : ¬ ((k : Int) < (n : Int)) := by omega
        have hd : eqOs l l' = true := by
          have h1 := HT.out
          rw [List.take_of_length_le (by rw [HN.out]; omega), List.take_of_length_le (by rw [HN'.out]; omega)] at h1
          exact h1
        have HD := Lib.hid hd
        clear hd
        go_wp2_with fail
        go_ret
        exact ⟨by rw [HD.out]; try rfl, HB.out⟩
  · have hni : ((n : Int) != (n' : Int)) = true := by simp; omega
    have hd : eqOs l l' = false := eqOs_len l l' (fun e => hnn (by rw [← hn, ← hn', e]))
    have HD := Lib.hid hd
    clear hn hn' hnn hd
    go_enter Try.func58, Try.ntmps58
    go_wp2_with fail
    go_ret
    exact ⟨by rw [HD.out]; try rfl, Below.refl _ _⟩
set_option maxRecDepth 100000 in
set_option maxHeartbeats 2000000 in
theorem psame_any_of (t : UInt8) (b : List UInt8) (l : List Oct) (t' : UInt8) (b' : List UInt8) (l' : List Oct) (hbl : b.length ≤ 1000000) (hbl' : b'.length ≤ 1000000) (hL : ∀ (A B : Option Addr) (c d g1 o1 g2 o2 : Nat) (vb vl vb' vl' : Nat → Value) (V : World), Els V A l g1 o1 vb vl → Els V B l' g2 o2 vb' vl' → Calls Try.prog 58 #[.slice A l.length c, .slice B l'.length d, .func (.func 28) #[] #[]] V (EqPost (eqOs l l') V))
    (w : World) (x y x' y' : Value) (h1 : At (fun _ => True) w (.mk t b l) x y) (h2 : At (fun _ => True) w (.mk t' b' l') x' y') : Calls Try.prog 28 #[.agg (cell3 (.mk t b l) x y), .agg (cell3 (.mk t' b' l') x' y')] w (EqPost (eqO (.mk t b l) (.mk t' b' l')) w) := by
  obtain ⟨A, c, B, d, g, off, vb, vl, rfl, rfl, hc, hbm, hcn, hs, _, _, he⟩ := h1.els
  obtain ⟨A', c', B', d', g', off', vb', vl', rfl, rfl, hc', hbm', hcn', hs', _, _, he'⟩ := h2.els
  have hsb := fun (V : World) (hb : Below w.heap.size w V) => bytes_equal b b' A A' c c' hcn hcn' V (hs.on hb) (hs'.on hb)
  have hsl := fun (V : World) (hb : Below w.heap.size w V) => hL B B' d d' g off g' off' vb vl vb' vl' V (he.on hb) (he'.on hb)
  unfold EqPost at hsl ⊢
  show Calls Try.prog 28 #[.agg #[.int .u8 (t.toNat : Int), .slice A b.length c, .slice B l.length d], .agg #[.int .u8 (t'.toNat : Int), .slice A' b'.length c', .slice B' l'.length d']] w _
  have hv : eqO (.mk t b l) (.mk t' b' l') = (decide (t = t') && (decide (b = b') && eqOs l l')) := by rw [eqO]
  obtain ⟨db, hdb⟩ : ∃ db, decide (b = b') = db := ⟨_, rfl⟩
  obtain ⟨dl, hdl⟩ : ∃ dl, eqOs l l' = dl := ⟨_, rfl⟩
  obtain ⟨m, hm⟩ : ∃ m, b.length = m := ⟨_, rfl⟩
  obtain ⟨m', hm'⟩ : ∃ m, b'.length = m := ⟨_, rfl⟩
  obtain ⟨n, hn⟩ : ∃ m, l.length = m := ⟨_, rfl⟩
  obtain ⟨n', hn'⟩ : ∃ m, l'.length = m := ⟨_, rfl⟩
  rw [hdb, hdl] at hv
  rw [hdb, hm, hm'] at hsb
  rw [hdl, hn, hn'] at hsl
  rw [hm, hm', hn, hn']
  have S1 := Lib.hid hsb
  have S2 := Lib.hid hsl
  obtain ⟨z, hz⟩ : ∃ z : Int, ((t.toNat : Nat) : Int) = z := ⟨_, rfl⟩
  obtain ⟨z', hz'⟩ : ∃ z : Int, ((t'.toNat : Nat) : Int) = z := ⟨_, rfl⟩
  rw [hz, hz']
  have HR0 := Lib.hid (heap_alloc2_old8 w (.cells #[.int .u8 z, .slice A m c, .slice B n d] 28) (.cells #[.int .u8 z', .slice A' m' c', .slice B' n' d'] 28))
  have HR1 := Lib.hid (heap_alloc2_new8 w (.cells #[.int .u8 z, .slice A m c, .slice B n d] 28) (.cells #[.int .u8 z', .slice A' m' c', .slice B' n' d'] 28))
  have HB2 : RowKit.Hid (Below w.heap.size w ((w.alloc (.cells #[.int .u8 z, .slice A m c, .slice B n d] 28)).alloc (.cells #[.int .u8 z', .slice A' m' c', .slice B' n' d'] 28))) := Lib.hid ((below_new w _).trans ((below_new _ _).mono (by simp)))
  clear hsb hsl hL hbl hbl' h1 h2 hc hs he hc' hs' he' hbm hbm' hcn hcn' hm hm' hn hn' hdb hdl
  by_cases ht : t = t'
  · subst ht
    obtain rfl : z = z' := hz.symm.trans hz'
    rw [decide_eq_true rfl, Bool.true_and] at hv
    have HV := Lib.hid hv
    clear hv hz hz'
    go_enter Try.func28, Try.ntmps28
    go_upto_region 1 with (fail)
    try rw [World.size_alloc]
    generalize hW : World.alloc (World.alloc w _) _ = w0 at HR0 HR1 HB2 ⊢
    clear hW
    have hlt0 := (Array.getElem?_eq_some_iff.1 HR0.out).1
    have hlt1 := (Array.getElem?_eq_some_iff.1 HR1.out).1
    obtain ⟨_, hc0, hc1, hc2⟩ := facts3 HR0.out
    obtain ⟨_, hd0, hd1, hd2⟩ := facts3 HR1.out
    go_wp2_with fail
    refine (S1.out _ HB2.out).mono ?_
    rintro e w1 ⟨rfl, hb1⟩
    have HB3 := Lib.hid (chain HB2.out hb1)
    have HR01 := Lib.hid (row_on HR0.out hb1)
    have HR11 := Lib.hid (row_on HR1.out hb1)
    clear hb1 HB2 HR0 HR1 hc0 hc1 hc2 hd0 hd1 hd2 hlt0 hlt1
    cases db with
    | false =>
      go_wp2_with fail
      go_ret
      exact ⟨by rw [HV.out]; try rfl, HB3.out⟩
    | true =>
      have hlt0 := (Array.getElem?_eq_some_iff.1 HR01.out).1
      have hlt1 := (Array.getElem?_eq_some_iff.1 HR11.out).1
      obtain ⟨_, hc0, hc1, hc2⟩ := facts3 HR01.out
      obtain ⟨_, hd0, hd1, hd2⟩ := facts3 HR11.out
      go_wp2_with fail
      refine (S2.out _ HB3.out).mono ?_
      rintro e w2 ⟨rfl, hb2⟩
      have HB4 := Lib.hid (chain HB3.out hb2)
      clear hb2 hc0 hc1 hc2 hd0 hd1 hd2 hlt0 hlt1
      go_wp2_with fail
      go_ret
      exact ⟨by rw [HV.out]; try rfl, HB4.out⟩
  · have hne : (z == z') = false := by
      have : t.toNat ≠ t'.toNat := fun e => ht (UInt8.toNat_inj.1 e)
      simp
      omega
    rw [decide_eq_false ht, Bool.false_and] at hv
    have HV := Lib.hid hv
    clear hv hz hz' ht
    go_enter Try.func28, Try.ntmps28
    go_upto_region 1 with (fail)
    try rw [World.size_alloc]
    generalize hW : World.alloc (World.alloc w _) _ = w0 at HR0 HR1 HB2 ⊢
    clear hW
    have hlt0 := (Array.getElem?_eq_some_iff.1 HR0.out).1
    have hlt1 := (Array.getElem?_eq_some_iff.1 HR1.out).1
    obtain ⟨_, hc0, hc1, hc2⟩ := facts3 HR0.out
    obtain ⟨_, hd0, hd1, hd2⟩ := facts3 HR1.out
    go_wp2_with fail
    go_ret
    exact ⟨by rw [HV.out]; try rfl, HB2.out⟩
theorem psame_any : ∀ (n : Nat) (o o' : Oct), cnt o ≤ n → n ≤ 10000 → cnt o' ≤ 10000 → tot o ≤ 1000000 → tot o' ≤ 1000000 → ∀ (V : World) (x y x' y' : Value), At (fun _ => True) V o x y → At (fun _ => True) V o' x' y' → Calls Try.prog 28 #[.agg (cell3 o x y), .agg (cell3 o' x' y')] V (EqPost (eqO o o') V) := fun n => by
  induction n with
  | zero => intro o o' h; cases o; rw [cnt] at h; omega
  | succ n ih =>
    intro o o' h hn h' ht ht'
    obtain ⟨t, b, l⟩ := o
    obtain ⟨t', b', l'⟩ := o'
    rw [cnt] at h h'
    rw [tot] at ht ht'
    have hl := len_cnts l
    have hl' := len_cnts l'
    exact psame_any_of t b l t' b' l' (by omega) (by omega) (fun A B c d g1 o1 g2 o2 vb vl vb' vl' V e1 e2 => equalfunc_of l l' (by omega) (by omega) (fun k o o' ho ho' V x y x' y' a1 a2 => ih o o' (by have := cnt_le l o (List.mem_of_getElem? ho); omega) (by omega) (by have := cnt_le l' o' (List.mem_of_getElem? ho'); omega) (by have := tot_le l o (List.mem_of_getElem? ho); omega) (by have := tot_le l' o' (List.mem_of_getElem? ho'); omega) V x y x' y' a1 a2) A B c d g1 o1 g2 o2 vb vl vb' vl' V e1 e2)
end Go.Proofs.Ytlbchefdkdngnaa
