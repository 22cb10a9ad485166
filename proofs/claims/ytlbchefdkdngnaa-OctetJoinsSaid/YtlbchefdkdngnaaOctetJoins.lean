/-
  OctetJoins: encodings of lists. Written by wip/gen-oc21.py.
-/
import Derived.Test.YtlbchefdkdngnaaOcRJ
namespace Go.Proofs.Ytlbchefdkdngnaa
open Go.ChangeShapes Go.WideShapes Go.ChangeAt Go.RowKit Sha Oc
set_option linter.unusedVariables false
set_option linter.unusedSimpArgs false
set_option maxRecDepth 100000
/-- what a list's encoding is made of -/
theorem join_good (tg : UInt8) (o1 o2 : Oct) (h : ckV (.mk tg [] [o1, o2]) = 0) : ckV o1 = 0 ∧ ckV o2 = 0 ∧ 128 ≤ tg.toNat ∧ enc (.mk tg [] [o1, o2]) = (tg :: lenb ((enc o1).length + (enc o2).length)) ++ (enc o1 ++ enc o2) := by
  have hg := (ckV_good _).1 h
  have he : enc (.mk tg [] [o1, o2]) = (tg :: lenb ((enc o1).length + (enc o2).length)) ++ (enc o1 ++ enc o2) := by
    rw [enc, encs, encs, encs, List.length_nil, List.length_append, List.append_nil, List.nil_append, Nat.zero_add]
    rfl
  obtain ⟨h1, h2, h3, h4⟩ := hg
  rw [he, List.length_append, List.length_append] at h4
  rw [cnt, cnts, cnts, cnts] at h1
  rw [dep, deps, deps, deps] at h2
  rw [shp, shps, shps, shps] at h3
  obtain ⟨_, h5, _, h6, h7, _⟩ := h3
  have ht : 128 ≤ tg.toNat := by
    by_cases h : tg.toNat < 128
    · exact absurd (h5 h) (by simp)
    · omega
  exact ⟨(ckV_good _).2 ⟨by omega, by omega, h6, by omega⟩, (ckV_good _).2 ⟨by omega, by omega, h7, by omega⟩, ht, he⟩
set_option maxHeartbeats 8000000 in
theorem joins_true (w : World) (tg : UInt8) (o1 : Oct) (x1 y1 : Value) (hat1 : At (fun _ => True) w o1 x1 y1) (o2_ : Oct) (x2 y2 : Value) (hat2 : At (fun _ => True) w o2_ x2 y2) :
    Calls Try.prog 11 #[.int .u8 (tg.toNat : Int), .agg (cell3 o1 x1 y1), .agg (cell3 o2_ x2 y2)] w (fun e w' => e = .returned (.bool true) ∧ Below w.heap.size w w') := by
  have HG1 := Lib.hid (fun (V : World) (hb : Below w.heap.size w V) => great8_any o1 V x1 y1 (hat1.on hb))
  have HG2 := Lib.hid (fun (V : World) (hb : Below w.heap.size w V) => great8_any o2_ V x2 y2 (hat2.on hb))
  have HE1 := Lib.hid (fun (hcn : cnt o1 ≤ 5000) (htt : tot o1 ≤ 100000) (V : World) (hb : Below w.heap.size w V) => encode_any o1 (by omega) (by omega) V x1 y1 (hat1.on hb))
  have HE2 := Lib.hid (fun (hcn : cnt o2_ ≤ 5000) (htt : tot o2_ ≤ 100000) (V : World) (hb : Below w.heap.size w V) => encode_any o2_ (by omega) (by omega) V x2 y2 (hat2.on hb))
  have HSQ := Lib.hid (fun (h : ∀ o ∈ [o1, o2_], cnt o ≤ 5000 ∧ tot o ≤ 100000) (V : World) (B : Option Addr) (d g off : Nat) (vb vl : Nat → Value) he => seq_any tg [o1, o2_] (by show 2 ≤ 5000; omega) h B d g off vb vl V he)
  unfold GtPost at HG1 HG2
  unfold EncPost at HE1 HE2
  unfold TwPost at HSQ
  obtain ⟨A1, m1, c1, B1, n1, d1, rfl, rfl⟩ := hat1.slices
  obtain ⟨A2, m2, c2, B2, n2, d2, rfl, rfl⟩ := hat2.slices
  have HA1 := Lib.hid hat1
  have HA2 := Lib.hid hat2
  obtain ⟨t1, ht1⟩ : ∃ t1 : Int, ((tagO o1).toNat : Int) = t1 := ⟨_, rfl⟩
  obtain ⟨t2, ht2⟩ : ∃ t2 : Int, ((tagO o2_).toNat : Int) = t2 := ⟨_, rfl⟩
  obtain ⟨tz, htz⟩ : ∃ tz : Int, ((tg.toNat : Nat) : Int) = tz := ⟨_, rfl⟩
  have HT1 := Lib.hid ht1
  have HT2 := Lib.hid ht2
  have HTZ := Lib.hid htz
  unfold cell3 at HG1 HG2 HE1 HE2
  show Calls Try.prog 11 #[.int .u8 (tg.toNat : Int), .agg #[.int .u8 ((tagO o1).toNat : Int), .slice A1 m1 c1, .slice B1 n1 d1], .agg #[.int .u8 ((tagO o2_).toNat : Int), .slice A2 m2 c2, .slice B2 n2 d2]] w _
  rw [ht1] at HG1 HE1 ⊢
  rw [ht2] at HG2 HE2 ⊢
  rw [htz] at HSQ ⊢
  have hr1 := heap_alloc2_old8 w (.cells #[.int .u8 t1, .slice A1 m1 c1, .slice B1 n1 d1] 28) (.cells #[.int .u8 t2, .slice A2 m2 c2, .slice B2 n2 d2] 28)
  have hr2 := heap_alloc2_new8 w (.cells #[.int .u8 t1, .slice A1 m1 c1, .slice B1 n1 d1] 28) (.cells #[.int .u8 t2, .slice A2 m2 c2, .slice B2 n2 d2] 28)
  have hb0 : Below w.heap.size w ((w.alloc (.cells #[.int .u8 t1, .slice A1 m1 c1, .slice B1 n1 d1] 28)).alloc (.cells #[.int .u8 t2, .slice A2 m2 c2, .slice B2 n2 d2] 28)) := ((Below.refl _ w).alloc (Nat.le_refl _) _).alloc (by simp) _
  have HR1 := Lib.hid hr1
  have HR2 := Lib.hid hr2
  have HB0 := Lib.hid hb0
  clear ht1 ht2 htz hat1 hat2 hr1 hr2 hb0
  go_enter Try.func11, Try.ntmps11
  go_upto_region 1 with (fail)
  try rw [World.size_alloc]
  generalize hV : World.alloc (World.alloc w _) _ = V at HR1 HR2 HB0 ⊢
  clear hV
  go_wp2_with fail
  refine (alive8_any V).mono ?_
  rintro e w1 ⟨rfl, hb1⟩
  have HP1 := Lib.hid (row_on HR1.out hb1)
  have HQ1 := Lib.hid (row_on HR2.out hb1)
  have HB1 := Lib.hid (chain HB0.out hb1)
  clear hb1 HR1 HR2 HB0
  have hlp := (Array.getElem?_eq_some_iff.1 HP1.out).1
  obtain ⟨_, p0, p1, p2⟩ := facts3 HP1.out
  have hrp := range3o p0 p1 p2
  go_wp2_with fail
  refine (HG1.out w1 HB1.out).mono ?_
  rintro e w2 ⟨g1, rfl, hgt1, hb2⟩
  have HP2 := Lib.hid (row_on HP1.out hb2)
  have HQ2 := Lib.hid (row_on HQ1.out hb2)
  have HB2 := Lib.hid (chain HB1.out hb2)
  clear hb2 HP1 HQ1 HG1 HB1
  clear hlp p0 p1 p2 hrp
  cases g1 with
  | true =>
    clear hgt1
    go_wp2_with fail
    go_ret
    exact ⟨rfl, HB2.out⟩
  | false =>
    have hlq := (Array.getElem?_eq_some_iff.1 HQ2.out).1
    obtain ⟨_, q0, q1, q2⟩ := facts3 HQ2.out
    have hrq := range3o q0 q1 q2
    go_wp2_with fail
    refine (HG2.out w2 HB2.out).mono ?_
    rintro e w3 ⟨g2, rfl, hgt2, hb3⟩
    have HP3 := Lib.hid (row_on HP2.out hb3)
    have HQ3 := Lib.hid (row_on HQ2.out hb3)
    have HB3 := Lib.hid (chain HB2.out hb3)
    clear hb3 HP2 HQ2 HG2 HB2
    clear hlq q0 q1 q2 hrq
    cases g2 with
    | true =>
      clear hgt1 hgt2
      go_wp2_with fail
      go_ret
      exact ⟨rfl, HB3.out⟩
    | false =>
      have ha := hgt1 (by first | rfl | trivial)
      have hb := hgt2 (by first | rfl | trivial)
      have HE1a := Lib.hid (HE1.out (by omega) (by omega) w3 HB3.out)
      have HE2a := Lib.hid (HE2.out (by omega) (by omega))
      have HSQa := Lib.hid (HSQ.out (fun o ho => by
        rcases List.mem_cons.1 ho with rfl | ho
        · exact ⟨by omega, by omega⟩
        · obtain rfl := List.mem_singleton.1 ho
          exact ⟨by omega, by omega⟩))
      have HCT : RowKit.Hid (cnt (.mk tg [] [o1, o2_]) ≤ 900000 ∧ tot (.mk tg [] [o1, o2_]) ≤ 400000) := Lib.hid (by
        rw [cnt, cnts, cnts, cnts, tot, tots, tots, tots, List.length_nil]
        omega)
      clear hgt1 hgt2 ha hb HE1 HE2 HSQ
      have hlp := (Array.getElem?_eq_some_iff.1 HP3.out).1
      obtain ⟨_, p0, p1, p2⟩ := facts3 HP3.out
      have hrp := range3o p0 p1 p2
      go_wp2_with fail
      refine HE1a.out.mono ?_
      rintro e w4 ⟨hb4, he1⟩
      have HP4 := Lib.hid (row_on HP3.out hb4)
      have HQ4 := Lib.hid (row_on HQ3.out hb4)
      have HB4 := Lib.hid (chain HB3.out hb4)
      clear hb4 HP3 HQ3 HB3 HE1a
      clear hlp p0 p1 p2 hrp
      by_cases hk : ckV (.mk tg [] [o1, o2_]) = 0
      · obtain ⟨hk1, hk2, h128, henc⟩ := join_good tg o1 o2_ hk
        obtain ⟨v7, rfl, hown7⟩ := he1.elim (fun h => h.2) (fun h => absurd hk1 h.1)
        obtain ⟨A7, c7, rfl, hc7, hn7, hs7, _⟩ := own_rd3 hown7
        obtain ⟨M1, hM1⟩ : ∃ M1, (enc o1).length = M1 := ⟨_, rfl⟩
        rw [hM1]
        have HM1 := Lib.hid hM1
        have HN7 := Lib.hid hn7
        have HS74 := Lib.hid hs7
        have HK2 := Lib.hid hk2
        have HK := Lib.hid hk
        have HEN := Lib.hid henc
        have hz128 : ¬ tz < 128 := by have := HTZ.out; omega
        have HZ128 := Lib.hid hz128
        have HE2b := Lib.hid (HE2a.out w4 HB4.out)
        clear he1 hown7 hc7 hn7 hs7 hk1 hk2 h128 hM1 hk henc hz128 HE2a
        have hlq := (Array.getElem?_eq_some_iff.1 HQ4.out).1
        obtain ⟨_, q0, q1, q2⟩ := facts3 HQ4.out
        have hrq := range3o q0 q1 q2
        go_wp2_with fail
        refine HE2b.out.mono ?_
        rintro e w5 ⟨hb5, he2⟩
        obtain ⟨v8, rfl, hown8⟩ := he2.elim (fun h => h.2) (fun h => absurd HK2.out h.1)
        obtain ⟨A8, c8, rfl, hc8, hn8, hs8, _⟩ := own_rd3 hown8
        obtain ⟨M2, hM2⟩ : ∃ M2, (enc o2_).length = M2 := ⟨_, rfl⟩
        rw [hM2]
        have HM2 := Lib.hid hM2
        have HN8 := Lib.hid hn8
        have HS85 := Lib.hid hs8
        have HS75 := Lib.hid (HS74.out.on hb5)
        have HP5 := Lib.hid (row_on HP4.out hb5)
        have HQ5 := Lib.hid (row_on HQ4.out hb5)
        have HB5 := Lib.hid (chain HB4.out hb5)
        clear hb5 he2 hown8 hc8 hn8 hs8 hM2 HP4 HQ4 HB4 HE2b HS74
        clear hlq q0 q1 q2 hrq
        have hlp := (Array.getElem?_eq_some_iff.1 HP5.out).1
        obtain ⟨_, p0, p1, p2⟩ := facts3 HP5.out
        have hrp := range3o p0 p1 p2
        have hlq := (Array.getElem?_eq_some_iff.1 HQ5.out).1
        obtain ⟨_, q0, q1, q2⟩ := facts3 HQ5.out
        have hrq := range3o q0 q1 q2
        go_wp2_with fail
        generalize hV : World.alloc w5 _ = w6
        have hb6 : Below w5.heap.size w5 w6 := by rw [← hV]; exact below_new _ _
        have hr6 : w6.heap[w5.heap.size]? = some (.cells #[.int .u8 t1, .slice A1 m1 c1, .slice B1 n1 d1, .int .u8 t2, .slice A2 m2 c2, .slice B2 n2 d2] 28 (0, 0)) := by rw [← hV]; exact heap_alloc_new _ _
        rw [← HT1.out, ← HT2.out] at hr6
        have HB6 := Lib.hid (chain HB5.out hb6)
        have HS76 := Lib.hid (HS75.out.on hb6)
        have HS86 := Lib.hid (HS85.out.on hb6)
        have hsq := HSQa.out w6 _ 2 _ _ _ _ (two_els2 (HA1.out.on HB6.out) (HA2.out.on HB6.out) hr6)
        have HSQ6 := Lib.hid hsq
        clear hV hb6 hr6 hsq HSQa HP5 HQ5 HB5 HS75 HS85
        clear hlp p0 p1 p2 hrp
        clear hlq q0 q1 q2 hrq
        refine HSQ6.out.mono ?_
        rintro e w7 ⟨x7, y7, rfl, hat7, hb7⟩
        have HEN7 := Lib.hid (encode_any _ HCT.out.1 HCT.out.2 w7 _ _ hat7.any)
        unfold EncPost cell3 at HEN7
        dsimp only [tagO] at HEN7
        rw [HTZ.out] at HEN7
        obtain ⟨A6, m6, c6, B6, n6, d6, rfl, rfl⟩ := hat7.slices
        unfold cell3
        dsimp only [tagO]
        rw [HTZ.out]
        have HB7 := Lib.hid (chain HB6.out hb7)
        have HS77 := Lib.hid (HS76.out.on hb7)
        have HS87 := Lib.hid (HS86.out.on hb7)
        clear hat7 hb7 HSQ6 HB6 HS76 HS86 HA1 HA2
        go_wp2_with fail
        refine HEN7.out.mono ?_
        rintro e w8 ⟨hb8, he8⟩
        obtain ⟨v9, rfl, hown9⟩ := he8.elim (fun h => h.2) (fun h => absurd HK.out h.1)
        have hlen : (enc (.mk tg [] [o1, o2_])).length = 1 + (lenb (M1 + M2)).length + (M1 + M2) := by
          rw [HEN.out, List.length_append, List.length_cons, List.length_append, HM1.out, HM2.out]
          omega
        obtain ⟨A9, c9, rfl, hc9, hn9, hs9, _⟩ := own_rd3 hown9
        have hg := ((ckV_good _).1 HK.out).2.2.2
        have hlp := lenb_pos (M1 + M2)
        have hl4 := lenb_le (M1 + M2)
        obtain ⟨L, hL⟩ : ∃ L, (lenb (M1 + M2)).length = L := ⟨_, rfl⟩
        rw [hL] at hlen hlp hl4
        have HCC : RowKit.Hid (1 + L + (M1 + M2) ≤ c9 ∧ (enc (.mk tg [] [o1, o2_])).length = 1 + L + (M1 + M2)) := Lib.hid ⟨by omega, hlen⟩
        have HMB : RowKit.Hid (M1 + M2 ≤ 65536) := Lib.hid (by omega)
        have h0 := hs9 (by intro e; rw [e] at hlen; simp at hlen; omega)
        obtain ⟨g9, o9, rfl, hcell⟩ := h0
        have hc0 : w8.cell? ⟨g9, o9, none⟩ = some (.int .u8 tz) := by
          have h1 := hcell 0 tg (by rw [HEN.out]; rfl)
          rw [HTZ.out] at h1
          exact h1
        have HB8 := Lib.hid (chain HB7.out hb8)
        have HS7 := Lib.hid (HS77.out.on hb8)
        have HS8 := Lib.hid (HS87.out.on hb8)
        have HS9 := Lib.hid hs9
        have hmb := HMB.out
        have hz128 := HZ128.out
        rw [hlen]
        have hneq : (tz != tz) = false := by simp
        clear hb8 he8 hown9 hc9 hn9 hs9 hcell hg HS77 HS87 HB7 HEN7 hlen hL
        go_wp2_with fail
        obtain ⟨U, hU⟩ : ∃ U, w8.drew = U := ⟨_, rfl⟩
        have hbU : Below w8.heap.size w8 U := by rw [← hU]; exact (Below.refl _ _).drew
        have HBU := Lib.hid (chain HB8.out hbU)
        replace HS7 := Lib.hid (HS7.out.on hbU)
        replace HS8 := Lib.hid (HS8.out.on hbU)
        replace HS9 := Lib.hid (HS9.out.on hbU)
        have HMP : RowKit.Hid (2 ≤ M1) := Lib.hid (by rw [← HM1.out]; exact enc_pos o1)
        have HL12 : RowKit.Hid ((enc o1 ++ enc o2_).length = M1 + M2) := Lib.hid (by rw [List.length_append, HM1.out, HM2.out])
        have HSD : RowKit.Hid (SrcAt (some ⟨g9, o9 + (1 + L), none⟩) (enc o1 ++ enc o2_) U) := Lib.hid (by
          have h1 := srcAt_drop HS9.out (1 + L)
          have h2 : (enc (.mk tg [] [o1, o2_])).drop (1 + L) = enc o1 ++ enc o2_ := by
            have h3 := HCC.out.2
            have h4 := HEN.out
            have h5 := congrArg List.length h4
            rw [h3, List.length_append, HL12.out] at h5
            rw [h4, show 1 + L = (tg :: lenb ((enc o1).length + (enc o2_).length)).length by omega]
            exact List.drop_left
          rw [h2, Option.map_some, add_eq] at h1
          exact h1)
        clear hbU hc0
        refine wp_region_held_drew (S := fun _ => True) (by kernel_rfl) trivial (fun hHeld => ?_)
        rw [hU]
        clear hU
        refine wpAnyH_take (i := 0) (oi := { dst := Option.some 90, op := Go.Op.move (Go.Operand.tmp 7), type := 4, pos := "law.go:215", after := #[], guard := Option.none }) (v := ?_) rfl (by kernel_rfl) (by kernel_rfl) (by kernel_rfl) (fun _ _ _ h => h) (Or.inl ⟨by rfl, ?_⟩) hHeld ?_
        rotate_left
        · intro w hSw
          clear hSw
          go_simp
          try with_reducible rfl
        try simp only [Act.put, List.setIfInBounds_toArray, List.set_cons_zero, List.set_cons_succ]
        refine wpAnyH_take (i := 1) (oi := { dst := Option.some 91, op := Go.Op.move (Go.Operand.tmp 90), type := 4, pos := "law.go:215", after := #[{ on := 0, ground := Go.Ground.data }], guard := Option.none }) (v := ?_) rfl (by kernel_rfl) (by kernel_rfl) (by kernel_rfl) (fun _ _ _ h => h) (Or.inl ⟨by rfl, ?_⟩) hHeld ?_
        rotate_left
        · intro w hSw
          clear hSw
          go_simp
          try with_reducible rfl
        try simp only [Act.put, List.setIfInBounds_toArray, List.set_cons_zero, List.set_cons_succ]
        refine wpAnyH_take (i := 2) (oi := { dst := Option.some 92, op := Go.Op.move (Go.Operand.tmp 12), type := 22, pos := "law.go:215", after := #[{ on := 1, ground := Go.Ground.guard }], guard := Option.some (1, Bool.true) }) (v := ?_) rfl (by kernel_rfl) (by kernel_rfl) (by kernel_rfl) (fun _ _ _ h => h) (Or.inl ⟨by rfl, ?_⟩) hHeld ?_
        rotate_left
        · intro w hSw
          clear hSw
          go_simp
          try with_reducible rfl
        try simp only [Act.put, List.setIfInBounds_toArray, List.set_cons_zero, List.set_cons_succ]
        refine wpAnyH_take (i := 3) (oi := { dst := Option.some 93, op := Go.Op.move (Go.Operand.tmp 12), type := 22, pos := "law.go:215", after := #[{ on := 1, ground := Go.Ground.guard }], guard := Option.some (1, Bool.true) }) (v := ?_) rfl (by kernel_rfl) (by kernel_rfl) (by kernel_rfl) (fun _ _ _ h => h) (Or.inl ⟨by rfl, ?_⟩) hHeld ?_
        rotate_left
        · intro w hSw
          clear hSw
          go_simp
          try with_reducible rfl
        try simp only [Act.put, List.setIfInBounds_toArray, List.set_cons_zero, List.set_cons_succ]
        refine wpAnyH_take (i := 4) (oi := { dst := Option.some 94, op := Go.Op.call { callee := Go.Callee.builtin Go.Builtin.len, args := #[Go.Operand.tmp 93], argTypes := #[22] }, type := 3, pos := "law.go:215", after := #[{ on := 3, ground := Go.Ground.data }, { on := 1, ground := Go.Ground.guard }], guard := Option.some (1, Bool.true) }) (v := ?_) rfl (by kernel_rfl) (by kernel_rfl) (by kernel_rfl) (fun _ _ _ h => h) (Or.inl ⟨by rfl, ?_⟩) hHeld ?_
        rotate_left
        · intro w hSw
          clear hSw
          go_simp
          try with_reducible rfl
        try simp only [Act.put, List.setIfInBounds_toArray, List.set_cons_zero, List.set_cons_succ]
        refine wpAnyH_take (i := 5) (oi := { dst := Option.some 95, op := Go.Op.move (Go.Operand.tmp 14), type := 3, pos := "law.go:215", after := #[{ on := 1, ground := Go.Ground.guard }], guard := Option.some (1, Bool.true) }) (v := ?_) rfl (by kernel_rfl) (by kernel_rfl) (by kernel_rfl) (fun _ _ _ h => h) (Or.inl ⟨by rfl, ?_⟩) hHeld ?_
        rotate_left
        · intro w hSw
          clear hSw
          go_simp
          try with_reducible rfl
        try simp only [Act.put, List.setIfInBounds_toArray, List.set_cons_zero, List.set_cons_succ]
        refine wpAnyH_take (i := 6) (oi := { dst := Option.some 96, op := Go.Op.binOp Go.BinOp.sub 3 (Go.Operand.tmp 94) (Go.Operand.tmp 95) 3, type := 3, pos := "law.go:215", after := #[{ on := 4, ground := Go.Ground.data }, { on := 5, ground := Go.Ground.data }, { on := 1, ground := Go.Ground.guard }], guard := Option.some (1, Bool.true) }) (v := .int .i64 ((1 + L : Nat) : Int)) rfl (by kernel_rfl) (by kernel_rfl) (by kernel_rfl) (fun _ _ _ h => h) (Or.inl ⟨by rfl, ?_⟩) hHeld ?_
        · intro w hSw
          clear hSw
          go_simp
          simp [IntKind.wrap, IntKind.signed, IntKind.bits]
          omega
        try simp only [Act.put, List.setIfInBounds_toArray, List.set_cons_zero, List.set_cons_succ]
        refine wpAnyH_take (i := 7) (oi := { dst := Option.some 97, op := Go.Op.slice 22 (Go.Operand.tmp 92) (Option.some (Go.Operand.tmp 96)) Option.none Option.none, type := 22, pos := "law.go:215", after := #[{ on := 2, ground := Go.Ground.data }, { on := 6, ground := Go.Ground.data }, { on := 1, ground := Go.Ground.guard }], guard := Option.some (1, Bool.true) }) (v := .slice (some ⟨g9, o9 + (1 + L), none⟩) (M1 + M2) (c9 - (1 + L))) rfl (by kernel_rfl) (by kernel_rfl) (by kernel_rfl) (fun _ _ _ h => h) (Or.inl ⟨by rfl, ?_⟩) hHeld ?_
        · intro w hSw
          clear hSw
          go_simp
          have e1 : (1 + (L : Int)).toNat = 1 + L := by omega
          have hcc := HCC.out.1
          have hmp := HMP.out
          rw [if_pos ⟨by omega, by omega⟩, e1, if_neg (by omega), show 1 + L + (M1 + M2) - (1 + L) = M1 + M2 by omega]
        try simp only [Act.put, List.setIfInBounds_toArray, List.set_cons_zero, List.set_cons_succ]
        refine wpAnyH_take (i := 9) (oi := { dst := Option.some 99, op := Go.Op.move (Go.Operand.tmp 8), type := 22, pos := "law.go:215", after := #[{ on := 1, ground := Go.Ground.guard }], guard := Option.some (1, Bool.true) }) (v := ?_) rfl (by kernel_rfl) (by kernel_rfl) (by kernel_rfl) (fun _ _ _ h => h) (Or.inl ⟨by rfl, ?_⟩) hHeld ?_
        rotate_left
        · intro w hSw
          clear hSw
          go_simp
          try with_reducible rfl
        try simp only [Act.put, List.setIfInBounds_toArray, List.set_cons_zero, List.set_cons_succ]
        refine wpAnyH_take (i := 11) (oi := { dst := Option.some 101, op := Go.Op.move (Go.Operand.tmp 10), type := 22, pos := "law.go:215", after := #[{ on := 1, ground := Go.Ground.guard }], guard := Option.some (1, Bool.true) }) (v := ?_) rfl (by kernel_rfl) (by kernel_rfl) (by kernel_rfl) (fun _ _ _ h => h) (Or.inl ⟨by rfl, ?_⟩) hHeld ?_
        rotate_left
        · intro w hSw
          clear hSw
          go_simp
          try with_reducible rfl
        try simp only [Act.put, List.setIfInBounds_toArray, List.set_cons_zero, List.set_cons_succ]
        refine wpAnyH_ready (rs := [8]) (by kernel_rfl) (by simp) (AllReadyH.cons (o := { dst := Option.some 98, op := Go.Op.buildSlice 22 0 #[], type := 22, pos := "law.go:215", after := #[{ on := 1, ground := Go.Ground.guard }], guard := Option.some (1, Bool.true) }) rfl (fun K hK => ?_) AllReadyH.nil)
        go_simp
        generalize hq : World.alloc U _ = z1
        have hb1 : Below U.heap.size U z1 := by rw [← hq]; exact below_new _ _
        have hr1 : z1.heap[U.heap.size]? = some (.cells #[] 5 (0, 0)) := by rw [← hq]; exact heap_alloc_new _ _
        clear hq
        refine hK.out _ _ trivial (fun hHeld2 => ?_)
        clear hK K hHeld
        have hHeld := hHeld2
        clear hHeld2
        try simp only [Act.put, List.setIfInBounds_toArray, List.set_cons_zero, List.set_cons_succ]
        refine wpAnyH_ready (rs := [10]) (by kernel_rfl) (by simp) (AllReadyH.cons (o := { dst := Option.some 100, op := Go.Op.call { callee := Go.Callee.builtin Go.Builtin.append, args := #[Go.Operand.tmp 98, Go.Operand.tmp 99], argTypes := #[22, 22] }, type := 22, pos := "law.go:215", after := #[{ on := 8, ground := Go.Ground.data }, { on := 9, ground := Go.Ground.data }, { on := 1, ground := Go.Ground.chain }, { on := 1, ground := Go.Ground.guard }], guard := Option.some (1, Bool.true) }) rfl (fun K hK => ?_) AllReadyH.nil)
        try rw [if_pos (by rfl)]
        refine wp_append_src (.tmp 98) (.tmp 99) rfl U.heap.size (.slice (some ⟨U.heap.size, 0, none⟩) 0 0) 0 [] rfl (own_empty8 hr1 (Nat.le_refl _)) A7 (enc o1) c7 M1 HM1.out rfl HN7.out (HS7.out.on hb1) (by have := HMB.out; omega) hb1.size ?_
        intro v2 z2 o2 g2 l2
        have hb2 : Below U.heap.size U z2 := hb1.grown g2 hb1.size (fun j hj => by have := (own_empty8 hr1 (Nat.le_refl _)).lt j hj; omega)
        refine hK.out _ _ trivial (fun hHeld2 => ?_)
        clear hK K hHeld
        have hHeld := hHeld2
        clear hHeld2
        try simp only [Act.put, List.setIfInBounds_toArray, List.set_cons_zero, List.set_cons_succ]
        refine wpAnyH_ready (rs := [12]) (by kernel_rfl) (by simp) (AllReadyH.cons (o := { dst := Option.some 102, op := Go.Op.call { callee := Go.Callee.builtin Go.Builtin.append, args := #[Go.Operand.tmp 100, Go.Operand.tmp 101], argTypes := #[22, 22] }, type := 22, pos := "law.go:215", after := #[{ on := 10, ground := Go.Ground.data }, { on := 11, ground := Go.Ground.data }, { on := 10, ground := Go.Ground.chain }, { on := 1, ground := Go.Ground.guard }], guard := Option.some (1, Bool.true) }) rfl (fun K hK => ?_) AllReadyH.nil)
        try rw [if_pos (by rfl)]
        refine wp_append_src (.tmp 100) (.tmp 101) rfl U.heap.size v2 _ _ rfl o2 A8 (enc o2_) c8 M2 HM2.out rfl HN8.out (HS8.out.on hb2) (by have := HMB.out; omega) hb2.size ?_
        intro v3 z3 o3 g3 l3
        have hb3 : Below U.heap.size U z3 := hb2.grown g3 hb2.size (fun j hj => by have := (o2.lt j hj).1; omega)
        rw [List.nil_append, ← bvals_app, show 0 + M1 + M2 = (enc o1 ++ enc o2_).length by rw [List.length_append, HM1.out, HM2.out]; omega] at o3
        obtain ⟨A3, c3, rfl, hc3, _, hs3, _⟩ := own_rd3 o3
        rw [HL12.out]
        refine hK.out _ _ trivial (fun hHeld2 => ?_)
        clear hK K hHeld
        have hHeld := hHeld2
        clear hHeld2
        try simp only [Act.put, List.setIfInBounds_toArray, List.set_cons_zero, List.set_cons_succ]
        refine wpAnyH_ready (rs := [13]) (by kernel_rfl) (by simp) (AllReadyH.cons (o := { dst := Option.some 103, op := Go.Op.call { callee := Go.Callee.value (Go.Operand.func 33), args := #[Go.Operand.tmp 97, Go.Operand.tmp 102], argTypes := #[22, 22] }, type := 4, pos := "law.go:215", after := #[{ on := 7, ground := Go.Ground.data }, { on := 12, ground := Go.Ground.data }, { on := 12, ground := Go.Ground.chain }, { on := 1, ground := Go.Ground.guard }], guard := Option.some (1, Bool.true) }) rfl (fun K hK => ?_) AllReadyH.nil)
        go_simp
        have hsm := samebytes_eq (enc o1 ++ enc o2_) (some ⟨g9, o9 + (1 + L), none⟩) A3 (c9 - (1 + L)) c3 (by rw [HL12.out]; have := HMB.out; omega) (by rw [HL12.out]; have := HCC.out.1; omega) hc3 z3 (HSD.out.on hb3) hs3
        rw [HL12.out] at hsm
        refine hsm.mono ?_
        rintro e z4 ⟨rfl, q, rfl⟩
        go_simp
        refine hK.out _ _ trivial (fun hHeld2 => ?_)
        clear hK K hHeld
        have hHeld := hHeld2
        clear hHeld2
        try simp only [Act.put, List.setIfInBounds_toArray, List.set_cons_zero, List.set_cons_succ]
        refine wpAnyH_take (i := 14) (oi := { dst := Option.some 104, op := Go.Op.pick (Go.Operand.tmp 91) (Go.Operand.tmp 103) (Go.Operand.const (Go.Value.bool Bool.false)), type := 4, pos := "law.go:215", after := #[{ on := 1, ground := Go.Ground.data }, { on := 13, ground := Go.Ground.data }], guard := Option.none }) (v := ?_) rfl (by kernel_rfl) (by kernel_rfl) (by kernel_rfl) (fun _ _ _ h => h) (Or.inl ⟨by rfl, ?_⟩) hHeld ?_
        rotate_left
        · intro w hSw
          clear hSw
          go_simp
          try with_reducible rfl
        try simp only [Act.put, List.setIfInBounds_toArray, List.set_cons_zero, List.set_cons_succ]
        refine wpAnyH_take (i := 15) (oi := { dst := Option.some 6, op := Go.Op.assign (Go.Operand.tmp 104), type := 4, pos := "law.go:215", after := #[{ on := 14, ground := Go.Ground.data }, { on := 13, ground := Go.Ground.chain }, { on := 0, ground := Go.Ground.phase }, { on := 1, ground := Go.Ground.phase }, { on := 2, ground := Go.Ground.phase }, { on := 3, ground := Go.Ground.phase }, { on := 4, ground := Go.Ground.phase }, { on := 5, ground := Go.Ground.phase }, { on := 6, ground := Go.Ground.phase }, { on := 7, ground := Go.Ground.phase }, { on := 8, ground := Go.Ground.phase }, { on := 9, ground := Go.Ground.phase }, { on := 10, ground := Go.Ground.phase }, { on := 11, ground := Go.Ground.phase }, { on := 12, ground := Go.Ground.phase }, { on := 13, ground := Go.Ground.phase }, { on := 14, ground := Go.Ground.phase }], guard := Option.none }) (v := ?_) rfl (by kernel_rfl) (by kernel_rfl) (by kernel_rfl) (fun _ _ _ h => h) (Or.inl ⟨by rfl, ?_⟩) hHeld ?_
        rotate_left
        · intro w hSw
          clear hSw
          go_simp
          try with_reducible rfl
        try simp only [Act.put, List.setIfInBounds_toArray, List.set_cons_zero, List.set_cons_succ]
        refine wpAnyH_done (by kernel_rfl) ?_ _
        go_wp2_with fail
        go_ret
        exact ⟨rfl, below_drewN (HBU.out.trans (hb3.mono HBU.out.size)) q⟩
      · obtain ⟨v7, E7, rfl⟩ : ∃ v E, e = .returned (.tuple #[v, .int .i64 E]) := he1.elim (fun ⟨_, v, h, _⟩ => ⟨v, 0, h⟩) (fun h => ⟨_, _, h.2⟩)
        have HE2b := Lib.hid (HE2a.out w4 HB4.out)
        have HK := Lib.hid hk
        clear he1 hk HE2a
        have hlq := (Array.getElem?_eq_some_iff.1 HQ4.out).1
        obtain ⟨_, q0, q1, q2⟩ := facts3 HQ4.out
        have hrq := range3o q0 q1 q2
        go_wp2_with fail
        refine HE2b.out.mono ?_
        rintro e w5 ⟨hb5, he2⟩
        obtain ⟨v8, E8, rfl⟩ : ∃ v E, e = .returned (.tuple #[v, .int .i64 E]) := he2.elim (fun ⟨_, v, h, _⟩ => ⟨v, 0, h⟩) (fun h => ⟨_, _, h.2⟩)
        have HP5 := Lib.hid (row_on HP4.out hb5)
        have HQ5 := Lib.hid (row_on HQ4.out hb5)
        have HB5 := Lib.hid (chain HB4.out hb5)
        clear hb5 he2 HP4 HQ4 HB4 HE2b hlq q0 q1 q2 hrq
        have hlp := (Array.getElem?_eq_some_iff.1 HP5.out).1
        obtain ⟨_, p0, p1, p2⟩ := facts3 HP5.out
        have hrp := range3o p0 p1 p2
        have hlq := (Array.getElem?_eq_some_iff.1 HQ5.out).1
        obtain ⟨_, q0, q1, q2⟩ := facts3 HQ5.out
        have hrq := range3o q0 q1 q2
        go_wp2_with fail
        generalize hV : World.alloc w5 _ = w6
        have hb6 : Below w5.heap.size w5 w6 := by rw [← hV]; exact below_new _ _
        have hr6 : w6.heap[w5.heap.size]? = some (.cells #[.int .u8 t1, .slice A1 m1 c1, .slice B1 n1 d1, .int .u8 t2, .slice A2 m2 c2, .slice B2 n2 d2] 28 (0, 0)) := by rw [← hV]; exact heap_alloc_new _ _
        rw [← HT1.out, ← HT2.out] at hr6
        have HB6 := Lib.hid (chain HB5.out hb6)
        have hsq := HSQa.out w6 _ 2 _ _ _ _ (two_els2 (HA1.out.on HB6.out) (HA2.out.on HB6.out) hr6)
        have HSQ6 := Lib.hid hsq
        clear hV hb6 hr6 hsq HSQa HP5 HQ5 HB5 hlp p0 p1 p2 hrp hlq q0 q1 q2 hrq
        refine HSQ6.out.mono ?_
        rintro e w7 ⟨x7, y7, rfl, hat7, hb7⟩
        have HEN7 := Lib.hid (encode_any _ HCT.out.1 HCT.out.2 w7 _ _ hat7.any)
        unfold EncPost cell3 at HEN7
        dsimp only [tagO] at HEN7
        rw [HTZ.out] at HEN7
        obtain ⟨A6, m6, c6, B6, n6, d6, rfl, rfl⟩ := hat7.slices
        unfold cell3
        dsimp only [tagO]
        rw [HTZ.out]
        have HB7 := Lib.hid (chain HB6.out hb7)
        clear hat7 hb7 HSQ6 HB6 HA1 HA2
        go_wp2_with fail
        refine HEN7.out.mono ?_
        rintro e w8 ⟨hb8, he8⟩
        obtain rfl := he8.elim (fun h => absurd h.1 HK.out) (fun h => h.2)
        have HB8 := Lib.hid (chain HB7.out hb8)
        obtain ⟨E9, hE9⟩ : ∃ E9, ckV (.mk tg [] [o1, o2_]) = E9 := ⟨_, rfl⟩
        have hk9 := HK.out
        rw [hE9] at hk9 ⊢
        have hki : ((E9 : Int) != 0) = true := by simp [hk9]
        clear hb8 he8 HB7 HEN7 hE9 hk9
        go_wp2_with fail
        go_ret
        exact ⟨rfl, HB8.out⟩
/-! The row -/
set_option maxRecDepth 100000 in
theorem joins8_lifted (os : Os) (started : os.Started) (H : Type) (enc : TypeId × Value → H) :
    ReturnsInHanded {} Try.checked os 11 .any (Rows.octetJoinsSpec.pre6 enc Try.prog Try.f11 Rows.octetJoinsRow.domain false) (Rows.octetJoinsSpec.post enc Try.prog Try.f11 false true false false) := by
  refine sized_of_change (C := Try.checked) Try.own started (by kernel_rfl) Try.func11 rfl
    (ChangeSpec.witness6 (enc := enc) (C := Try.checked) false ⟨#[], #[.int .u8 0, .agg #[.int .u8 0, .slice none 0 0, .slice none 0 0], .agg #[.int .u8 0, .slice none 0 0, .slice none 0 0]], []⟩ 8 (by kernel_rfl) (by kernel_rfl) (by kernel_rfl) (by kernel_rfl)) ?_
  intro W base args ds gs before hval0 hW hwts
  have hval : ∀ (j : Nat) t v, Try.f11.params[j]? = some t → args[j]? = some v → Value.okWide Try.prog W .any base t v := hval0
  have hW' := hW
  obtain ⟨p, q, hA0, hV, rfl, hfz, hnd⟩ := hW
  have hA : DataW.TrodAll enc Try.prog W 0 (fun _ => true) true Try.f11.params.toList args.toList ds p := hA0
  have hwt : ∀ n ∈ DataW.weightsEach Try.prog Try.f11.params.toList ds, n ≤ 140737488355328 := hwts
  rw [Try.params11] at hA hval hwt
  obtain ⟨v0, vs0, d0, ds0, p0, q0, hargs, rfl, rfl, h0, r0⟩ := trodAll_cons hA
  obtain ⟨v1, vs1, d1, ds1, p1, q1, rfl, rfl, rfl, h1, r1⟩ := trodAll_cons r0
  obtain ⟨v2, vs2, d2, ds2, p2, q2, rfl, rfl, rfl, h2, r2⟩ := trodAll_cons r1
  obtain ⟨rfl, rfl, rfl⟩ := trodAll_nil r2
  obtain rfl : args = #[v0, v1, v2] := by cases args; simp_all
  obtain ⟨rfl, rfl⟩ := trodVars_none hV
  obtain ⟨z0, rfl, e0, f0, g0⟩ := open_int Try.underlying5 (hval 0 5 v0 rfl rfl) h0
  have b0 := bounds_u8 g0
  obtain ⟨tg0, rfl⟩ : ∃ tg : UInt8, ((tg.toNat : Nat) : Int) = z0 := ⟨UInt8.ofNat z0.toNat, by rw [UInt8.toNat_ofNat']; omega⟩
  obtain ⟨o1, x1, y1, rfl, hat1⟩ := open_oct (hval 1 28 v1 rfl rfl) h1 (fun n hn => hwt n (List.mem_append_right _ (List.mem_append_left _ hn)))
  obtain ⟨o2, x2, y2, rfl, hat2⟩ := open_oct (hval 2 28 v2 rfl rfl) h2 (fun n hn => hwt n (List.mem_append_right _ (List.mem_append_right _ (List.mem_append_left _ hn))))
  refine (joins_true W tg0 o1 x1 y1 hat1 o2 x2 y2 hat2).mono fun e W' ⟨he, hg⟩ => ?_
  subst he
  exact ⟨_, rfl, law_post Try.laidOut (by kernel_rfl) (by kernel_rfl) hW' hg (trodAll_cons_mk (shut_bool Try.underlying4 _) trodAll_mk0) rfl rfl⟩

/-- the statement -/
theorem joins8_holds : Rows.OctetJoinsSaid :=
  OpenClaim.holds_of_wide 11 Try.f11 rfl rfl rfl rfl rfl rfl rfl ⟨rfl, rfl, rfl, rfl, rfl⟩ rfl rfl rfl rfl rfl (by kernel_rfl) Try.func11 (by kernel_rfl)
    (of_decide_eq_true (by kernel_rfl)) (by unfold Func.isWrapper; rw [if_neg (of_decide_eq_false (by kernel_rfl))]; exact ⟨rfl, rfl⟩)
    (fun os started H enc _ => joins8_lifted os started H enc)
#print axioms joins8_holds
end Go.Proofs.Ytlbchefdkdngnaa
