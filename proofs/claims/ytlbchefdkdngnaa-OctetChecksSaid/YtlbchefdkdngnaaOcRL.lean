/-
  THE WALKS over layer 8: the program's Same at any two values. Written by wip/gen-oc22.py.
-/
import Derived.Test.YtlbchefdkdngnaaOcRK
namespace Go.Proofs.Ytlbchefdkdngnaa
open Go.RowKit Sha Oc
set_option linter.unusedVariables false
set_option linter.unusedSimpArgs false
theorem bytes_equal (b b' : List UInt8) (A A' : Option Addr) (c c' : Nat) (hcn : A = none → c = 0) (hcn' : A' = none → c' = 0) (w : World) (hs : SrcAt A b w) (hs' : SrcAt A' b' w) :
    Calls Try.prog 57 #[.slice A b.length c, .slice A' b'.length c'] w fun e w' => e = .returned (.bool (decide (b = b'))) ∧ Below w.heap.size w w' := by
  have h1 := conv_back b A c w hcn hs
  have h2 := conv_back b' A' c' w hcn' hs'
  have hd : (b == b') = decide (b = b') := by
    by_cases h : b = b'
    · rw [decide_eq_true h, h]; simp
    · rw [decide_eq_false h]; simp [h]
  obtain ⟨m, hm⟩ : ∃ m, b.length = m := ⟨_, rfl⟩
  obtain ⟨m', hm'⟩ : ∃ m, b'.length = m := ⟨_, rfl⟩
  rw [hm] at h1 ⊢
  rw [hm'] at h2 ⊢
  have HD := Lib.hid hd
  clear hs hs' hcn hcn' hm hm' hd
  go_enter Try.func57, Try.ntmps57
  go_wp2_with fail
  go_ret
  exact ⟨by rw [← HD.out]; rfl, Below.refl _ _⟩
set_option maxRecDepth 100000 in
set_option maxHeartbeats 2000000 in
theorem equalfunc_of (l l' : List Oct) (hlen : l.length ≤ 100000) (hlen' : l'.length ≤ 100000) (hS : ∀ (k : Nat) (o o' : Oct), l[k]? = some o → l'[k]? = some o' → ∀ (V : World) (x y x' y' : Value), At (fun _ => True) V o x y → At (fun _ => True) V o' x' y' → Calls Try.prog 28 #[.agg (cell3 o x y), .agg (cell3 o' x' y')] V (EqPost (eqO o o') V))
    (A B : Option Addr) (c d g1 o1 g2 o2 : Nat) (vb vl vb' vl' : Nat → Value) (V : World) (h1 : Els V A l g1 o1 vb vl) (h2 : Els V B l' g2 o2 vb' vl') : Calls Try.prog 58 #[.slice A l.length c, .slice B l'.length d, .func (.func 28) #[] #[]] V (EqPost (eqOs l l') V) := by
  obtain ⟨n, hn⟩ : ∃ n, l.length = n := ⟨_, rfl⟩
  obtain ⟨n', hn'⟩ : ∃ n, l'.length = n := ⟨_, rfl⟩
  have HSS := Lib.hid hS
  have H1 := Lib.hid h1
  have H2 := Lib.hid h2
  have HN := Lib.hid hn
  have HN' := Lib.hid hn'
  rw [hn] at hlen ⊢
  rw [hn'] at hlen' ⊢
  clear hS h1 h2
  unfold EqPost
  by_cases hnn : n = n'
  · subst hnn
    have hni : ((n : Int) != (n : Int)) = false := by simp
    have HL := Lib.hid hlen
    clear hn hn' hlen hlen'
    go_enter Try.func58, Try.ntmps58
    go_wp2_with fail
    go_loopw [7, 8, 9, 17] (fun _ _ _ i wr => ∃ k : Nat, k ≤ n ∧ i = .int .i64 (k : Int) ∧ RowKit.Hid (eqOs (l.take k) (l'.take k) = true) ∧ RowKit.Hid (Below V.heap.size V wr)) (fun _ _ _ i _ => n - (intOf i).toNat)
    case atStart => exact ⟨0, by omega, rfl, Lib.hid (by rw [List.take_zero, List.take_zero, eqOs]), Lib.hid (Below.refl _ _)⟩
    case round =>
      obtain ⟨k, hk, rfl, HT, HB⟩ := hrel
      by_cases hlt : k < n
      · have hki : (k : Int) < (n : Int) := by omega
        have hh5 := HL.out
        obtain ⟨o, ho⟩ : ∃ o, l[k]? = some o := ⟨_, List.getElem?_eq_getElem (by rw [HN.out]; exact hlt)⟩
        obtain ⟨o', ho'⟩ : ∃ o, l'[k]? = some o := ⟨_, List.getElem?_eq_getElem (by rw [HN'.out]; exact hlt)⟩
        have hA1 := H1.out.hB (fun e => by rw [e] at ho; simp at ho)
        have hB1 := H2.out.hB (fun e => by rw [e] at ho'; simp at ho')
        subst hA1
        subst hB1
        have e1 := H1.out.on HB.out
        have e2 := H2.out.on HB.out
        have hat1 := e1.hr k o ho
        have hat2 := e2.hr k o' ho'
        have p0 := e1.h0 k o ho
        have p1 := e1.h1 k o ho
        have p2 := e1.h2 k o ho
        obtain ⟨A1, m1, c1, B1, n1, d1, u1, u2⟩ := hat1.slices
        obtain ⟨A2, m2, c2, B2, n2, d2, u3, u4⟩ := hat2.slices
        rw [u1] at p1 hat1
        rw [u2] at p2 hat1
        have hq : ∀ (U : World), Below wr.heap.size wr U → U.cell? ⟨g2, o2 + k * 3, none⟩ = some (.int .u8 ((tagO o').toNat : Int)) ∧ U.cell? ⟨g2, o2 + k * 3 + 1, none⟩ = some (.slice A2 m2 c2) ∧ U.cell? ⟨g2, o2 + k * 3 + 2, none⟩ = some (.slice B2 n2 d2) :=
          fun U hb => ⟨(e2.on hb).h0 k o' ho', by rw [← u3]; exact (e2.on hb).h1 k o' ho', by rw [← u4]; exact (e2.on hb).h2 k o' ho'⟩
        rw [u3, u4] at hat2
        have hcall := fun (U : World) (hb : Below wr.heap.size wr U) => HSS.out k o o' ho ho' U _ _ _ _ (hat1.on hb) (hat2.on hb)
        unfold EqPost cell3 at hcall
        obtain ⟨t1, ht1⟩ : ∃ t : Int, ((tagO o).toNat : Int) = t := ⟨_, rfl⟩
        obtain ⟨t2, ht2⟩ : ∃ t : Int, ((tagO o').toNat : Int) = t := ⟨_, rfl⟩
        rw [ht1] at p0 hcall
        rw [ht2] at hq hcall
        obtain ⟨eb, heb⟩ : ∃ eb, eqO o o' = eb := ⟨_, rfl⟩
        rw [heb] at hcall
        have HEB := Lib.hid heb
        have HTK : RowKit.Hid (eqOs (l.take (k + 1)) (l'.take (k + 1)) = eb) := Lib.hid (by rw [List.take_add_one, List.take_add_one, ho, ho', ← heb]; exact eqOs_snoc _ _ _ _ HT.out)
        have HNO : RowKit.Hid (eb = false → eqOs l l' = false) := Lib.hid (fun e => eqOs_no l l' k o o' ho ho' (by rw [heb, e]))
        have HQ := Lib.hid hq
        have HCALL := Lib.hid hcall
        have HLT := Lib.hid hlt
        have HRW1 := Lib.hid (heap_alloc_new wr (.cells #[.int .u8 t1, .slice A1 m1 c1, .slice B1 n1 d1] 28))
        have HBW1 := Lib.hid (below_new wr (.cells #[.int .u8 t1, .slice A1 m1 c1, .slice B1 n1 d1] 28))
        clear e1 e2 hat1 hat2 u1 u2 u3 u4 ho ho' hlt ht1 ht2 heb hq hcall
        go_upto_region 6 with (fail)
        generalize hV1 : World.alloc wr _ = V1 at HRW1 HBW1 ⊢
        clear hV1 p0 p1 p2
        obtain ⟨q0, q1, q2⟩ := HQ.out V1 HBW1.out
        have HRW2 := Lib.hid (heap_alloc_new V1 (.cells #[.int .u8 t2, .slice A2 m2 c2, .slice B2 n2 d2] 28))
        have HBW2 := Lib.hid (below_new V1 (.cells #[.int .u8 t2, .slice A2 m2 c2, .slice B2 n2 d2] 28))
        go_upto_region 7 with (fail)
        generalize hV2 : World.alloc V1 _ = V2 at HRW2 HBW2 ⊢
        clear hV2 q0 q1 q2
        have HRW3 := Lib.hid (row_on HRW1.out HBW2.out)
        have hl1 := (Array.getElem?_eq_some_iff.1 HRW2.out).1
        have hl2 := (Array.getElem?_eq_some_iff.1 HRW3.out).1
        obtain ⟨_, p0, p1, p2⟩ := facts3 HRW3.out
        obtain ⟨_, q0, q1, q2⟩ := facts3 HRW2.out
        go_wp2_with fail
        refine (HCALL.out _ (chain HBW1.out HBW2.out)).mono ?_
        rintro e W3 ⟨rfl, hb3⟩
        have HBE := Lib.hid (chain HB.out (chain (chain HBW1.out HBW2.out) hb3))
        clear hb3 p0 p1 p2 q0 q1 q2 hl1 hl2 HRW1 HRW2 HRW3
        cases eb with
        | true =>
          go_wp2_with fail
          exact ⟨⟨k + 1, by have := HLT.out; omega, by go_num, HTK, HBE⟩, by have := HLT.out; simp [intOf]; omega⟩
        | false =>
          go_wp2_with fail
          go_ret
          exact ⟨by rw [HNO.out (by first | rfl | trivial)]; try rfl, HBE.out⟩
      · have hge : ¬ ((k : Int) < (n : Int)) := by omega
        have hd : eqOs l l' = true := by
          have h1 := HT.out
          rw [List.take_of_length_le (by rw [HN.out]; omega), List.take_of_length_le (by rw [HN'.out]; omega)] at h1
          exact h1
        have HD := Lib.hid hd
        clear hd
        go_wp2_with fail
        go_ret
        exact ⟨by rw [HD.out]; try rfl, HB.out⟩
  · have hni : ((n : Int) != (n' : Int)) = true := by simp; omega
    have hd : eqOs l l' = false := eqOs_len l l' (fun e => hnn (by rw [← hn, ← hn', e]))
    have HD := Lib.hid hd
    clear hn hn' hnn hd
    go_enter Try.func58, Try.ntmps58
    go_wp2_with fail
    go_ret
    exact ⟨by rw [HD.out]; try rfl, Below.refl _ _⟩
set_option maxRecDepth 100000 in
set_option maxHeartbeats 2000000 in
theorem psame_any_of (t : UInt8) (b : List UInt8) (l : List Oct) (t' : UInt8) (b' : List UInt8) (l' : List Oct) (hbl : b.length ≤ 1000000) (hbl' : b'.length ≤ 1000000) (hL : ∀ (A B : Option Addr) (c d g1 o1 g2 o2 : Nat) (vb vl vb' vl' : Nat → Value) (V : World), Els V A l g1 o1 vb vl → Els V B l' g2 o2 vb' vl' → Calls Try.prog 58 #[.slice A l.length c, .slice B l'.length d, .func (.func 28) #[] #[]] V (EqPost (eqOs l l') V))
    (w : World) (x y x' y' : Value) (h1 : At (fun _ => True) w (.mk t b l) x y) (h2 : At (fun _ => True) w (.mk t' b' l') x' y') : Calls Try.prog 28 #[.agg (cell3 (.mk t b l) x y), .agg (cell3 (.mk t' b' l') x' y')] w (EqPost (eqO (.mk t b l) (.mk t' b' l')) w) := by
  obtain ⟨A, c, B, d, g, off, vb, vl, rfl, rfl, hc, hbm, hcn, hs, _, _, he⟩ := h1.els
  obtain ⟨A', c', B', d', g', off', vb', vl', rfl, rfl, hc', hbm', hcn', hs', _, _, he'⟩ := h2.els
  have hsb := fun (V : World) (hb : Below w.heap.size w V) => bytes_equal b b' A A' c c' hcn hcn' V (hs.on hb) (hs'.on hb)
  have hsl := fun (V : World) (hb : Below w.heap.size w V) => hL B B' d d' g off g' off' vb vl vb' vl' V (he.on hb) (he'.on hb)
  unfold EqPost at hsl ⊢
  show Calls Try.prog 28 #[.agg #[.int .u8 (t.toNat : Int), .slice A b.length c, .slice B l.length d], .agg #[.int .u8 (t'.toNat : Int), .slice A' b'.length c', .slice B' l'.length d']] w _
  have hv : eqO (.mk t b l) (.mk t' b' l') = (decide (t = t') && (decide (b = b') && eqOs l l')) := by rw [eqO]
  obtain ⟨db, hdb⟩ : ∃ db, decide (b = b') = db := ⟨_, rfl⟩
  obtain ⟨dl, hdl⟩ : ∃ dl, eqOs l l' = dl := ⟨_, rfl⟩
  obtain ⟨m, hm⟩ : ∃ m, b.length = m := ⟨_, rfl⟩
  obtain ⟨m', hm'⟩ : ∃ m, b'.length = m := ⟨_, rfl⟩
  obtain ⟨n, hn⟩ : ∃ m, l.length = m := ⟨_, rfl⟩
  obtain ⟨n', hn'⟩ : ∃ m, l'.length = m := ⟨_, rfl⟩
  rw [hdb, hdl] at hv
  rw [hdb, hm, hm'] at hsb
  rw [hdl, hn, hn'] at hsl
  rw [hm, hm', hn, hn']
  have S1 := Lib.hid hsb
  have S2 := Lib.hid hsl
  obtain ⟨z, hz⟩ : ∃ z : Int, ((t.toNat : Nat) : Int) = z := ⟨_, rfl⟩
  obtain ⟨z', hz'⟩ : ∃ z : Int, ((t'.toNat : Nat) : Int) = z := ⟨_, rfl⟩
  rw [hz, hz']
  have HR0 := Lib.hid (heap_alloc2_old8 w (.cells #[.int .u8 z, .slice A m c, .slice B n d] 28) (.cells #[.int .u8 z', .slice A' m' c', .slice B' n' d'] 28))
  have HR1 := Lib.hid (heap_alloc2_new8 w (.cells #[.int .u8 z, .slice A m c, .slice B n d] 28) (.cells #[.int .u8 z', .slice A' m' c', .slice B' n' d'] 28))
  have HB2 : RowKit.Hid (Below w.heap.size w ((w.alloc (.cells #[.int .u8 z, .slice A m c, .slice B n d] 28)).alloc (.cells #[.int .u8 z', .slice A' m' c', .slice B' n' d'] 28))) := Lib.hid ((below_new w _).trans ((below_new _ _).mono (by simp)))
  clear hsb hsl hL hbl hbl' h1 h2 hc hs he hc' hs' he' hbm hbm' hcn hcn' hm hm' hn hn' hdb hdl
  by_cases ht : t = t'
  · subst ht
    obtain rfl : z = z' := hz.symm.trans hz'
    rw [decide_eq_true rfl, Bool.true_and] at hv
    have HV := Lib.hid hv
    clear hv hz hz'
    go_enter Try.func28, Try.ntmps28
    go_upto_region 1 with (fail)
    try rw [World.size_alloc]
    generalize hW : World.alloc (World.alloc w _) _ = w0 at HR0 HR1 HB2 ⊢
    clear hW
    have hlt0 := (Array.getElem?_eq_some_iff.1 HR0.out).1
    have hlt1 := (Array.getElem?_eq_some_iff.1 HR1.out).1
    obtain ⟨_, hc0, hc1, hc2⟩ := facts3 HR0.out
    obtain ⟨_, hd0, hd1, hd2⟩ := facts3 HR1.out
    go_wp2_with fail
    refine (S1.out _ HB2.out).mono ?_
    rintro e w1 ⟨rfl, hb1⟩
    have HB3 := Lib.hid (chain HB2.out hb1)
    have HR01 := Lib.hid (row_on HR0.out hb1)
    have HR11 := Lib.hid (row_on HR1.out hb1)
    clear hb1 HB2 HR0 HR1 hc0 hc1 hc2 hd0 hd1 hd2 hlt0 hlt1
    cases db with
    | false =>
      go_wp2_with fail
      go_ret
      exact ⟨by rw [HV.out]; try rfl, HB3.out⟩
    | true =>
      have hlt0 := (Array.getElem?_eq_some_iff.1 HR01.out).1
      have hlt1 := (Array.getElem?_eq_some_iff.1 HR11.out).1
      obtain ⟨_, hc0, hc1, hc2⟩ := facts3 HR01.out
      obtain ⟨_, hd0, hd1, hd2⟩ := facts3 HR11.out
      go_wp2_with fail
      refine (S2.out _ HB3.out).mono ?_
      rintro e w2 ⟨rfl, hb2⟩
      have HB4 := Lib.hid (chain HB3.out hb2)
      clear hb2 hc0 hc1 hc2 hd0 hd1 hd2 hlt0 hlt1
      go_wp2_with fail
      go_ret
      exact ⟨by rw [HV.out]; try rfl, HB4.out⟩
  · have hne : (z == z') = false := by
      have : t.toNat ≠ t'.toNat := fun e => ht (UInt8.toNat_inj.1 e)
      simp
      omega
    rw [decide_eq_false ht, Bool.false_and] at hv
    have HV := Lib.hid hv
    clear hv hz hz' ht
    go_enter Try.func28, Try.ntmps28
    go_upto_region 1 with (fail)
    try rw [World.size_alloc]
    generalize hW : World.alloc (World.alloc w _) _ = w0 at HR0 HR1 HB2 ⊢
    clear hW
    have hlt0 := (Array.getElem?_eq_some_iff.1 HR0.out).1
    have hlt1 := (Array.getElem?_eq_some_iff.1 HR1.out).1
    obtain ⟨_, hc0, hc1, hc2⟩ := facts3 HR0.out
    obtain ⟨_, hd0, hd1, hd2⟩ := facts3 HR1.out
    go_wp2_with fail
    go_ret
    exact ⟨by rw [HV.out]; try rfl, HB2.out⟩
theorem psame_any : ∀ (n : Nat) (o o' : Oct), cnt o ≤ n → n ≤ 10000 → cnt o' ≤ 10000 → tot o ≤ 1000000 → tot o' ≤ 1000000 → ∀ (V : World) (x y x' y' : Value), At (fun _ => True) V o x y → At (fun _ => True) V o' x' y' → Calls Try.prog 28 #[.agg (cell3 o x y), .agg (cell3 o' x' y')] V (EqPost (eqO o o') V) := fun n => by
  induction n with
  | zero => intro o o' h; cases o; rw [cnt] at h; omega
  | succ n ih =>
    intro o o' h hn h' ht ht'
    obtain ⟨t, b, l⟩ := o
    obtain ⟨t', b', l'⟩ := o'
    rw [cnt] at h h'
    rw [tot] at ht ht'
    have hl := len_cnts l
    have hl' := len_cnts l'
    exact psame_any_of t b l t' b' l' (by omega) (by omega) (fun A B c d g1 o1 g2 o2 vb vl vb' vl' V e1 e2 => equalfunc_of l l' (by omega) (by omega) (fun k o o' ho ho' V x y x' y' a1 a2 => ih o o' (by have := cnt_le l o (List.mem_of_getElem? ho); omega) (by omega) (by have := cnt_le l' o' (List.mem_of_getElem? ho'); omega) (by have := tot_le l o (List.mem_of_getElem? ho); omega) (by have := tot_le l' o' (List.mem_of_getElem? ho'); omega) V x y x' y' a1 a2) A B c d g1 o1 g2 o2 vb vl vb' vl' V e1 e2)
end Go.Proofs.Ytlbchefdkdngnaa
