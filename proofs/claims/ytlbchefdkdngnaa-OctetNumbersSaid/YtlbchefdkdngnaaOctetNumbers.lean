/-
  OctetNumbers: what is read is what was put. Written by wip/gen-oc20.py.
-/
import Derived.Test.YtlbchefdkdngnaaOcRJ
namespace Go.Proofs.Ytlbchefdkdngnaa
open Go.ChangeShapes Go.WideShapes Go.ChangeAt Go.RowKit Sha Oc
set_option linter.unusedVariables false
set_option linter.unusedSimpArgs false
set_option maxRecDepth 100000
theorem str_back (s : ByteArray) : (⟨s.data.toList.toArray⟩ : ByteArray) = s := by cases s; rfl
theorem rdN_nb (t : UInt8) (X : Nat) (hX : X < 256 ^ 8) (u : UInt8) (M : Nat) : rdN t u (nb X) 0 (M : Int) = if t = u ∧ X ≤ M then ((X : Int), 0) else (0, 12) := by
  obtain ⟨a1, a2⟩ := okN_nb X hX
  unfold rdN
  rw [a1, a2]
  by_cases h : t = u ∧ X ≤ M
  · rw [if_pos h, if_pos ⟨h.1, rfl, rfl, by omega⟩]
  · rw [if_neg h, if_neg (fun ⟨h1, _, _, h2⟩ => h ⟨h1, by omega⟩)]
theorem rdS_str (t : UInt8) (s : ByteArray) (M : Nat) : rdS t t s.data.toList 0 (M : Int) = if s.size ≤ M then (s.data.toList, 0) else ([], 12) := by
  have hl : s.data.toList.length = s.size := (Lib.size_eq s).symm
  unfold rdS
  rw [hl]
  by_cases h : s.size ≤ M
  · rw [if_pos h, if_pos ⟨rfl, rfl, by omega⟩]
  · rw [if_neg h, if_neg (fun ⟨_, _, h2⟩ => h (by omega))]
set_option maxHeartbeats 8000000 in
theorem numbers_true (w : World) (tg ot : UInt8) (X : Nat) (hX : X < 256 ^ 8) (Y : Nat) (hY : Y < 256 ^ 8) (s : ByteArray) (hs : s.size ≤ maxLen) (t : ByteArray) (ht : t.size ≤ maxLen) :
    Calls Try.prog 10 #[.int .u8 (tg.toNat : Int), .int .u8 (ot.toNat : Int), .int .u64 (X : Int), .int .u64 (Y : Int), .string s, .string t] w (fun e w' => e = .returned (.bool true) ∧ Below w.heap.size w w') := by
  obtain ⟨tz, htz⟩ : ∃ tz : Int, ((tg.toNat : Nat) : Int) = tz := ⟨_, rfl⟩
  obtain ⟨oz, hoz⟩ : ∃ oz : Int, ((ot.toNat : Nat) : Int) = oz := ⟨_, rfl⟩
  have HTZ := Lib.hid htz
  have HOZ := Lib.hid hoz
  have HAL := Lib.hid (alive8_any w)
  have h8 : (256 : Nat) ^ 8 = 18446744073709551616 := by decide
  by_cases hlen : s.size ≤ 1000 ∧ t.size ≤ 1000
  · have HNU := Lib.hid (fun V => num_any tg X hX V)
    have HSS := Lib.hid (fun V => str_any tg s (by omega) V)
    have HST := Lib.hid (fun V => str_any ot t (by omega) V)
    have hn1 := fun (V : World) (x y : Value) (hat : At (fun _ => True) V (.mk tg (nb X) []) x y) => readnum_any tg (nb X) [] tg (Y : Int) V x y hat
    have hn2 := fun (V : World) (x y : Value) (hat : At (fun _ => True) V (.mk tg (nb X) []) x y) => readnum_any tg (nb X) [] ot ((18446744073709551615 : Nat) : Int) V x y hat
    have hrs := fun (V : World) (x y : Value) (hat : At (fun _ => True) V (.mk tg s.data.toList []) x y) => readstr_any tg s.data.toList [] tg ((t.size : Nat) : Int) V x y hat
    have hrt := fun (V : World) (x y : Value) (hat : At (fun _ => True) V (.mk ot t.data.toList []) x y) => readstr_any ot t.data.toList [] ot ((t.size : Nat) : Int) V x y hat
    rw [List.length_nil, rdN_nb tg X hX] at hn1 hn2
    rw [show ((18446744073709551615 : Nat) : Int) = 18446744073709551615 from rfl] at hn2
    rw [List.length_nil, rdS_str] at hrs hrt
    rw [if_pos (Nat.le_refl _), str_back] at hrt
    have hcnt : ∀ (a : UInt8) (l : List UInt8), l.length ≤ 1000 → cnt (.mk a l []) ≤ 5000 ∧ tot (.mk a l []) ≤ 100000 := fun a l h => by
      rw [cnt, cnts, tot, tots]
      omega
    have hsl : s.data.toList.length ≤ 1000 := by have := Lib.size_eq s; omega
    have htl : t.data.toList.length ≤ 1000 := by have := Lib.size_eq t; omega
    have HSQ := Lib.hid (fun (V : World) (B : Option Addr) (d g off : Nat) (vb vl : Nat → Value) he => seq_any tg [.mk tg s.data.toList [], .mk ot t.data.toList []] (by show 2 ≤ 5000; omega) (fun o ho => by
      rcases List.mem_cons.1 ho with rfl | ho
      · exact hcnt _ _ hsl
      · obtain rfl := List.mem_singleton.1 ho
        exact hcnt _ _ htl) B d g off vb vl V he)
    have HRQ := Lib.hid (fun (V : World) (x y : Value) (hat : At (fun _ => True) V (.mk tg [] [.mk tg s.data.toList [], .mk ot t.data.toList []]) x y) => readseq_any tg [] [.mk tg s.data.toList [], .mk ot t.data.toList []] tg 2 2 (by rw [cnt, cnts, cnts, cnts, cnt, cnts, cnt, cnts]; decide) (by rw [tot, tots, tots, tots, tot, tots, tot, tots, List.length_nil]; omega) V x y hat)
    rw [show rdQ tg tg ([] : List UInt8).length [Oct.mk tg s.data.toList [], Oct.mk ot t.data.toList []].length 2 2 = true from decide_eq_true ⟨rfl, rfl, by show (2 : Int) ≤ 2; omega, by show (2 : Int) ≤ 2; omega⟩] at HRQ
    unfold RsPost at HRQ
    unfold TwPost at HSQ
    unfold SnPost at HNU HSS HST
    simp only [if_true] at HRQ
    unfold cell3 at HNU HSS HST hn1 hn2 hrs hrt
    dsimp only [tagO] at HNU HSS HST hn1 hn2 hrs hrt
    rw [htz] at HNU HSS hn1 hn2 hrs HSQ
    rw [hoz] at HST hn2 hrt
    have HRT := Lib.hid hrt
    have HSZ := Lib.hid (And.intro hlen.1 hlen.2)
    clear hrt hcnt hsl htl
    rw [htz, hoz]
    have hls : ¬ (1000 : Int) < (s.size : Int) := by omega
    have hlt : ¬ (1000 : Int) < (t.size : Int) := by omega
    clear hs ht
    by_cases hc1 : X ≤ Y
    · by_cases hc2 : tg = ot
      · have hxy : (X : Int) ≤ (Y : Int) := by omega
        rw [if_pos ⟨rfl, hc1⟩] at hn1
        subst hc2
        obtain rfl : tz = oz := htz.symm.trans hoz
        rw [if_pos ⟨rfl, by omega⟩] at hn2
        have HN1 := Lib.hid hn1
        have HN2 := Lib.hid hn2
        clear hn1 hn2 htz hoz hc1 hX hY h8
        by_cases hc3 : s.size ≤ t.size
        · have hst : (s.size : Int) ≤ (t.size : Int) := by omega
          rw [if_pos hc3, str_back] at hrs
          have HRS := Lib.hid hrs
          clear hrs hlen hc3
          go_enter Try.func10, Try.ntmps10
          go_wp2_with fail
          refine HAL.out.mono ?_
          rintro e w1 ⟨rfl, hb1⟩
          have HB1 := Lib.hid hb1
          clear hb1 HAL
          go_wp2_with fail
          refine (HNU.out w1).mono ?_
          rintro e w2 ⟨x2, y2, rfl, hat2, hb2⟩
          obtain ⟨A2, m2, k2, B2, n2, q2, rfl, rfl⟩ := hat2.slices
          have HB2 := Lib.hid (chain HB1.out hb2)
          have HAT2 := Lib.hid hat2
          clear hat2 hb2
          go_wp2_with fail
          refine (HN1.out w2 _ _ HAT2.out).mono ?_
          rintro e w3 ⟨rfl, hb2⟩
          have HB3 := Lib.hid (chain HB2.out hb2)
          clear hb2 HAT2
          go_wp2_with fail
          refine (HNU.out w3).mono ?_
          rintro e w4 ⟨x4, y4, rfl, hat4, hb4⟩
          obtain ⟨A4, m4, k4, B4, n4, q4, rfl, rfl⟩ := hat4.slices
          have HB4 := Lib.hid (chain HB3.out hb4)
          have HAT4 := Lib.hid hat4
          clear hat4 hb4
          go_wp2_with fail
          refine (HN2.out w4 _ _ HAT4.out).mono ?_
          rintro e w5 ⟨rfl, hb4⟩
          have HB5 := Lib.hid (chain HB4.out hb4)
          clear hb4 HAT4
          go_wp2_with fail
          refine (HSS.out w5).mono ?_
          rintro e w6 ⟨x6, y6, rfl, hat6, hb6⟩
          obtain ⟨A6, m6, k6, B6, n6, q6, rfl, rfl⟩ := hat6.slices
          have HB6 := Lib.hid (chain HB5.out hb6)
          have HAT6 := Lib.hid hat6
          clear hat6 hb6
          go_wp2_with fail
          refine (HRS.out w6 _ _ HAT6.out).mono ?_
          rintro e w7 ⟨rfl, hb7⟩
          have HB7 := Lib.hid (chain HB6.out hb7)
          clear hb7 HAT6 HRS
          go_wp2_with fail
          refine (HSS.out w7).mono ?_
          rintro e w8 ⟨x8, y8, rfl, hat8, hb8⟩
          obtain ⟨A8, m8, k8, B8, n8, q8, rfl, rfl⟩ := hat8.slices
          have HB8 := Lib.hid (chain HB7.out hb8)
          have HAT8 := Lib.hid hat8
          clear hat8 hb8
          go_wp2_with fail
          refine (HST.out w8).mono ?_
          rintro e w9 ⟨x9, y9, rfl, hat9, hb9⟩
          obtain ⟨A9, m9, k9, B9, n9, q9, rfl, rfl⟩ := hat9.slices
          have HB9 := Lib.hid (chain HB8.out hb9)
          have HAT9 := Lib.hid hat9
          have HAT89 := Lib.hid (HAT8.out.on hb9)
          clear hat9 hb9
          go_wp2_with fail
          generalize hV : World.alloc w9 _ = w10
          have hb10 : Below w9.heap.size w9 w10 := by rw [← hV]; exact below_new _ _
          have hr10 : w10.heap[w9.heap.size]? = some (.cells #[.int .u8 tz, .slice A8 m8 k8, .slice B8 n8 q8, .int .u8 tz, .slice A9 m9 k9, .slice B9 n9 q9] 28 (0, 0)) := by rw [← hV]; exact heap_alloc_new _ _
          have HB10 := Lib.hid (chain HB9.out hb10)
          rw [← HTZ.out] at hr10
          try rw [← HOZ.out] at hr10
          have hsq := HSQ.out w10 _ 2 _ _ _ _ (two_els2 (HAT89.out.on hb10) (HAT9.out.on hb10) hr10)
          have HSQ1 := Lib.hid hsq
          clear hV hb10 hr10 hsq HAT8 HAT89 HAT9
          refine HSQ1.out.mono ?_
          rintro e w11 ⟨x11, y11, rfl, hat11, hb11⟩
          obtain ⟨A11, m11, k11, B11, n11, q11, rfl, rfl⟩ := hat11.slices
          have HRQ1 := Lib.hid (HRQ.out w11 _ _ hat11.any)
          have HB11 := Lib.hid (chain HB10.out hb11)
          unfold cell3
          dsimp only [tagO]
          rw [HTZ.out]
          unfold cell3 at HRQ1
          dsimp only [tagO] at HRQ1
          rw [HTZ.out] at HRQ1
          clear hat11 hb11 HSQ1 HRQ HSQ
          go_wp2_with fail
          refine HRQ1.out.mono ?_
          rintro e w12 ⟨v12, rfl, hat12, hb12⟩
          have HB12 := Lib.hid (chain HB11.out hb12)
          obtain ⟨_, _, B12, d12, g12, o12, vb, vl, _, rfl, _, _, _, _, _, _, he12⟩ := hat12.any.els
          obtain rfl := he12.hB (by simp)
          have e0 := he12.h0 1 _ rfl
          have e1 := he12.h1 1 _ rfl
          have e2 := he12.h2 1 _ rfl
          have hat13 := he12.hr 1 _ rfl
          obtain ⟨A13, m13, k13, B13, n13, q13, s1, s2⟩ := hat13.slices
          rw [s1] at e1 hat13
          rw [s2] at e2 hat13
          dsimp only [tagO] at e0
          rw [HOZ.out] at e0
          have HRT1 := Lib.hid (HRT.out w12 _ _ hat13)
          have hrg := range3o e0 e1 e2
          rw [Nat.one_mul] at e0 e1 e2 hrg
          clear hat12 hb12 HRQ1 he12 hat13 s1 s2 HRT
          go_wp2_with fail
          refine HRT1.out.mono ?_
          rintro e w13 ⟨rfl, hb13⟩
          have HB13 := Lib.hid (chain HB12.out hb13)
          clear hb13 HRT1 e0 e1 e2 hrg
          go_wp2_with fail
          go_ret
          exact ⟨rfl, HB13.out⟩
        · have hst : ¬ (s.size : Int) ≤ (t.size : Int) := by omega
          rw [if_neg hc3] at hrs
          have HRS := Lib.hid hrs
          clear hrs hlen hc3
          go_enter Try.func10, Try.ntmps10
          go_wp2_with fail
          refine HAL.out.mono ?_
          rintro e w1 ⟨rfl, hb1⟩
          have HB1 := Lib.hid hb1
          clear hb1 HAL
          go_wp2_with fail
          refine (HNU.out w1).mono ?_
          rintro e w2 ⟨x2, y2, rfl, hat2, hb2⟩
          obtain ⟨A2, m2, k2, B2, n2, q2, rfl, rfl⟩ := hat2.slices
          have HB2 := Lib.hid (chain HB1.out hb2)
          have HAT2 := Lib.hid hat2
          clear hat2 hb2
          go_wp2_with fail
          refine (HN1.out w2 _ _ HAT2.out).mono ?_
          rintro e w3 ⟨rfl, hb2⟩
          have HB3 := Lib.hid (chain HB2.out hb2)
          clear hb2 HAT2
          go_wp2_with fail
          refine (HNU.out w3).mono ?_
          rintro e w4 ⟨x4, y4, rfl, hat4, hb4⟩
          obtain ⟨A4, m4, k4, B4, n4, q4, rfl, rfl⟩ := hat4.slices
          have HB4 := Lib.hid (chain HB3.out hb4)
          have HAT4 := Lib.hid hat4
          clear hat4 hb4
          go_wp2_with fail
          refine (HN2.out w4 _ _ HAT4.out).mono ?_
          rintro e w5 ⟨rfl, hb4⟩
          have HB5 := Lib.hid (chain HB4.out hb4)
          clear hb4 HAT4
          go_wp2_with fail
          refine (HSS.out w5).mono ?_
          rintro e w6 ⟨x6, y6, rfl, hat6, hb6⟩
          obtain ⟨A6, m6, k6, B6, n6, q6, rfl, rfl⟩ := hat6.slices
          have HB6 := Lib.hid (chain HB5.out hb6)
          have HAT6 := Lib.hid hat6
          clear hat6 hb6
          go_wp2_with fail
          refine (HRS.out w6 _ _ HAT6.out).mono ?_
          rintro e w7 ⟨rfl, hb7⟩
          have HB7 := Lib.hid (chain HB6.out hb7)
          clear hb7 HAT6 HRS
          go_wp2_with fail
          refine (HSS.out w7).mono ?_
          rintro e w8 ⟨x8, y8, rfl, hat8, hb8⟩
          obtain ⟨A8, m8, k8, B8, n8, q8, rfl, rfl⟩ := hat8.slices
          have HB8 := Lib.hid (chain HB7.out hb8)
          have HAT8 := Lib.hid hat8
          clear hat8 hb8
          go_wp2_with fail
          refine (HST.out w8).mono ?_
          rintro e w9 ⟨x9, y9, rfl, hat9, hb9⟩
          obtain ⟨A9, m9, k9, B9, n9, q9, rfl, rfl⟩ := hat9.slices
          have HB9 := Lib.hid (chain HB8.out hb9)
          have HAT9 := Lib.hid hat9
          have HAT89 := Lib.hid (HAT8.out.on hb9)
          clear hat9 hb9
          go_wp2_with fail
          generalize hV : World.alloc w9 _ = w10
          have hb10 : Below w9.heap.size w9 w10 := by rw [← hV]; exact below_new _ _
          have hr10 : w10.heap[w9.heap.size]? = some (.cells #[.int .u8 tz, .slice A8 m8 k8, .slice B8 n8 q8, .int .u8 tz, .slice A9 m9 k9, .slice B9 n9 q9] 28 (0, 0)) := by rw [← hV]; exact heap_alloc_new _ _
          have HB10 := Lib.hid (chain HB9.out hb10)
          rw [← HTZ.out] at hr10
          try rw [← HOZ.out] at hr10
          have hsq := HSQ.out w10 _ 2 _ _ _ _ (two_els2 (HAT89.out.on hb10) (HAT9.out.on hb10) hr10)
          have HSQ1 := Lib.hid hsq
          clear hV hb10 hr10 hsq HAT8 HAT89 HAT9
          refine HSQ1.out.mono ?_
          rintro e w11 ⟨x11, y11, rfl, hat11, hb11⟩
          obtain ⟨A11, m11, k11, B11, n11, q11, rfl, rfl⟩ := hat11.slices
          have HRQ1 := Lib.hid (HRQ.out w11 _ _ hat11.any)
          have HB11 := Lib.hid (chain HB10.out hb11)
          unfold cell3
          dsimp only [tagO]
          rw [HTZ.out]
          unfold cell3 at HRQ1
          dsimp only [tagO] at HRQ1
          rw [HTZ.out] at HRQ1
          clear hat11 hb11 HSQ1 HRQ HSQ
          go_wp2_with fail
          refine HRQ1.out.mono ?_
          rintro e w12 ⟨v12, rfl, hat12, hb12⟩
          have HB12 := Lib.hid (chain HB11.out hb12)
          obtain ⟨_, _, B12, d12, g12, o12, vb, vl, _, rfl, _, _, _, _, _, _, he12⟩ := hat12.any.els
          obtain rfl := he12.hB (by simp)
          have e0 := he12.h0 1 _ rfl
          have e1 := he12.h1 1 _ rfl
          have e2 := he12.h2 1 _ rfl
          have hat13 := he12.hr 1 _ rfl
          obtain ⟨A13, m13, k13, B13, n13, q13, s1, s2⟩ := hat13.slices
          rw [s1] at e1 hat13
          rw [s2] at e2 hat13
          dsimp only [tagO] at e0
          rw [HOZ.out] at e0
          have HRT1 := Lib.hid (HRT.out w12 _ _ hat13)
          have hrg := range3o e0 e1 e2
          rw [Nat.one_mul] at e0 e1 e2 hrg
          clear hat12 hb12 HRQ1 he12 hat13 s1 s2 HRT
          go_wp2_with fail
          refine HRT1.out.mono ?_
          rintro e w13 ⟨rfl, hb13⟩
          have HB13 := Lib.hid (chain HB12.out hb13)
          clear hb13 HRT1 e0 e1 e2 hrg
          go_wp2_with fail
          go_ret
          exact ⟨rfl, HB13.out⟩
      · have hxy : (X : Int) ≤ (Y : Int) := by omega
        rw [if_pos ⟨rfl, hc1⟩] at hn1
        have htne : ¬ tz = oz := fun e => hc2 (UInt8.toNat_inj.1 (by omega))
        rw [if_neg (fun h => hc2 h.1)] at hn2
        have heq : (tz == oz) = false := by simp [htne]
        have HN1 := Lib.hid hn1
        have HN2 := Lib.hid hn2
        clear hn1 hn2 htz hoz hc1 hc2 hX hY h8
        by_cases hc3 : s.size ≤ t.size
        · have hst : (s.size : Int) ≤ (t.size : Int) := by omega
          rw [if_pos hc3, str_back] at hrs
          have HRS := Lib.hid hrs
          clear hrs hlen hc3
          go_enter Try.func10, Try.ntmps10
          go_wp2_with fail
          refine HAL.out.mono ?_
          rintro e w1 ⟨rfl, hb1⟩
          have HB1 := Lib.hid hb1
          clear hb1 HAL
          go_wp2_with fail
          refine (HNU.out w1).mono ?_
          rintro e w2 ⟨x2, y2, rfl, hat2, hb2⟩
          obtain ⟨A2, m2, k2, B2, n2, q2, rfl, rfl⟩ := hat2.slices
          have HB2 := Lib.hid (chain HB1.out hb2)
          have HAT2 := Lib.hid hat2
          clear hat2 hb2
          go_wp2_with fail
          refine (HN1.out w2 _ _ HAT2.out).mono ?_
          rintro e w3 ⟨rfl, hb2⟩
          have HB3 := Lib.hid (chain HB2.out hb2)
          clear hb2 HAT2
          go_wp2_with fail
          refine (HNU.out w3).mono ?_
          rintro e w4 ⟨x4, y4, rfl, hat4, hb4⟩
          obtain ⟨A4, m4, k4, B4, n4, q4, rfl, rfl⟩ := hat4.slices
          have HB4 := Lib.hid (chain HB3.out hb4)
          have HAT4 := Lib.hid hat4
          clear hat4 hb4
          go_wp2_with fail
          refine (HN2.out w4 _ _ HAT4.out).mono ?_
          rintro e w5 ⟨rfl, hb4⟩
          have HB5 := Lib.hid (chain HB4.out hb4)
          clear hb4 HAT4
          go_wp2_with fail
          refine (HSS.out w5).mono ?_
          rintro e w6 ⟨x6, y6, rfl, hat6, hb6⟩
          obtain ⟨A6, m6, k6, B6, n6, q6, rfl, rfl⟩ := hat6.slices
          have HB6 := Lib.hid (chain HB5.out hb6)
          have HAT6 := Lib.hid hat6
          clear hat6 hb6
          go_wp2_with fail
          refine (HRS.out w6 _ _ HAT6.out).mono ?_
          rintro e w7 ⟨rfl, hb7⟩
          have HB7 := Lib.hid (chain HB6.out hb7)
          clear hb7 HAT6 HRS
          go_wp2_with fail
          refine (HSS.out w7).mono ?_
          rintro e w8 ⟨x8, y8, rfl, hat8, hb8⟩
          obtain ⟨A8, m8, k8, B8, n8, q8, rfl, rfl⟩ := hat8.slices
          have HB8 := Lib.hid (chain HB7.out hb8)
          have HAT8 := Lib.hid hat8
          clear hat8 hb8
          go_wp2_with fail
          refine (HST.out w8).mono ?_
          rintro e w9 ⟨x9, y9, rfl, hat9, hb9⟩
          obtain ⟨A9, m9, k9, B9, n9, q9, rfl, rfl⟩ := hat9.slices
          have HB9 := Lib.hid (chain HB8.out hb9)
          have HAT9 := Lib.hid hat9
          have HAT89 := Lib.hid (HAT8.out.on hb9)
          clear hat9 hb9
          go_wp2_with fail
          generalize hV : World.alloc w9 _ = w10
          have hb10 : Below w9.heap.size w9 w10 := by rw [← hV]; exact below_new _ _
          have hr10 : w10.heap[w9.heap.size]? = some (.cells #[.int .u8 tz, .slice A8 m8 k8, .slice B8 n8 q8, .int .u8 oz, .slice A9 m9 k9, .slice B9 n9 q9] 28 (0, 0)) := by rw [← hV]; exact heap_alloc_new _ _
          have HB10 := Lib.hid (chain HB9.out hb10)
          rw [← HTZ.out] at hr10
          try rw [← HOZ.out] at hr10
          have hsq := HSQ.out w10 _ 2 _ _ _ _ (two_els2 (HAT89.out.on hb10) (HAT9.out.on hb10) hr10)
          have HSQ1 := Lib.hid hsq
          clear hV hb10 hr10 hsq HAT8 HAT89 HAT9
          refine HSQ1.out.mono ?_
          rintro e w11 ⟨x11, y11, rfl, hat11, hb11⟩
          obtain ⟨A11, m11, k11, B11, n11, q11, rfl, rfl⟩ := hat11.slices
          have HRQ1 := Lib.hid (HRQ.out w11 _ _ hat11.any)
          have HB11 := Lib.hid (chain HB10.out hb11)
          unfold cell3
          dsimp only [tagO]
          rw [HTZ.out]
          unfold cell3 at HRQ1
          dsimp only [tagO] at HRQ1
          rw [HTZ.out] at HRQ1
          clear hat11 hb11 HSQ1 HRQ HSQ
          go_wp2_with fail
          refine HRQ1.out.mono ?_
          rintro e w12 ⟨v12, rfl, hat12, hb12⟩
          have HB12 := Lib.hid (chain HB11.out hb12)
          obtain ⟨_, _, B12, d12, g12, o12, vb, vl, _, rfl, _, _, _, _, _, _, he12⟩ := hat12.any.els
          obtain rfl := he12.hB (by simp)
          have e0 := he12.h0 1 _ rfl
          have e1 := he12.h1 1 _ rfl
          have e2 := he12.h2 1 _ rfl
          have hat13 := he12.hr 1 _ rfl
          obtain ⟨A13, m13, k13, B13, n13, q13, s1, s2⟩ := hat13.slices
          rw [s1] at e1 hat13
          rw [s2] at e2 hat13
          dsimp only [tagO] at e0
          rw [HOZ.out] at e0
          have HRT1 := Lib.hid (HRT.out w12 _ _ hat13)
          have hrg := range3o e0 e1 e2
          rw [Nat.one_mul] at e0 e1 e2 hrg
          clear hat12 hb12 HRQ1 he12 hat13 s1 s2 HRT
          go_wp2_with fail
          refine HRT1.out.mono ?_
          rintro e w13 ⟨rfl, hb13⟩
          have HB13 := Lib.hid (chain HB12.out hb13)
          clear hb13 HRT1 e0 e1 e2 hrg
          go_wp2_with fail
          go_ret
          exact ⟨rfl, HB13.out⟩
        · have hst : ¬ (s.size : Int) ≤ (t.size : Int) := by omega
          rw [if_neg hc3] at hrs
          have HRS := Lib.hid hrs
          clear hrs hlen hc3
          go_enter Try.func10, Try.ntmps10
          go_wp2_with fail
          refine HAL.out.mono ?_
          rintro e w1 ⟨rfl, hb1⟩
          have HB1 := Lib.hid hb1
          clear hb1 HAL
          go_wp2_with fail
          refine (HNU.out w1).mono ?_
          rintro e w2 ⟨x2, y2, rfl, hat2, hb2⟩
          obtain ⟨A2, m2, k2, B2, n2, q2, rfl, rfl⟩ := hat2.slices
          have HB2 := Lib.hid (chain HB1.out hb2)
          have HAT2 := Lib.hid hat2
          clear hat2 hb2
          go_wp2_with fail
          refine (HN1.out w2 _ _ HAT2.out).mono ?_
          rintro e w3 ⟨rfl, hb2⟩
          have HB3 := Lib.hid (chain HB2.out hb2)
          clear hb2 HAT2
          go_wp2_with fail
          refine (HNU.out w3).mono ?_
          rintro e w4 ⟨x4, y4, rfl, hat4, hb4⟩
          obtain ⟨A4, m4, k4, B4, n4, q4, rfl, rfl⟩ := hat4.slices
          have HB4 := Lib.hid (chain HB3.out hb4)
          have HAT4 := Lib.hid hat4
          clear hat4 hb4
          go_wp2_with fail
          refine (HN2.out w4 _ _ HAT4.out).mono ?_
          rintro e w5 ⟨rfl, hb4⟩
          have HB5 := Lib.hid (chain HB4.out hb4)
          clear hb4 HAT4
          go_wp2_with fail
          refine (HSS.out w5).mono ?_
          rintro e w6 ⟨x6, y6, rfl, hat6, hb6⟩
          obtain ⟨A6, m6, k6, B6, n6, q6, rfl, rfl⟩ := hat6.slices
          have HB6 := Lib.hid (chain HB5.out hb6)
          have HAT6 := Lib.hid hat6
          clear hat6 hb6
          go_wp2_with fail
          refine (HRS.out w6 _ _ HAT6.out).mono ?_
          rintro e w7 ⟨rfl, hb7⟩
          have HB7 := Lib.hid (chain HB6.out hb7)
          clear hb7 HAT6 HRS
          go_wp2_with fail
          refine (HSS.out w7).mono ?_
          rintro e w8 ⟨x8, y8, rfl, hat8, hb8⟩
          obtain ⟨A8, m8, k8, B8, n8, q8, rfl, rfl⟩ := hat8.slices
          have HB8 := Lib.hid (chain HB7.out hb8)
          have HAT8 := Lib.hid hat8
          clear hat8 hb8
          go_wp2_with fail
          refine (HST.out w8).mono ?_
          rintro e w9 ⟨x9, y9, rfl, hat9, hb9⟩
          obtain ⟨A9, m9, k9, B9, n9, q9, rfl, rfl⟩ := hat9.slices
          have HB9 := Lib.hid (chain HB8.out hb9)
          have HAT9 := Lib.hid hat9
          have HAT89 := Lib.hid (HAT8.out.on hb9)
          clear hat9 hb9
          go_wp2_with fail
          generalize hV : World.alloc w9 _ = w10
          have hb10 : Below w9.heap.size w9 w10 := by rw [← hV]; exact below_new _ _
          have hr10 : w10.heap[w9.heap.size]? = some (.cells #[.int .u8 tz, .slice A8 m8 k8, .slice B8 n8 q8, .int .u8 oz, .slice A9 m9 k9, .slice B9 n9 q9] 28 (0, 0)) := by rw [← hV]; exact heap_alloc_new _ _
          have HB10 := Lib.hid (chain HB9.out hb10)
          rw [← HTZ.out] at hr10
          try rw [← HOZ.out] at hr10
          have hsq := HSQ.out w10 _ 2 _ _ _ _ (two_els2 (HAT89.out.on hb10) (HAT9.out.on hb10) hr10)
          have HSQ1 := Lib.hid hsq
          clear hV hb10 hr10 hsq HAT8 HAT89 HAT9
          refine HSQ1.out.mono ?_
          rintro e w11 ⟨x11, y11, rfl, hat11, hb11⟩
          obtain ⟨A11, m11, k11, B11, n11, q11, rfl, rfl⟩ := hat11.slices
          have HRQ1 := Lib.hid (HRQ.out w11 _ _ hat11.any)
          have HB11 := Lib.hid (chain HB10.out hb11)
          unfold cell3
          dsimp only [tagO]
          rw [HTZ.out]
          unfold cell3 at HRQ1
          dsimp only [tagO] at HRQ1
          rw [HTZ.out] at HRQ1
          clear hat11 hb11 HSQ1 HRQ HSQ
          go_wp2_with fail
          refine HRQ1.out.mono ?_
          rintro e w12 ⟨v12, rfl, hat12, hb12⟩
          have HB12 := Lib.hid (chain HB11.out hb12)
          obtain ⟨_, _, B12, d12, g12, o12, vb, vl, _, rfl, _, _, _, _, _, _, he12⟩ := hat12.any.els
          obtain rfl := he12.hB (by simp)
          have e0 := he12.h0 1 _ rfl
          have e1 := he12.h1 1 _ rfl
          have e2 := he12.h2 1 _ rfl
          have hat13 := he12.hr 1 _ rfl
          obtain ⟨A13, m13, k13, B13, n13, q13, s1, s2⟩ := hat13.slices
          rw [s1] at e1 hat13
          rw [s2] at e2 hat13
          dsimp only [tagO] at e0
          rw [HOZ.out] at e0
          have HRT1 := Lib.hid (HRT.out w12 _ _ hat13)
          have hrg := range3o e0 e1 e2
          rw [Nat.one_mul] at e0 e1 e2 hrg
          clear hat12 hb12 HRQ1 he12 hat13 s1 s2 HRT
          go_wp2_with fail
          refine HRT1.out.mono ?_
          rintro e w13 ⟨rfl, hb13⟩
          have HB13 := Lib.hid (chain HB12.out hb13)
          clear hb13 HRT1 e0 e1 e2 hrg
          go_wp2_with fail
          go_ret
          exact ⟨rfl, HB13.out⟩
    · by_cases hc2 : tg = ot
      · have hxy : ¬ (X : Int) ≤ (Y : Int) := by omega
        rw [if_neg (fun h => hc1 h.2)] at hn1
        subst hc2
        obtain rfl : tz = oz := htz.symm.trans hoz
        rw [if_pos ⟨rfl, by omega⟩] at hn2
        have HN1 := Lib.hid hn1
        have HN2 := Lib.hid hn2
        clear hn1 hn2 htz hoz hc1 hX hY h8
        by_cases hc3 : s.size ≤ t.size
        · have hst : (s.size : Int) ≤ (t.size : Int) := by omega
          rw [if_pos hc3, str_back] at hrs
          have HRS := Lib.hid hrs
          clear hrs hlen hc3
          go_enter Try.func10, Try.ntmps10
          go_wp2_with fail
          refine HAL.out.mono ?_
          rintro e w1 ⟨rfl, hb1⟩
          have HB1 := Lib.hid hb1
          clear hb1 HAL
          go_wp2_with fail
          refine (HNU.out w1).mono ?_
          rintro e w2 ⟨x2, y2, rfl, hat2, hb2⟩
          obtain ⟨A2, m2, k2, B2, n2, q2, rfl, rfl⟩ := hat2.slices
          have HB2 := Lib.hid (chain HB1.out hb2)
          have HAT2 := Lib.hid hat2
          clear hat2 hb2
          go_wp2_with fail
          refine (HN1.out w2 _ _ HAT2.out).mono ?_
          rintro e w3 ⟨rfl, hb2⟩
          have HB3 := Lib.hid (chain HB2.out hb2)
          clear hb2 HAT2
          go_wp2_with fail
          refine (HNU.out w3).mono ?_
          rintro e w4 ⟨x4, y4, rfl, hat4, hb4⟩
          obtain ⟨A4, m4, k4, B4, n4, q4, rfl, rfl⟩ := hat4.slices
          have HB4 := Lib.hid (chain HB3.out hb4)
          have HAT4 := Lib.hid hat4
          clear hat4 hb4
          go_wp2_with fail
          refine (HN2.out w4 _ _ HAT4.out).mono ?_
          rintro e w5 ⟨rfl, hb4⟩
          have HB5 := Lib.hid (chain HB4.out hb4)
          clear hb4 HAT4
          go_wp2_with fail
          refine (HSS.out w5).mono ?_
          rintro e w6 ⟨x6, y6, rfl, hat6, hb6⟩
          obtain ⟨A6, m6, k6, B6, n6, q6, rfl, rfl⟩ := hat6.slices
          have HB6 := Lib.hid (chain HB5.out hb6)
          have HAT6 := Lib.hid hat6
          clear hat6 hb6
          go_wp2_with fail
          refine (HRS.out w6 _ _ HAT6.out).mono ?_
          rintro e w7 ⟨rfl, hb7⟩
          have HB7 := Lib.hid (chain HB6.out hb7)
          clear hb7 HAT6 HRS
          go_wp2_with fail
          refine (HSS.out w7).mono ?_
          rintro e w8 ⟨x8, y8, rfl, hat8, hb8⟩
          obtain ⟨A8, m8, k8, B8, n8, q8, rfl, rfl⟩ := hat8.slices
          have HB8 := Lib.hid (chain HB7.out hb8)
          have HAT8 := Lib.hid hat8
          clear hat8 hb8
          go_wp2_with fail
          refine (HST.out w8).mono ?_
          rintro e w9 ⟨x9, y9, rfl, hat9, hb9⟩
          obtain ⟨A9, m9, k9, B9, n9, q9, rfl, rfl⟩ := hat9.slices
          have HB9 := Lib.hid (chain HB8.out hb9)
          have HAT9 := Lib.hid hat9
          have HAT89 := Lib.hid (HAT8.out.on hb9)
          clear hat9 hb9
          go_wp2_with fail
          generalize hV : World.alloc w9 _ = w10
          have hb10 : Below w9.heap.size w9 w10 := by rw [← hV]; exact below_new _ _
          have hr10 : w10.heap[w9.heap.size]? = some (.cells #[.int .u8 tz, .slice A8 m8 k8, .slice B8 n8 q8, .int .u8 tz, .slice A9 m9 k9, .slice B9 n9 q9] 28 (0, 0)) := by rw [← hV]; exact heap_alloc_new _ _
          have HB10 := Lib.hid (chain HB9.out hb10)
          rw [← HTZ.out] at hr10
          try rw [← HOZ.out] at hr10
          have hsq := HSQ.out w10 _ 2 _ _ _ _ (two_els2 (HAT89.out.on hb10) (HAT9.out.on hb10) hr10)
          have HSQ1 := Lib.hid hsq
          clear hV hb10 hr10 hsq HAT8 HAT89 HAT9
          refine HSQ1.out.mono ?_
          rintro e w11 ⟨x11, y11, rfl, hat11, hb11⟩
          obtain ⟨A11, m11, k11, B11, n11, q11, rfl, rfl⟩ := hat11.slices
          have HRQ1 := Lib.hid (HRQ.out w11 _ _ hat11.any)
          have HB11 := Lib.hid (chain HB10.out hb11)
          unfold cell3
          dsimp only [tagO]
          rw [HTZ.out]
          unfold cell3 at HRQ1
          dsimp only [tagO] at HRQ1
          rw [HTZ.out] at HRQ1
          clear hat11 hb11 HSQ1 HRQ HSQ
          go_wp2_with fail
          refine HRQ1.out.mono ?_
          rintro e w12 ⟨v12, rfl, hat12, hb12⟩
          have HB12 := Lib.hid (chain HB11.out hb12)
          obtain ⟨_, _, B12, d12, g12, o12, vb, vl, _, rfl, _, _, _, _, _, _, he12⟩ := hat12.any.els
          obtain rfl := he12.hB (by simp)
          have e0 := he12.h0 1 _ rfl
          have e1 := he12.h1 1 _ rfl
          have e2 := he12.h2 1 _ rfl
          have hat13 := he12.hr 1 _ rfl
          obtain ⟨A13, m13, k13, B13, n13, q13, s1, s2⟩ := hat13.slices
          rw [s1] at e1 hat13
          rw [s2] at e2 hat13
          dsimp only [tagO] at e0
          rw [HOZ.out] at e0
          have HRT1 := Lib.hid (HRT.out w12 _ _ hat13)
          have hrg := range3o e0 e1 e2
          rw [Nat.one_mul] at e0 e1 e2 hrg
          clear hat12 hb12 HRQ1 he12 hat13 s1 s2 HRT
          go_wp2_with fail
          refine HRT1.out.mono ?_
          rintro e w13 ⟨rfl, hb13⟩
          have HB13 := Lib.hid (chain HB12.out hb13)
          clear hb13 HRT1 e0 e1 e2 hrg
          go_wp2_with fail
          go_ret
          exact ⟨rfl, HB13.out⟩
        · have hst : ¬ (s.size : Int) ≤ (t.size : Int) := by omega
          rw [if_neg hc3] at hrs
          have HRS := Lib.hid hrs
          clear hrs hlen hc3
          go_enter Try.func10, Try.ntmps10
          go_wp2_with fail
          refine HAL.out.mono ?_
          rintro e w1 ⟨rfl, hb1⟩
          have HB1 := Lib.hid hb1
          clear hb1 HAL
          go_wp2_with fail
          refine (HNU.out w1).mono ?_
          rintro e w2 ⟨x2, y2, rfl, hat2, hb2⟩
          obtain ⟨A2, m2, k2, B2, n2, q2, rfl, rfl⟩ := hat2.slices
          have HB2 := Lib.hid (chain HB1.out hb2)
          have HAT2 := Lib.hid hat2
          clear hat2 hb2
          go_wp2_with fail
          refine (HN1.out w2 _ _ HAT2.out).mono ?_
          rintro e w3 ⟨rfl, hb2⟩
          have HB3 := Lib.hid (chain HB2.out hb2)
          clear hb2 HAT2
          go_wp2_with fail
          refine (HNU.out w3).mono ?_
          rintro e w4 ⟨x4, y4, rfl, hat4, hb4⟩
          obtain ⟨A4, m4, k4, B4, n4, q4, rfl, rfl⟩ := hat4.slices
          have HB4 := Lib.hid (chain HB3.out hb4)
          have HAT4 := Lib.hid hat4
          clear hat4 hb4
          go_wp2_with fail
          refine (HN2.out w4 _ _ HAT4.out).mono ?_
          rintro e w5 ⟨rfl, hb4⟩
          have HB5 := Lib.hid (chain HB4.out hb4)
          clear hb4 HAT4
          go_wp2_with fail
          refine (HSS.out w5).mono ?_
          rintro e w6 ⟨x6, y6, rfl, hat6, hb6⟩
          obtain ⟨A6, m6, k6, B6, n6, q6, rfl, rfl⟩ := hat6.slices
          have HB6 := Lib.hid (chain HB5.out hb6)
          have HAT6 := Lib.hid hat6
          clear hat6 hb6
          go_wp2_with fail
          refine (HRS.out w6 _ _ HAT6.out).mono ?_
          rintro e w7 ⟨rfl, hb7⟩
          have HB7 := Lib.hid (chain HB6.out hb7)
          clear hb7 HAT6 HRS
          go_wp2_with fail
          refine (HSS.out w7).mono ?_
          rintro e w8 ⟨x8, y8, rfl, hat8, hb8⟩
          obtain ⟨A8, m8, k8, B8, n8, q8, rfl, rfl⟩ := hat8.slices
          have HB8 := Lib.hid (chain HB7.out hb8)
          have HAT8 := Lib.hid hat8
          clear hat8 hb8
          go_wp2_with fail
          refine (HST.out w8).mono ?_
          rintro e w9 ⟨x9, y9, rfl, hat9, hb9⟩
          obtain ⟨A9, m9, k9, B9, n9, q9, rfl, rfl⟩ := hat9.slices
          have HB9 := Lib.hid (chain HB8.out hb9)
          have HAT9 := Lib.hid hat9
          have HAT89 := Lib.hid (HAT8.out.on hb9)
          clear hat9 hb9
          go_wp2_with fail
          generalize hV : World.alloc w9 _ = w10
          have hb10 : Below w9.heap.size w9 w10 := by rw [← hV]; exact below_new _ _
          have hr10 : w10.heap[w9.heap.size]? = some (.cells #[.int .u8 tz, .slice A8 m8 k8, .slice B8 n8 q8, .int .u8 tz, .slice A9 m9 k9, .slice B9 n9 q9] 28 (0, 0)) := by rw [← hV]; exact heap_alloc_new _ _
          have HB10 := Lib.hid (chain HB9.out hb10)
          rw [← HTZ.out] at hr10
          try rw [← HOZ.out] at hr10
          have hsq := HSQ.out w10 _ 2 _ _ _ _ (two_els2 (HAT89.out.on hb10) (HAT9.out.on hb10) hr10)
          have HSQ1 := Lib.hid hsq
          clear hV hb10 hr10 hsq HAT8 HAT89 HAT9
          refine HSQ1.out.mono ?_
          rintro e w11 ⟨x11, y11, rfl, hat11, hb11⟩
          obtain ⟨A11, m11, k11, B11, n11, q11, rfl, rfl⟩ := hat11.slices
          have HRQ1 := Lib.hid (HRQ.out w11 _ _ hat11.any)
          have HB11 := Lib.hid (chain HB10.out hb11)
          unfold cell3
          dsimp only [tagO]
          rw [HTZ.out]
          unfold cell3 at HRQ1
          dsimp only [tagO] at HRQ1
          rw [HTZ.out] at HRQ1
          clear hat11 hb11 HSQ1 HRQ HSQ
          go_wp2_with fail
          refine HRQ1.out.mono ?_
          rintro e w12 ⟨v12, rfl, hat12, hb12⟩
          have HB12 := Lib.hid (chain HB11.out hb12)
          obtain ⟨_, _, B12, d12, g12, o12, vb, vl, _, rfl, _, _, _, _, _, _, he12⟩ := hat12.any.els
          obtain rfl := he12.hB (by simp)
          have e0 := he12.h0 1 _ rfl
          have e1 := he12.h1 1 _ rfl
          have e2 := he12.h2 1 _ rfl
          have hat13 := he12.hr 1 _ rfl
          obtain ⟨A13, m13, k13, B13, n13, q13, s1, s2⟩ := hat13.slices
          rw [s1] at e1 hat13
          rw [s2] at e2 hat13
          dsimp only [tagO] at e0
          rw [HOZ.out] at e0
          have HRT1 := Lib.hid (HRT.out w12 _ _ hat13)
          have hrg := range3o e0 e1 e2
          rw [Nat.one_mul] at e0 e1 e2 hrg
          clear hat12 hb12 HRQ1 he12 hat13 s1 s2 HRT
          go_wp2_with fail
          refine HRT1.out.mono ?_
          rintro e w13 ⟨rfl, hb13⟩
          have HB13 := Lib.hid (chain HB12.out hb13)
          clear hb13 HRT1 e0 e1 e2 hrg
          go_wp2_with fail
          go_ret
          exact ⟨rfl, HB13.out⟩
      · have hxy : ¬ (X : Int) ≤ (Y : Int) := by omega
        rw [if_neg (fun h => hc1 h.2)] at hn1
        have htne : ¬ tz = oz := fun e => hc2 (UInt8.toNat_inj.1 (by omega))
        rw [if_neg (fun h => hc2 h.1)] at hn2
        have heq : (tz == oz) = false := by simp [htne]
        have HN1 := Lib.hid hn1
        have HN2 := Lib.hid hn2
        clear hn1 hn2 htz hoz hc1 hc2 hX hY h8
        by_cases hc3 : s.size ≤ t.size
        · have hst : (s.size : Int) ≤ (t.size : Int) := by omega
          rw [if_pos hc3, str_back] at hrs
          have HRS := Lib.hid hrs
          clear hrs hlen hc3
          go_enter Try.func10, Try.ntmps10
          go_wp2_with fail
          refine HAL.out.mono ?_
          rintro e w1 ⟨rfl, hb1⟩
          have HB1 := Lib.hid hb1
          clear hb1 HAL
          go_wp2_with fail
          refine (HNU.out w1).mono ?_
          rintro e w2 ⟨x2, y2, rfl, hat2, hb2⟩
          obtain ⟨A2, m2, k2, B2, n2, q2, rfl, rfl⟩ := hat2.slices
          have HB2 := Lib.hid (chain HB1.out hb2)
          have HAT2 := Lib.hid hat2
          clear hat2 hb2
          go_wp2_with fail
          refine (HN1.out w2 _ _ HAT2.out).mono ?_
          rintro e w3 ⟨rfl, hb2⟩
          have HB3 := Lib.hid (chain HB2.out hb2)
          clear hb2 HAT2
          go_wp2_with fail
          refine (HNU.out w3).mono ?_
          rintro e w4 ⟨x4, y4, rfl, hat4, hb4⟩
          obtain ⟨A4, m4, k4, B4, n4, q4, rfl, rfl⟩ := hat4.slices
          have HB4 := Lib.hid (chain HB3.out hb4)
          have HAT4 := Lib.hid hat4
          clear hat4 hb4
          go_wp2_with fail
          refine (HN2.out w4 _ _ HAT4.out).mono ?_
          rintro e w5 ⟨rfl, hb4⟩
          have HB5 := Lib.hid (chain HB4.out hb4)
          clear hb4 HAT4
          go_wp2_with fail
          refine (HSS.out w5).mono ?_
          rintro e w6 ⟨x6, y6, rfl, hat6, hb6⟩
          obtain ⟨A6, m6, k6, B6, n6, q6, rfl, rfl⟩ := hat6.slices
          have HB6 := Lib.hid (chain HB5.out hb6)
          have HAT6 := Lib.hid hat6
          clear hat6 hb6
          go_wp2_with fail
          refine (HRS.out w6 _ _ HAT6.out).mono ?_
          rintro e w7 ⟨rfl, hb7⟩
          have HB7 := Lib.hid (chain HB6.out hb7)
          clear hb7 HAT6 HRS
          go_wp2_with fail
          refine (HSS.out w7).mono ?_
          rintro e w8 ⟨x8, y8, rfl, hat8, hb8⟩
          obtain ⟨A8, m8, k8, B8, n8, q8, rfl, rfl⟩ := hat8.slices
          have HB8 := Lib.hid (chain HB7.out hb8)
          have HAT8 := Lib.hid hat8
          clear hat8 hb8
          go_wp2_with fail
          refine (HST.out w8).mono ?_
          rintro e w9 ⟨x9, y9, rfl, hat9, hb9⟩
          obtain ⟨A9, m9, k9, B9, n9, q9, rfl, rfl⟩ := hat9.slices
          have HB9 := Lib.hid (chain HB8.out hb9)
          have HAT9 := Lib.hid hat9
          have HAT89 := Lib.hid (HAT8.out.on hb9)
          clear hat9 hb9
          go_wp2_with fail
          generalize hV : World.alloc w9 _ = w10
          have hb10 : Below w9.heap.size w9 w10 := by rw [← hV]; exact below_new _ _
          have hr10 : w10.heap[w9.heap.size]? = some (.cells #[.int .u8 tz, .slice A8 m8 k8, .slice B8 n8 q8, .int .u8 oz, .slice A9 m9 k9, .slice B9 n9 q9] 28 (0, 0)) := by rw [← hV]; exact heap_alloc_new _ _
          have HB10 := Lib.hid (chain HB9.out hb10)
          rw [← HTZ.out] at hr10
          try rw [← HOZ.out] at hr10
          have hsq := HSQ.out w10 _ 2 _ _ _ _ (two_els2 (HAT89.out.on hb10) (HAT9.out.on hb10) hr10)
          have HSQ1 := Lib.hid hsq
          clear hV hb10 hr10 hsq HAT8 HAT89 HAT9
          refine HSQ1.out.mono ?_
          rintro e w11 ⟨x11, y11, rfl, hat11, hb11⟩
          obtain ⟨A11, m11, k11, B11, n11, q11, rfl, rfl⟩ := hat11.slices
          have HRQ1 := Lib.hid (HRQ.out w11 _ _ hat11.any)
          have HB11 := Lib.hid (chain HB10.out hb11)
          unfold cell3
          dsimp only [tagO]
          rw [HTZ.out]
          unfold cell3 at HRQ1
          dsimp only [tagO] at HRQ1
          rw [HTZ.out] at HRQ1
          clear hat11 hb11 HSQ1 HRQ HSQ
          go_wp2_with fail
          refine HRQ1.out.mono ?_
          rintro e w12 ⟨v12, rfl, hat12, hb12⟩
          have HB12 := Lib.hid (chain HB11.out hb12)
          obtain ⟨_, _, B12, d12, g12, o12, vb, vl, _, rfl, _, _, _, _, _, _, he12⟩ := hat12.any.els
          obtain rfl := he12.hB (by simp)
          have e0 := he12.h0 1 _ rfl
          have e1 := he12.h1 1 _ rfl
          have e2 := he12.h2 1 _ rfl
          have hat13 := he12.hr 1 _ rfl
          obtain ⟨A13, m13, k13, B13, n13, q13, s1, s2⟩ := hat13.slices
          rw [s1] at e1 hat13
          rw [s2] at e2 hat13
          dsimp only [tagO] at e0
          rw [HOZ.out] at e0
          have HRT1 := Lib.hid (HRT.out w12 _ _ hat13)
          have hrg := range3o e0 e1 e2
          rw [Nat.one_mul] at e0 e1 e2 hrg
          clear hat12 hb12 HRQ1 he12 hat13 s1 s2 HRT
          go_wp2_with fail
          refine HRT1.out.mono ?_
          rintro e w13 ⟨rfl, hb13⟩
          have HB13 := Lib.hid (chain HB12.out hb13)
          clear hb13 HRT1 e0 e1 e2 hrg
          go_wp2_with fail
          go_ret
          exact ⟨rfl, HB13.out⟩
        · have hst : ¬ (s.size : Int) ≤ (t.size : Int) := by omega
          rw [if_neg hc3] at hrs
          have HRS := Lib.hid hrs
          clear hrs hlen hc3
          go_enter Try.func10, Try.ntmps10
          go_wp2_with fail
          refine HAL.out.mono ?_
          rintro e w1 ⟨rfl, hb1⟩
          have HB1 := Lib.hid hb1
          clear hb1 HAL
          go_wp2_with fail
          refine (HNU.out w1).mono ?_
          rintro e w2 ⟨x2, y2, rfl, hat2, hb2⟩
          obtain ⟨A2, m2, k2, B2, n2, q2, rfl, rfl⟩ := hat2.slices
          have HB2 := Lib.hid (chain HB1.out hb2)
          have HAT2 := Lib.hid hat2
          clear hat2 hb2
          go_wp2_with fail
          refine (HN1.out w2 _ _ HAT2.out).mono ?_
          rintro e w3 ⟨rfl, hb2⟩
          have HB3 := Lib.hid (chain HB2.out hb2)
          clear hb2 HAT2
          go_wp2_with fail
          refine (HNU.out w3).mono ?_
          rintro e w4 ⟨x4, y4, rfl, hat4, hb4⟩
          obtain ⟨A4, m4, k4, B4, n4, q4, rfl, rfl⟩ := hat4.slices
          have HB4 := Lib.hid (chain HB3.out hb4)
          have HAT4 := Lib.hid hat4
          clear hat4 hb4
          go_wp2_with fail
          refine (HN2.out w4 _ _ HAT4.out).mono ?_
          rintro e w5 ⟨rfl, hb4⟩
          have HB5 := Lib.hid (chain HB4.out hb4)
          clear hb4 HAT4
          go_wp2_with fail
          refine (HSS.out w5).mono ?_
          rintro e w6 ⟨x6, y6, rfl, hat6, hb6⟩
          obtain ⟨A6, m6, k6, B6, n6, q6, rfl, rfl⟩ := hat6.slices
          have HB6 := Lib.hid (chain HB5.out hb6)
          have HAT6 := Lib.hid hat6
          clear hat6 hb6
          go_wp2_with fail
          refine (HRS.out w6 _ _ HAT6.out).mono ?_
          rintro e w7 ⟨rfl, hb7⟩
          have HB7 := Lib.hid (chain HB6.out hb7)
          clear hb7 HAT6 HRS
          go_wp2_with fail
          refine (HSS.out w7).mono ?_
          rintro e w8 ⟨x8, y8, rfl, hat8, hb8⟩
          obtain ⟨A8, m8, k8, B8, n8, q8, rfl, rfl⟩ := hat8.slices
          have HB8 := Lib.hid (chain HB7.out hb8)
          have HAT8 := Lib.hid hat8
          clear hat8 hb8
          go_wp2_with fail
          refine (HST.out w8).mono ?_
          rintro e w9 ⟨x9, y9, rfl, hat9, hb9⟩
          obtain ⟨A9, m9, k9, B9, n9, q9, rfl, rfl⟩ := hat9.slices
          have HB9 := Lib.hid (chain HB8.out hb9)
          have HAT9 := Lib.hid hat9
          have HAT89 := Lib.hid (HAT8.out.on hb9)
          clear hat9 hb9
          go_wp2_with fail
          generalize hV : World.alloc w9 _ = w10
          have hb10 : Below w9.heap.size w9 w10 := by rw [← hV]; exact below_new _ _
          have hr10 : w10.heap[w9.heap.size]? = some (.cells #[.int .u8 tz, .slice A8 m8 k8, .slice B8 n8 q8, .int .u8 oz, .slice A9 m9 k9, .slice B9 n9 q9] 28 (0, 0)) := by rw [← hV]; exact heap_alloc_new _ _
          have HB10 := Lib.hid (chain HB9.out hb10)
          rw [← HTZ.out] at hr10
          try rw [← HOZ.out] at hr10
          have hsq := HSQ.out w10 _ 2 _ _ _ _ (two_els2 (HAT89.out.on hb10) (HAT9.out.on hb10) hr10)
          have HSQ1 := Lib.hid hsq
          clear hV hb10 hr10 hsq HAT8 HAT89 HAT9
          refine HSQ1.out.mono ?_
          rintro e w11 ⟨x11, y11, rfl, hat11, hb11⟩
          obtain ⟨A11, m11, k11, B11, n11, q11, rfl, rfl⟩ := hat11.slices
          have HRQ1 := Lib.hid (HRQ.out w11 _ _ hat11.any)
          have HB11 := Lib.hid (chain HB10.out hb11)
          unfold cell3
          dsimp only [tagO]
          rw [HTZ.out]
          unfold cell3 at HRQ1
          dsimp only [tagO] at HRQ1
          rw [HTZ.out] at HRQ1
          clear hat11 hb11 HSQ1 HRQ HSQ
          go_wp2_with fail
          refine HRQ1.out.mono ?_
          rintro e w12 ⟨v12, rfl, hat12, hb12⟩
          have HB12 := Lib.hid (chain HB11.out hb12)
          obtain ⟨_, _, B12, d12, g12, o12, vb, vl, _, rfl, _, _, _, _, _, _, he12⟩ := hat12.any.els
          obtain rfl := he12.hB (by simp)
          have e0 := he12.h0 1 _ rfl
          have e1 := he12.h1 1 _ rfl
          have e2 := he12.h2 1 _ rfl
          have hat13 := he12.hr 1 _ rfl
          obtain ⟨A13, m13, k13, B13, n13, q13, s1, s2⟩ := hat13.slices
          rw [s1] at e1 hat13
          rw [s2] at e2 hat13
          dsimp only [tagO] at e0
          rw [HOZ.out] at e0
          have HRT1 := Lib.hid (HRT.out w12 _ _ hat13)
          have hrg := range3o e0 e1 e2
          rw [Nat.one_mul] at e0 e1 e2 hrg
          clear hat12 hb12 HRQ1 he12 hat13 s1 s2 HRT
          go_wp2_with fail
          refine HRT1.out.mono ?_
          rintro e w13 ⟨rfl, hb13⟩
          have HB13 := Lib.hid (chain HB12.out hb13)
          clear hb13 HRT1 e0 e1 e2 hrg
          go_wp2_with fail
          go_ret
          exact ⟨rfl, HB13.out⟩
  · rw [htz, hoz]
    clear htz hoz hX hY h8
    obtain ⟨sn, hsn⟩ : ∃ n, s.size = n := ⟨_, rfl⟩
    by_cases h1 : 1000 < s.size
    · have h1i : (1000 : Int) < (s.size : Int) := by omega
      clear hlen hsn
      go_enter Try.func10, Try.ntmps10
      go_wp2_with fail
      refine HAL.out.mono ?_
      rintro e w1 ⟨rfl, hb1⟩
      have HB1 := Lib.hid hb1
      clear hb1 HAL
      go_wp2_with fail
      go_ret
      exact ⟨rfl, HB1.out⟩
    · have h1i : ¬ (1000 : Int) < (s.size : Int) := by omega
      have h2i : (1000 : Int) < (t.size : Int) := by omega
      clear hlen hsn
      go_enter Try.func10, Try.ntmps10
      go_wp2_with fail
      refine HAL.out.mono ?_
      rintro e w1 ⟨rfl, hb1⟩
      have HB1 := Lib.hid hb1
      clear hb1 HAL
      go_wp2_with fail
      go_ret
      exact ⟨rfl, HB1.out⟩
/-! The row -/
set_option maxRecDepth 100000 in
theorem numbers8_lifted (os : Os) (started : os.Started) (H : Type) (enc : TypeId × Value → H) :
    ReturnsInHanded {} Try.checked os 10 .any (Rows.octetNumbersSpec.pre6 enc Try.prog Try.f10 Rows.octetNumbersRow.domain false) (Rows.octetNumbersSpec.post enc Try.prog Try.f10 false true false false) := by
  refine sized_of_change (C := Try.checked) Try.own started (by kernel_rfl) Try.func10 rfl
    (ChangeSpec.witness6 (enc := enc) (C := Try.checked) false ⟨#[], #[.int .u8 0, .int .u8 0, .int .u64 0, .int .u64 0, .string ⟨#[]⟩, .string ⟨#[]⟩], []⟩ 8 (by kernel_rfl) (by kernel_rfl) (by kernel_rfl) (by kernel_rfl)) ?_
  intro W base args ds gs before hval0 hW hwts
  have hval : ∀ (j : Nat) t v, Try.f10.params[j]? = some t → args[j]? = some v → Value.okWide Try.prog W .any base t v := hval0
  have hW' := hW
  obtain ⟨p, q, hA0, hV, rfl, hfz, hnd⟩ := hW
  have hA : DataW.TrodAll enc Try.prog W 0 (fun _ => true) true Try.f10.params.toList args.toList ds p := hA0
  have hwt : ∀ n ∈ DataW.weightsEach Try.prog Try.f10.params.toList ds, n ≤ 140737488355328 := hwts
  rw [Try.params10] at hA hval hwt
  obtain ⟨v0, vs0, d0, ds0, p0, q0, hargs, rfl, rfl, h0, r0⟩ := trodAll_cons hA
  obtain ⟨v1, vs1, d1, ds1, p1, q1, rfl, rfl, rfl, h1, r1⟩ := trodAll_cons r0
  obtain ⟨v2, vs2, d2, ds2, p2, q2, rfl, rfl, rfl, h2, r2⟩ := trodAll_cons r1
  obtain ⟨v3, vs3, d3, ds3, p3, q3, rfl, rfl, rfl, h3, r3⟩ := trodAll_cons r2
  obtain ⟨v4, vs4, d4, ds4, p4, q4, rfl, rfl, rfl, h4, r4⟩ := trodAll_cons r3
  obtain ⟨v5, vs5, d5, ds5, p5, q5, rfl, rfl, rfl, h5, r5⟩ := trodAll_cons r4
  obtain ⟨rfl, rfl, rfl⟩ := trodAll_nil r5
  obtain rfl : args = #[v0, v1, v2, v3, v4, v5] := by cases args; simp_all
  obtain ⟨rfl, rfl⟩ := trodVars_none hV
  obtain ⟨z0, rfl, e0, f0, g0⟩ := open_int Try.underlying5 (hval 0 5 v0 rfl rfl) h0
  have b0 := bounds_u8 g0
  obtain ⟨tg0, rfl⟩ : ∃ tg : UInt8, ((tg.toNat : Nat) : Int) = z0 := ⟨UInt8.ofNat z0.toNat, by rw [UInt8.toNat_ofNat']; omega⟩
  obtain ⟨z1, rfl, e1, f1, g1⟩ := open_int Try.underlying5 (hval 1 5 v1 rfl rfl) h1
  have b1 := bounds_u8 g1
  obtain ⟨tg1, rfl⟩ : ∃ tg : UInt8, ((tg.toNat : Nat) : Int) = z1 := ⟨UInt8.ofNat z1.toNat, by rw [UInt8.toNat_ofNat']; omega⟩
  obtain ⟨z2, rfl, e2, f2, g2⟩ := open_int Try.underlying32 (hval 2 32 v2 rfl rfl) h2
  have b2 := bounds_u64 g2
  obtain ⟨X2, rfl⟩ : ∃ X : Nat, (X : Int) = z2 := ⟨z2.toNat, by omega⟩
  have hX2 : X2 < 256 ^ 8 := by
    have h3 : (256 : Nat) ^ 8 = 18446744073709551616 := by decide
    omega
  obtain ⟨z3, rfl, e3, f3, g3⟩ := open_int Try.underlying32 (hval 3 32 v3 rfl rfl) h3
  have b3 := bounds_u64 g3
  obtain ⟨X3, rfl⟩ : ∃ X : Nat, (X : Int) = z3 := ⟨z3.toNat, by omega⟩
  have hX3 : X3 < 256 ^ 8 := by
    have h3 : (256 : Nat) ^ 8 = 18446744073709551616 := by decide
    omega
  obtain ⟨s4, rfl, e4, f4, g4⟩ := Go.ChangeMaps.open_string Try.underlying9 (hval 4 9 v4 rfl rfl) h4
  obtain ⟨s5, rfl, e5, f5, g5⟩ := Go.ChangeMaps.open_string Try.underlying9 (hval 5 9 v5 rfl rfl) h5
  refine (numbers_true W tg0 tg1 X2 hX2 X3 hX3 s4 g4 s5 g5).mono fun e W' ⟨he, hg⟩ => ?_
  subst he
  exact ⟨_, rfl, law_post Try.laidOut (by kernel_rfl) (by kernel_rfl) hW' hg (trodAll_cons_mk (shut_bool Try.underlying4 _) trodAll_mk0) rfl rfl⟩

/-- the statement -/
theorem numbers8_holds : Rows.OctetNumbersSaid :=
  OpenClaim.holds_of_wide 10 Try.f10 rfl rfl rfl rfl rfl rfl rfl ⟨rfl, rfl, rfl, rfl, rfl⟩ rfl rfl rfl rfl rfl (by kernel_rfl) Try.func10 (by kernel_rfl)
    (of_decide_eq_true (by kernel_rfl)) (by unfold Func.isWrapper; rw [if_neg (of_decide_eq_false (by kernel_rfl))]; exact ⟨rfl, rfl⟩)
    (fun os started H enc _ => numbers8_lifted os started H enc)
#print axioms numbers8_holds
end Go.Proofs.Ytlbchefdkdngnaa
