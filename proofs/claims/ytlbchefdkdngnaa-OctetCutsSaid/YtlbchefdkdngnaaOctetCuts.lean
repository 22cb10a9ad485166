/-
  OctetCuts: no encoding is a proper beginning of another one. Written by wip/gen-oc19.py.
-/
import Derived.Test.YtlbchefdkdngnaaOcRJ
namespace Go.Proofs.Ytlbchefdkdngnaa
open Go.ChangeShapes Go.WideShapes Go.ChangeAt Go.RowKit Sha Oc
set_option linter.unusedVariables false
set_option linter.unusedSimpArgs false
set_option maxRecDepth 100000
set_option maxHeartbeats 8000000 in
theorem cuts_true (w : World) (o : Oct) (x y : Value) (hat : At (fun _ => True) w o x y) (n : Int) (l2 : List UInt8) (A2 : Option Addr) (c2 : Nat) (hc2 : l2.length ≤ c2) (hcm2 : c2 ≤ 140737488355328) (hn2 : A2 = none → c2 = 0) (hs2 : SrcAt A2 l2 w) :
    Calls Try.prog 9 #[.agg (cell3 o x y), .int .i64 n, .slice A2 l2.length c2] w (fun e w' => e = .returned (.bool true) ∧ Below w.heap.size w w') := by
  have HGT := Lib.hid (fun (V : World) (hb : Below w.heap.size w V) => great8_any o V x y (hat.on hb))
  have HEN := Lib.hid (fun (hcn : cnt o ≤ 5000) (htt : tot o ≤ 100000) (V : World) (hb : Below w.heap.size w V) => encode_any o hcn htt V x y (hat.on hb))
  unfold GtPost at HGT
  unfold EncPost at HEN
  obtain ⟨A1, m1, c1, B1, n1, d1, rfl, rfl⟩ := hat.slices
  obtain ⟨tz, htz⟩ : ∃ tz : Int, ((tagO o).toNat : Int) = tz := ⟨_, rfl⟩
  obtain ⟨m2, hm2⟩ : ∃ m2, l2.length = m2 := ⟨_, rfl⟩
  have HL2 := Lib.hid hm2
  have HS2 := Lib.hid hs2
  have HN2 := Lib.hid hn2
  have hmm2 : m2 ≤ 140737488355328 := by omega
  unfold cell3 at HGT HEN
  show Calls Try.prog 9 #[.agg #[.int .u8 ((tagO o).toNat : Int), .slice A1 m1 c1, .slice B1 n1 d1], .int .i64 n, .slice A2 l2.length c2] w _
  rw [htz] at HGT HEN ⊢
  rw [hm2]
  clear htz hat hc2 hcm2 hn2 hs2 hm2
  have HROW := Lib.hid (heap_alloc_new w (.cells #[.int .u8 tz, .slice A1 m1 c1, .slice B1 n1 d1] 28))
  have HB0 := Lib.hid (below_new w (.cells #[.int .u8 tz, .slice A1 m1 c1, .slice B1 n1 d1] 28))
  go_enter Try.func9, Try.ntmps9
  go_upto_region 1 with (fail)
  generalize hV : World.alloc w _ = V at HROW HB0 ⊢
  clear hV
  go_wp2_with fail
  refine (alive8_any V).mono ?_
  rintro e w1 ⟨rfl, hb1⟩
  have HR1 := Lib.hid (row_on HROW.out hb1)
  have HB1 := Lib.hid (chain HB0.out hb1)
  clear hb1 HROW HB0
  have hlq := (Array.getElem?_eq_some_iff.1 HR1.out).1
  obtain ⟨_, q0, q1, q2⟩ := facts3 HR1.out
  have hrq := range3o q0 q1 q2
  go_wp2_with fail
  refine (HGT.out w1 HB1.out).mono ?_
  rintro e w2 ⟨bb, rfl, hgt, hb2⟩
  have HR2 := Lib.hid (row_on HR1.out hb2)
  have HB2 := Lib.hid (chain HB1.out hb2)
  clear hb2 HR1 HGT
  clear hlq q0 q1 q2 hrq
  cases bb with
  | true =>
    clear hgt
    go_wp2_with fail
    go_ret
    exact ⟨rfl, HB2.out⟩
  | false =>
    have hcn : cnt o ≤ 5000 := by have := hgt rfl; omega
    have htt : tot o ≤ 100000 := by have := hgt rfl; omega
    have HEN2 := Lib.hid (HEN.out hcn htt w2 HB2.out)
    clear hgt HEN hcn htt
    by_cases h10 : 1000 < m2
    · have h10i : (1000 : Int) < (m2 : Int) := by omega
      go_wp2_with fail
      go_ret
      exact ⟨rfl, HB2.out⟩
    · have h10i : ¬ (1000 : Int) < (m2 : Int) := by omega
      have HL21 : RowKit.Hid (m2 ≤ 1000) := Lib.hid (by omega)
      have hlq := (Array.getElem?_eq_some_iff.1 HR2.out).1
      obtain ⟨_, q0, q1, q2⟩ := facts3 HR2.out
      have hrq := range3o q0 q1 q2
      go_wp2_with fail
      refine HEN2.out.mono ?_
      rintro e w3 ⟨hb3, ⟨hk, v3, rfl, hown⟩ | ⟨hk, rfl⟩⟩
      · obtain ⟨A9, c9, rfl, hc9, hn9, hs9, _⟩ := own_rd3 hown
        obtain ⟨M, hM⟩ : ∃ M, (enc o).length = M := ⟨_, rfl⟩
        have HB3 := Lib.hid (chain HB2.out hb3)
        have hg := (ckV_good o).1 hk
        have HM9 := Lib.hid hM
        have HM6 : RowKit.Hid (M ≤ 65536) := Lib.hid (by have := hg.2.2.2; omega)
        have HK := Lib.hid hk
        have HN9 := Lib.hid hn9
        have HC9 : RowKit.Hid (M ≤ c9) := Lib.hid (by omega)
        rw [hM]
        have HS3 := Lib.hid hs9
        clear hb3 hown hc9 hn9 hs9 hM hg hk HEN2 HR2 hlq q0 q1 q2 hrq
        have hm6 := HM6.out
        have hcc := HC9.out
        by_cases hn0 : 0 ≤ n ∧ n < (M : Int)
        · obtain ⟨K, rfl⟩ : ∃ K : Nat, n = (K : Int) := ⟨n.toNat, by omega⟩
          have hn00 : (0 : Int) ≤ (K : Int) := by omega
          have hn01 : (K : Int) < (M : Int) := hn0.2
          have hKc : K ≤ c9 := by omega
          have HDL := Lib.hid (decV_less o HK.out K (by rw [HM9.out]; omega))
          have htl : ((enc o).take K).length = K := by rw [List.length_take, HM9.out]; omega
          have hde := decode_any ((enc o).take K) (by rw [htl]; omega) A9 c9 (by rw [htl]; omega) HN9.out w3 (srcAt_take HS3.out K)
          rw [htl] at hde
          unfold DecPost at hde
          have HDE := Lib.hid hde
          clear hn0 htl hde
          go_wp2_with fail
          refine HDE.out.mono ?_
          rintro e w4 ⟨hb4, x4, y4, rfl, hat4⟩
          rw [HDL.out] at hat4 ⊢
          obtain ⟨A4, m4, c4, B4, n4, d4, rfl, rfl⟩ := hat4.slices
          have HB4 := Lib.hid (chain HB3.out hb4)
          have HS4 := Lib.hid (HS3.out.on hb4)
          unfold cell3
          dsimp only [tagO]
          clear hb4 hat4 HDE HDL HB3 HS3
          go_upto_region 9 with (fail)
          generalize hV : World.alloc w4 _ = w9
          have hb9 : Below w4.heap.size w4 w9 := by rw [← hV]; exact below_new _ _
          have HB9 := Lib.hid (chain HB4.out hb9)
          have HS9 := Lib.hid (HS4.out.on hb9)
          clear hV hb9 HB4 HS4
          by_cases h2 : m2 = 0
          · have hl2 : l2 = [] := List.length_eq_zero_iff.1 (by rw [HL2.out]; exact h2)
            have HDM : RowKit.Hid (decV (enc o ++ l2) = (o, 0)) := Lib.hid (by rw [hl2, List.append_nil]; exact decV_enc o HK.out)
            clear hl2
            subst h2
            go_upto_region 12 with (first
              | (at_builtin; refine append_src_at rfl (.tmp 53) (.tmp 54) rfl w9.heap.size _ 0 [] rfl (own_empty8 (heap_alloc_new w9 _) (Nat.le_refl _)) A9 (enc o) c9 M HM9.out rfl HN9.out (HS9.out.on (below_new w9 _)) (by have := HM6.out; omega) (by simp) ?_; intro v1 z1 hg1; have HG1 := Lib.hid hg1; clear hg1)
              | (at_builtin; refine append_src_at rfl (.tmp 55) (.tmp 56) rfl w9.heap.size _ _ _ rfl HG1.out.own A2 l2 c2 0 HL2.out rfl HN2.out (HS2.out.on ((HB9.out.trans ((below_new w9 _).mono HB9.out.size)).trans (HG1.out.below (own_empty8 (heap_alloc_new w9 (.cells #[] 5)) (Nat.le_refl _)) (by simp) |>.mono HB9.out.size))) (by have := HM6.out; have := HL21.out; omega) (by have := HG1.out.grown.size; simp at this; omega) ?_; intro v2 z2 hg2; have HG2 := Lib.hid hg2; clear hg2))
            have hown := HG2.out.own
            have hbz : Below w.heap.size w z2 := ((HB9.out.trans ((below_new w9 _).mono HB9.out.size)).trans (HG1.out.below (own_empty8 (heap_alloc_new w9 (.cells #[] 5)) (Nat.le_refl _)) (by simp) |>.mono HB9.out.size)).trans ((Below.refl _ _).grown HG2.out.grown (by have h1 := HG1.out.grown.size; have h2 := HB9.out.size; simp at h1; omega) (fun j hj => by have h1 := (HG1.out.own.lt j hj).1; have h2 := HB9.out.size; omega))
            have HBZ := Lib.hid hbz
            rw [List.nil_append, ← bvals_app, show 0 + M + 0 = (enc o ++ l2).length by rw [List.length_append, HM9.out, HL2.out]; omega] at hown
            obtain ⟨AZ, cz, rfl, hcz, hnz, hsz, _⟩ := own_rd3 hown
            have HDZ := Lib.hid (decode_any (enc o ++ l2) (by rw [List.length_append, HM9.out, HL2.out]; have := HM6.out; have := HL21.out; omega) AZ cz hcz hnz z2 hsz)
            unfold DecPost at HDZ
            obtain ⟨MM, hMM⟩ : ∃ MM, (enc o ++ l2).length = MM := ⟨_, rfl⟩
            rw [hMM] at HDZ ⊢
            clear hown hbz hcz hnz hsz hMM HG1 HG2
            go_wp2_with fail
            refine HDZ.out.mono ?_
            rintro e z3 ⟨hb3, x3, y3, rfl, hat3⟩
            have HBZ3 := Lib.hid (chain HBZ.out hb3)
            obtain ⟨A3, m3, c3, B3, n3, d3, rfl, rfl⟩ := hat3.slices
            rw [HDM.out]
            unfold cell3
            obtain ⟨tq, htq⟩ : ∃ tq : Int, ((tagO o).toNat : Int) = tq := ⟨_, rfl⟩
            rw [htq]
            clear hb3 hat3 htq HDZ HBZ
            go_upto_region 13 with (fail)
            generalize hV : World.alloc z3 _ = z4
            have HB4 := Lib.hid (show Below w.heap.size w z4 by rw [← hV]; exact chain HBZ3.out (below_new _ _))
            clear hV HBZ3
            go_wp2_with fail
            go_ret
            exact ⟨rfl, HB4.out⟩
          · have hm2 : ((m2 : Int) == 0) = false := by simp [h2]
            have hne : (decV (enc o ++ l2)).2 ≠ 0 := fun e => h2 (by rw [← HL2.out, (decV_more o HK.out l2).1 e]; rfl)
            rcases decV_cases (enc o ++ l2) with ⟨o', hd, _, _⟩ | ⟨hd, _⟩ | ⟨hd, _⟩
            · exact absurd (by rw [hd]) hne
            · have HDM := Lib.hid hd
              clear hd hne h2
              go_upto_region 12 with (first
                | (at_builtin; refine append_src_at rfl (.tmp 53) (.tmp 54) rfl w9.heap.size _ 0 [] rfl (own_empty8 (heap_alloc_new w9 _) (Nat.le_refl _)) A9 (enc o) c9 M HM9.out rfl HN9.out (HS9.out.on (below_new w9 _)) (by have := HM6.out; omega) (by simp) ?_; intro v1 z1 hg1; have HG1 := Lib.hid hg1; clear hg1)
                | (at_builtin; refine append_src_at rfl (.tmp 55) (.tmp 56) rfl w9.heap.size _ _ _ rfl HG1.out.own A2 l2 c2 m2 HL2.out rfl HN2.out (HS2.out.on ((HB9.out.trans ((below_new w9 _).mono HB9.out.size)).trans (HG1.out.below (own_empty8 (heap_alloc_new w9 (.cells #[] 5)) (Nat.le_refl _)) (by simp) |>.mono HB9.out.size))) (by have := HM6.out; have := HL21.out; omega) (by have := HG1.out.grown.size; simp at this; omega) ?_; intro v2 z2 hg2; have HG2 := Lib.hid hg2; clear hg2))
              have hown := HG2.out.own
              have hbz : Below w.heap.size w z2 := ((HB9.out.trans ((below_new w9 _).mono HB9.out.size)).trans (HG1.out.below (own_empty8 (heap_alloc_new w9 (.cells #[] 5)) (Nat.le_refl _)) (by simp) |>.mono HB9.out.size)).trans ((Below.refl _ _).grown HG2.out.grown (by have h1 := HG1.out.grown.size; have h2 := HB9.out.size; simp at h1; omega) (fun j hj => by have h1 := (HG1.out.own.lt j hj).1; have h2 := HB9.out.size; omega))
              have HBZ := Lib.hid hbz
              rw [List.nil_append, ← bvals_app, show 0 + M + m2 = (enc o ++ l2).length by rw [List.length_append, HM9.out, HL2.out]; omega] at hown
              obtain ⟨AZ, cz, rfl, hcz, hnz, hsz, _⟩ := own_rd3 hown
              have HDZ := Lib.hid (decode_any (enc o ++ l2) (by rw [List.length_append, HM9.out, HL2.out]; have := HM6.out; have := HL21.out; omega) AZ cz hcz hnz z2 hsz)
              unfold DecPost at HDZ
              obtain ⟨MM, hMM⟩ : ∃ MM, (enc o ++ l2).length = MM := ⟨_, rfl⟩
              rw [hMM] at HDZ ⊢
              clear hown hbz hcz hnz hsz hMM HG1 HG2
              go_wp2_with fail
              refine HDZ.out.mono ?_
              rintro e z3 ⟨hb3, x3, y3, rfl, hat3⟩
              have HBZ3 := Lib.hid (chain HBZ.out hb3)
              obtain ⟨A3, m3, c3, B3, n3, d3, rfl, rfl⟩ := hat3.slices
              rw [HDM.out]
              unfold cell3
              obtain ⟨tq, htq⟩ : ∃ tq : Int, ((tagO nilO).toNat : Int) = tq := ⟨_, rfl⟩
              rw [htq]
              clear hb3 hat3 htq HDZ HBZ
              go_upto_region 13 with (fail)
              generalize hV : World.alloc z3 _ = z4
              have HB4 := Lib.hid (show Below w.heap.size w z4 by rw [← hV]; exact chain HBZ3.out (below_new _ _))
              clear hV HBZ3
              go_wp2_with fail
              go_ret
              exact ⟨rfl, HB4.out⟩
            · have HDM := Lib.hid hd
              clear hd hne h2
              go_upto_region 12 with (first
                | (at_builtin; refine append_src_at rfl (.tmp 53) (.tmp 54) rfl w9.heap.size _ 0 [] rfl (own_empty8 (heap_alloc_new w9 _) (Nat.le_refl _)) A9 (enc o) c9 M HM9.out rfl HN9.out (HS9.out.on (below_new w9 _)) (by have := HM6.out; omega) (by simp) ?_; intro v1 z1 hg1; have HG1 := Lib.hid hg1; clear hg1)
                | (at_builtin; refine append_src_at rfl (.tmp 55) (.tmp 56) rfl w9.heap.size _ _ _ rfl HG1.out.own A2 l2 c2 m2 HL2.out rfl HN2.out (HS2.out.on ((HB9.out.trans ((below_new w9 _).mono HB9.out.size)).trans (HG1.out.below (own_empty8 (heap_alloc_new w9 (.cells #[] 5)) (Nat.le_refl _)) (by simp) |>.mono HB9.out.size))) (by have := HM6.out; have := HL21.out; omega) (by have := HG1.out.grown.size; simp at this; omega) ?_; intro v2 z2 hg2; have HG2 := Lib.hid hg2; clear hg2))
              have hown := HG2.out.own
              have hbz : Below w.heap.size w z2 := ((HB9.out.trans ((below_new w9 _).mono HB9.out.size)).trans (HG1.out.below (own_empty8 (heap_alloc_new w9 (.cells #[] 5)) (Nat.le_refl _)) (by simp) |>.mono HB9.out.size)).trans ((Below.refl _ _).grown HG2.out.grown (by have h1 := HG1.out.grown.size; have h2 := HB9.out.size; simp at h1; omega) (fun j hj => by have h1 := (HG1.out.own.lt j hj).1; have h2 := HB9.out.size; omega))
              have HBZ := Lib.hid hbz
              rw [List.nil_append, ← bvals_app, show 0 + M + m2 = (enc o ++ l2).length by rw [List.length_append, HM9.out, HL2.out]; omega] at hown
              obtain ⟨AZ, cz, rfl, hcz, hnz, hsz, _⟩ := own_rd3 hown
              have HDZ := Lib.hid (decode_any (enc o ++ l2) (by rw [List.length_append, HM9.out, HL2.out]; have := HM6.out; have := HL21.out; omega) AZ cz hcz hnz z2 hsz)
              unfold DecPost at HDZ
              obtain ⟨MM, hMM⟩ : ∃ MM, (enc o ++ l2).length = MM := ⟨_, rfl⟩
              rw [hMM] at HDZ ⊢
              clear hown hbz hcz hnz hsz hMM HG1 HG2
              go_wp2_with fail
              refine HDZ.out.mono ?_
              rintro e z3 ⟨hb3, x3, y3, rfl, hat3⟩
              have HBZ3 := Lib.hid (chain HBZ.out hb3)
              obtain ⟨A3, m3, c3, B3, n3, d3, rfl, rfl⟩ := hat3.slices
              rw [HDM.out]
              unfold cell3
              obtain ⟨tq, htq⟩ : ∃ tq : Int, ((tagO nilO).toNat : Int) = tq := ⟨_, rfl⟩
              rw [htq]
              clear hb3 hat3 htq HDZ HBZ
              go_upto_region 13 with (fail)
              generalize hV : World.alloc z3 _ = z4
              have HB4 := Lib.hid (show Below w.heap.size w z4 by rw [← hV]; exact chain HBZ3.out (below_new _ _))
              clear hV HBZ3
              go_wp2_with fail
              go_ret
              exact ⟨rfl, HB4.out⟩
        · obtain ⟨w9, h9⟩ : ∃ w9, w3 = w9 := ⟨_, rfl⟩
          subst h9
          obtain ⟨w9, h9⟩ : ∃ w9, w3 = w9 := ⟨_, rfl⟩
          rw [h9] at HB3 HS3 ⊢
          have HB9 := Lib.hid HB3.out
          have HS9 := Lib.hid HS3.out
          clear h9 HB3 HS3
          by_cases hn1 : 0 ≤ n
          · have hn2 : ¬ n < (M : Int) := fun h => hn0 ⟨hn1, h⟩
            clear hn0
            by_cases h2 : m2 = 0
            · have hl2 : l2 = [] := List.length_eq_zero_iff.1 (by rw [HL2.out]; exact h2)
              have HDM : RowKit.Hid (decV (enc o ++ l2) = (o, 0)) := Lib.hid (by rw [hl2, List.append_nil]; exact decV_enc o HK.out)
              clear hl2
              subst h2
              go_upto_region 12 with (first
                | (at_builtin; refine append_src_at rfl (.tmp 53) (.tmp 54) rfl w9.heap.size _ 0 [] rfl (own_empty8 (heap_alloc_new w9 _) (Nat.le_refl _)) A9 (enc o) c9 M HM9.out rfl HN9.out (HS9.out.on (below_new w9 _)) (by have := HM6.out; omega) (by simp) ?_; intro v1 z1 hg1; have HG1 := Lib.hid hg1; clear hg1)
                | (at_builtin; refine append_src_at rfl (.tmp 55) (.tmp 56) rfl w9.heap.size _ _ _ rfl HG1.out.own A2 l2 c2 0 HL2.out rfl HN2.out (HS2.out.on ((HB9.out.trans ((below_new w9 _).mono HB9.out.size)).trans (HG1.out.below (own_empty8 (heap_alloc_new w9 (.cells #[] 5)) (Nat.le_refl _)) (by simp) |>.mono HB9.out.size))) (by have := HM6.out; have := HL21.out; omega) (by have := HG1.out.grown.size; simp at this; omega) ?_; intro v2 z2 hg2; have HG2 := Lib.hid hg2; clear hg2))
              have hown := HG2.out.own
              have hbz : Below w.heap.size w z2 := ((HB9.out.trans ((below_new w9 _).mono HB9.out.size)).trans (HG1.out.below (own_empty8 (heap_alloc_new w9 (.cells #[] 5)) (Nat.le_refl _)) (by simp) |>.mono HB9.out.size)).trans ((Below.refl _ _).grown HG2.out.grown (by have h1 := HG1.out.grown.size; have h2 := HB9.out.size; simp at h1; omega) (fun j hj => by have h1 := (HG1.out.own.lt j hj).1; have h2 := HB9.out.size; omega))
              have HBZ := Lib.hid hbz
              rw [List.nil_append, ← bvals_app, show 0 + M + 0 = (enc o ++ l2).length by rw [List.length_append, HM9.out, HL2.out]; omega] at hown
              obtain ⟨AZ, cz, rfl, hcz, hnz, hsz, _⟩ := own_rd3 hown
              have HDZ := Lib.hid (decode_any (enc o ++ l2) (by rw [List.length_append, HM9.out, HL2.out]; have := HM6.out; have := HL21.out; omega) AZ cz hcz hnz z2 hsz)
              unfold DecPost at HDZ
              obtain ⟨MM, hMM⟩ : ∃ MM, (enc o ++ l2).length = MM := ⟨_, rfl⟩
              rw [hMM] at HDZ ⊢
              clear hown hbz hcz hnz hsz hMM HG1 HG2
              go_wp2_with fail
              refine HDZ.out.mono ?_
              rintro e z3 ⟨hb3, x3, y3, rfl, hat3⟩
              have HBZ3 := Lib.hid (chain HBZ.out hb3)
              obtain ⟨A3, m3, c3, B3, n3, d3, rfl, rfl⟩ := hat3.slices
              rw [HDM.out]
              unfold cell3
              obtain ⟨tq, htq⟩ : ∃ tq : Int, ((tagO o).toNat : Int) = tq := ⟨_, rfl⟩
              rw [htq]
              clear hb3 hat3 htq HDZ HBZ
              go_upto_region 13 with (fail)
              generalize hV : World.alloc z3 _ = z4
              have HB4 := Lib.hid (show Below w.heap.size w z4 by rw [← hV]; exact chain HBZ3.out (below_new _ _))
              clear hV HBZ3
              go_wp2_with fail
              go_ret
              exact ⟨rfl, HB4.out⟩
            · have hm2 : ((m2 : Int) == 0) = false := by simp [h2]
              have hne : (decV (enc o ++ l2)).2 ≠ 0 := fun e => h2 (by rw [← HL2.out, (decV_more o HK.out l2).1 e]; rfl)
              rcases decV_cases (enc o ++ l2) with ⟨o', hd, _, _⟩ | ⟨hd, _⟩ | ⟨hd, _⟩
              · exact absurd (by rw [hd]) hne
              · have HDM := Lib.hid hd
                clear hd hne h2
                go_upto_region 12 with (first
                  | (at_builtin; refine append_src_at rfl (.tmp 53) (.tmp 54) rfl w9.heap.size _ 0 [] rfl (own_empty8 (heap_alloc_new w9 _) (Nat.le_refl _)) A9 (enc o) c9 M HM9.out rfl HN9.out (HS9.out.on (below_new w9 _)) (by have := HM6.out; omega) (by simp) ?_; intro v1 z1 hg1; have HG1 := Lib.hid hg1; clear hg1)
                  | (at_builtin; refine append_src_at rfl (.tmp 55) (.tmp 56) rfl w9.heap.size _ _ _ rfl HG1.out.own A2 l2 c2 m2 HL2.out rfl HN2.out (HS2.out.on ((HB9.out.trans ((below_new w9 _).mono HB9.out.size)).trans (HG1.out.below (own_empty8 (heap_alloc_new w9 (.cells #[] 5)) (Nat.le_refl _)) (by simp) |>.mono HB9.out.size))) (by have := HM6.out; have := HL21.out; omega) (by have := HG1.out.grown.size; simp at this; omega) ?_; intro v2 z2 hg2; have HG2 := Lib.hid hg2; clear hg2))
                have hown := HG2.out.own
                have hbz : Below w.heap.size w z2 := ((HB9.out.trans ((below_new w9 _).mono HB9.out.size)).trans (HG1.out.below (own_empty8 (heap_alloc_new w9 (.cells #[] 5)) (Nat.le_refl _)) (by simp) |>.mono HB9.out.size)).trans ((Below.refl _ _).grown HG2.out.grown (by have h1 := HG1.out.grown.size; have h2 := HB9.out.size; simp at h1; omega) (fun j hj => by have h1 := (HG1.out.own.lt j hj).1; have h2 := HB9.out.size; omega))
                have HBZ := Lib.hid hbz
                rw [List.nil_append, ← bvals_app, show 0 + M + m2 = (enc o ++ l2).length by rw [List.length_append, HM9.out, HL2.out]; omega] at hown
                obtain ⟨AZ, cz, rfl, hcz, hnz, hsz, _⟩ := own_rd3 hown
                have HDZ := Lib.hid (decode_any (enc o ++ l2) (by rw [List.length_append, HM9.out, HL2.out]; have := HM6.out; have := HL21.out; omega) AZ cz hcz hnz z2 hsz)
                unfold DecPost at HDZ
                obtain ⟨MM, hMM⟩ : ∃ MM, (enc o ++ l2).length = MM := ⟨_, rfl⟩
                rw [hMM] at HDZ ⊢
                clear hown hbz hcz hnz hsz hMM HG1 HG2
                go_wp2_with fail
                refine HDZ.out.mono ?_
                rintro e z3 ⟨hb3, x3, y3, rfl, hat3⟩
                have HBZ3 := Lib.hid (chain HBZ.out hb3)
                obtain ⟨A3, m3, c3, B3, n3, d3, rfl, rfl⟩ := hat3.slices
                rw [HDM.out]
                unfold cell3
                obtain ⟨tq, htq⟩ : ∃ tq : Int, ((tagO nilO).toNat : Int) = tq := ⟨_, rfl⟩
                rw [htq]
                clear hb3 hat3 htq HDZ HBZ
                go_upto_region 13 with (fail)
                generalize hV : World.alloc z3 _ = z4
                have HB4 := Lib.hid (show Below w.heap.size w z4 by rw [← hV]; exact chain HBZ3.out (below_new _ _))
                clear hV HBZ3
                go_wp2_with fail
                go_ret
                exact ⟨rfl, HB4.out⟩
              · have HDM := Lib.hid hd
                clear hd hne h2
                go_upto_region 12 with (first
                  | (at_builtin; refine append_src_at rfl (.tmp 53) (.tmp 54) rfl w9.heap.size _ 0 [] rfl (own_empty8 (heap_alloc_new w9 _) (Nat.le_refl _)) A9 (enc o) c9 M HM9.out rfl HN9.out (HS9.out.on (below_new w9 _)) (by have := HM6.out; omega) (by simp) ?_; intro v1 z1 hg1; have HG1 := Lib.hid hg1; clear hg1)
                  | (at_builtin; refine append_src_at rfl (.tmp 55) (.tmp 56) rfl w9.heap.size _ _ _ rfl HG1.out.own A2 l2 c2 m2 HL2.out rfl HN2.out (HS2.out.on ((HB9.out.trans ((below_new w9 _).mono HB9.out.size)).trans (HG1.out.below (own_empty8 (heap_alloc_new w9 (.cells #[] 5)) (Nat.le_refl _)) (by simp) |>.mono HB9.out.size))) (by have := HM6.out; have := HL21.out; omega) (by have := HG1.out.grown.size; simp at this; omega) ?_; intro v2 z2 hg2; have HG2 := Lib.hid hg2; clear hg2))
                have hown := HG2.out.own
                have hbz : Below w.heap.size w z2 := ((HB9.out.trans ((below_new w9 _).mono HB9.out.size)).trans (HG1.out.below (own_empty8 (heap_alloc_new w9 (.cells #[] 5)) (Nat.le_refl _)) (by simp) |>.mono HB9.out.size)).trans ((Below.refl _ _).grown HG2.out.grown (by have h1 := HG1.out.grown.size; have h2 := HB9.out.size; simp at h1; omega) (fun j hj => by have h1 := (HG1.out.own.lt j hj).1; have h2 := HB9.out.size; omega))
                have HBZ := Lib.hid hbz
                rw [List.nil_append, ← bvals_app, show 0 + M + m2 = (enc o ++ l2).length by rw [List.length_append, HM9.out, HL2.out]; omega] at hown
                obtain ⟨AZ, cz, rfl, hcz, hnz, hsz, _⟩ := own_rd3 hown
                have HDZ := Lib.hid (decode_any (enc o ++ l2) (by rw [List.length_append, HM9.out, HL2.out]; have := HM6.out; have := HL21.out; omega) AZ cz hcz hnz z2 hsz)
                unfold DecPost at HDZ
                obtain ⟨MM, hMM⟩ : ∃ MM, (enc o ++ l2).length = MM := ⟨_, rfl⟩
                rw [hMM] at HDZ ⊢
                clear hown hbz hcz hnz hsz hMM HG1 HG2
                go_wp2_with fail
                refine HDZ.out.mono ?_
                rintro e z3 ⟨hb3, x3, y3, rfl, hat3⟩
                have HBZ3 := Lib.hid (chain HBZ.out hb3)
                obtain ⟨A3, m3, c3, B3, n3, d3, rfl, rfl⟩ := hat3.slices
                rw [HDM.out]
                unfold cell3
                obtain ⟨tq, htq⟩ : ∃ tq : Int, ((tagO nilO).toNat : Int) = tq := ⟨_, rfl⟩
                rw [htq]
                clear hb3 hat3 htq HDZ HBZ
                go_upto_region 13 with (fail)
                generalize hV : World.alloc z3 _ = z4
                have HB4 := Lib.hid (show Below w.heap.size w z4 by rw [← hV]; exact chain HBZ3.out (below_new _ _))
                clear hV HBZ3
                go_wp2_with fail
                go_ret
                exact ⟨rfl, HB4.out⟩
          · clear hn0
            by_cases h2 : m2 = 0
            · have hl2 : l2 = [] := List.length_eq_zero_iff.1 (by rw [HL2.out]; exact h2)
              have HDM : RowKit.Hid (decV (enc o ++ l2) = (o, 0)) := Lib.hid (by rw [hl2, List.append_nil]; exact decV_enc o HK.out)
              clear hl2
              subst h2
              go_upto_region 12 with (first
                | (at_builtin; refine append_src_at rfl (.tmp 53) (.tmp 54) rfl w9.heap.size _ 0 [] rfl (own_empty8 (heap_alloc_new w9 _) (Nat.le_refl _)) A9 (enc o) c9 M HM9.out rfl HN9.out (HS9.out.on (below_new w9 _)) (by have := HM6.out; omega) (by simp) ?_; intro v1 z1 hg1; have HG1 := Lib.hid hg1; clear hg1)
                | (at_builtin; refine append_src_at rfl (.tmp 55) (.tmp 56) rfl w9.heap.size _ _ _ rfl HG1.out.own A2 l2 c2 0 HL2.out rfl HN2.out (HS2.out.on ((HB9.out.trans ((below_new w9 _).mono HB9.out.size)).trans (HG1.out.below (own_empty8 (heap_alloc_new w9 (.cells #[] 5)) (Nat.le_refl _)) (by simp) |>.mono HB9.out.size))) (by have := HM6.out; have := HL21.out; omega) (by have := HG1.out.grown.size; simp at this; omega) ?_; intro v2 z2 hg2; have HG2 := Lib.hid hg2; clear hg2))
              have hown := HG2.out.own
              have hbz : Below w.heap.size w z2 := ((HB9.out.trans ((below_new w9 _).mono HB9.out.size)).trans (HG1.out.below (own_empty8 (heap_alloc_new w9 (.cells #[] 5)) (Nat.le_refl _)) (by simp) |>.mono HB9.out.size)).trans ((Below.refl _ _).grown HG2.out.grown (by have h1 := HG1.out.grown.size; have h2 := HB9.out.size; simp at h1; omega) (fun j hj => by have h1 := (HG1.out.own.lt j hj).1; have h2 := HB9.out.size; omega))
              have HBZ := Lib.hid hbz
              rw [List.nil_append, ← bvals_app, show 0 + M + 0 = (enc o ++ l2).length by rw [List.length_append, HM9.out, HL2.out]; omega] at hown
              obtain ⟨AZ, cz, rfl, hcz, hnz, hsz, _⟩ := own_rd3 hown
              have HDZ := Lib.hid (decode_any (enc o ++ l2) (by rw [List.length_append, HM9.out, HL2.out]; have := HM6.out; have := HL21.out; omega) AZ cz hcz hnz z2 hsz)
              unfold DecPost at HDZ
              obtain ⟨MM, hMM⟩ : ∃ MM, (enc o ++ l2).length = MM := ⟨_, rfl⟩
              rw [hMM] at HDZ ⊢
              clear hown hbz hcz hnz hsz hMM HG1 HG2
              go_wp2_with fail
              refine HDZ.out.mono ?_
              rintro e z3 ⟨hb3, x3, y3, rfl, hat3⟩
              have HBZ3 := Lib.hid (chain HBZ.out hb3)
              obtain ⟨A3, m3, c3, B3, n3, d3, rfl, rfl⟩ := hat3.slices
              rw [HDM.out]
              unfold cell3
              obtain ⟨tq, htq⟩ : ∃ tq : Int, ((tagO o).toNat : Int) = tq := ⟨_, rfl⟩
              rw [htq]
              clear hb3 hat3 htq HDZ HBZ
              go_upto_region 13 with (fail)
              generalize hV : World.alloc z3 _ = z4
              have HB4 := Lib.hid (show Below w.heap.size w z4 by rw [← hV]; exact chain HBZ3.out (below_new _ _))
              clear hV HBZ3
              go_wp2_with fail
              go_ret
              exact ⟨rfl, HB4.out⟩
            · have hm2 : ((m2 : Int) == 0) = false := by simp [h2]
              have hne : (decV (enc o ++ l2)).2 ≠ 0 := fun e => h2 (by rw [← HL2.out, (decV_more o HK.out l2).1 e]; rfl)
              rcases decV_cases (enc o ++ l2) with ⟨o', hd, _, _⟩ | ⟨hd, _⟩ | ⟨hd, _⟩
              · exact absurd (by rw [hd]) hne
              · have HDM := Lib.hid hd
                clear hd hne h2
                go_upto_region 12 with (first
                  | (at_builtin; refine append_src_at rfl (.tmp 53) (.tmp 54) rfl w9.heap.size _ 0 [] rfl (own_empty8 (heap_alloc_new w9 _) (Nat.le_refl _)) A9 (enc o) c9 M HM9.out rfl HN9.out (HS9.out.on (below_new w9 _)) (by have := HM6.out; omega) (by simp) ?_; intro v1 z1 hg1; have HG1 := Lib.hid hg1; clear hg1)
                  | (at_builtin; refine append_src_at rfl (.tmp 55) (.tmp 56) rfl w9.heap.size _ _ _ rfl HG1.out.own A2 l2 c2 m2 HL2.out rfl HN2.out (HS2.out.on ((HB9.out.trans ((below_new w9 _).mono HB9.out.size)).trans (HG1.out.below (own_empty8 (heap_alloc_new w9 (.cells #[] 5)) (Nat.le_refl _)) (by simp) |>.mono HB9.out.size))) (by have := HM6.out; have := HL21.out; omega) (by have := HG1.out.grown.size; simp at this; omega) ?_; intro v2 z2 hg2; have HG2 := Lib.hid hg2; clear hg2))
                have hown := HG2.out.own
                have hbz : Below w.heap.size w z2 := ((HB9.out.trans ((below_new w9 _).mono HB9.out.size)).trans (HG1.out.below (own_empty8 (heap_alloc_new w9 (.cells #[] 5)) (Nat.le_refl _)) (by simp) |>.mono HB9.out.size)).trans ((Below.refl _ _).grown HG2.out.grown (by have h1 := HG1.out.grown.size; have h2 := HB9.out.size; simp at h1; omega) (fun j hj => by have h1 := (HG1.out.own.lt j hj).1; have h2 := HB9.out.size; omega))
                have HBZ := Lib.hid hbz
                rw [List.nil_append, ← bvals_app, show 0 + M + m2 = (enc o ++ l2).length by rw [List.length_append, HM9.out, HL2.out]; omega] at hown
                obtain ⟨AZ, cz, rfl, hcz, hnz, hsz, _⟩ := own_rd3 hown
                have HDZ := Lib.hid (decode_any (enc o ++ l2) (by rw [List.length_append, HM9.out, HL2.out]; have := HM6.out; have := HL21.out; omega) AZ cz hcz hnz z2 hsz)
                unfold DecPost at HDZ
                obtain ⟨MM, hMM⟩ : ∃ MM, (enc o ++ l2).length = MM := ⟨_, rfl⟩
                rw [hMM] at HDZ ⊢
                clear hown hbz hcz hnz hsz hMM HG1 HG2
                go_wp2_with fail
                refine HDZ.out.mono ?_
                rintro e z3 ⟨hb3, x3, y3, rfl, hat3⟩
                have HBZ3 := Lib.hid (chain HBZ.out hb3)
                obtain ⟨A3, m3, c3, B3, n3, d3, rfl, rfl⟩ := hat3.slices
                rw [HDM.out]
                unfold cell3
                obtain ⟨tq, htq⟩ : ∃ tq : Int, ((tagO nilO).toNat : Int) = tq := ⟨_, rfl⟩
                rw [htq]
                clear hb3 hat3 htq HDZ HBZ
                go_upto_region 13 with (fail)
                generalize hV : World.alloc z3 _ = z4
                have HB4 := Lib.hid (show Below w.heap.size w z4 by rw [← hV]; exact chain HBZ3.out (below_new _ _))
                clear hV HBZ3
                go_wp2_with fail
                go_ret
                exact ⟨rfl, HB4.out⟩
              · have HDM := Lib.hid hd
                clear hd hne h2
                go_upto_region 12 with (first
                  | (at_builtin; refine append_src_at rfl (.tmp 53) (.tmp 54) rfl w9.heap.size _ 0 [] rfl (own_empty8 (heap_alloc_new w9 _) (Nat.le_refl _)) A9 (enc o) c9 M HM9.out rfl HN9.out (HS9.out.on (below_new w9 _)) (by have := HM6.out; omega) (by simp) ?_; intro v1 z1 hg1; have HG1 := Lib.hid hg1; clear hg1)
                  | (at_builtin; refine append_src_at rfl (.tmp 55) (.tmp 56) rfl w9.heap.size _ _ _ rfl HG1.out.own A2 l2 c2 m2 HL2.out rfl HN2.out (HS2.out.on ((HB9.out.trans ((below_new w9 _).mono HB9.out.size)).trans (HG1.out.below (own_empty8 (heap_alloc_new w9 (.cells #[] 5)) (Nat.le_refl _)) (by simp) |>.mono HB9.out.size))) (by have := HM6.out; have := HL21.out; omega) (by have := HG1.out.grown.size; simp at this; omega) ?_; intro v2 z2 hg2; have HG2 := Lib.hid hg2; clear hg2))
                have hown := HG2.out.own
                have hbz : Below w.heap.size w z2 := ((HB9.out.trans ((below_new w9 _).mono HB9.out.size)).trans (HG1.out.below (own_empty8 (heap_alloc_new w9 (.cells #[] 5)) (Nat.le_refl _)) (by simp) |>.mono HB9.out.size)).trans ((Below.refl _ _).grown HG2.out.grown (by have h1 := HG1.out.grown.size; have h2 := HB9.out.size; simp at h1; omega) (fun j hj => by have h1 := (HG1.out.own.lt j hj).1; have h2 := HB9.out.size; omega))
                have HBZ := Lib.hid hbz
                rw [List.nil_append, ← bvals_app, show 0 + M + m2 = (enc o ++ l2).length by rw [List.length_append, HM9.out, HL2.out]; omega] at hown
                obtain ⟨AZ, cz, rfl, hcz, hnz, hsz, _⟩ := own_rd3 hown
                have HDZ := Lib.hid (decode_any (enc o ++ l2) (by rw [List.length_append, HM9.out, HL2.out]; have := HM6.out; have := HL21.out; omega) AZ cz hcz hnz z2 hsz)
                unfold DecPost at HDZ
                obtain ⟨MM, hMM⟩ : ∃ MM, (enc o ++ l2).length = MM := ⟨_, rfl⟩
                rw [hMM] at HDZ ⊢
                clear hown hbz hcz hnz hsz hMM HG1 HG2
                go_wp2_with fail
                refine HDZ.out.mono ?_
                rintro e z3 ⟨hb3, x3, y3, rfl, hat3⟩
                have HBZ3 := Lib.hid (chain HBZ.out hb3)
                obtain ⟨A3, m3, c3, B3, n3, d3, rfl, rfl⟩ := hat3.slices
                rw [HDM.out]
                unfold cell3
                obtain ⟨tq, htq⟩ : ∃ tq : Int, ((tagO nilO).toNat : Int) = tq := ⟨_, rfl⟩
                rw [htq]
                clear hb3 hat3 htq HDZ HBZ
                go_upto_region 13 with (fail)
                generalize hV : World.alloc z3 _ = z4
                have HB4 := Lib.hid (show Below w.heap.size w z4 by rw [← hV]; exact chain HBZ3.out (below_new _ _))
                clear hV HBZ3
                go_wp2_with fail
                go_ret
                exact ⟨rfl, HB4.out⟩
      · obtain ⟨E, hE⟩ : ∃ E, ckV o = E := ⟨_, rfl⟩
        have HB3 := Lib.hid (chain HB2.out hb3)
        rw [hE] at hk ⊢
        have hki : ((E : Int) != 0) = true := by simp [hk]
        clear hb3 hE hk HEN2 HR2 hlq q0 q1 q2 hrq
        go_wp2_with fail
        go_ret
        exact ⟨rfl, HB3.out⟩
/-! The row -/
set_option maxRecDepth 100000 in
theorem cuts8_lifted (os : Os) (started : os.Started) (H : Type) (enc : TypeId × Value → H) :
    ReturnsInHanded {} Try.checked os 9 .any (Rows.octetCutsSpec.pre6 enc Try.prog Try.f9 Rows.octetCutsRow.domain false) (Rows.octetCutsSpec.post enc Try.prog Try.f9 false true false false) := by
  refine sized_of_change (C := Try.checked) Try.own started (by kernel_rfl) Try.func9 rfl
    (ChangeSpec.witness6 (enc := enc) (C := Try.checked) false ⟨#[], #[.agg #[.int .u8 0, .slice none 0 0, .slice none 0 0], .int .i64 0, .slice none 0 0], []⟩ 8 (by kernel_rfl) (by kernel_rfl) (by kernel_rfl) (by kernel_rfl)) ?_
  intro W base args ds gs before hval0 hW hwts
  have hval : ∀ (j : Nat) t v, Try.f9.params[j]? = some t → args[j]? = some v → Value.okWide Try.prog W .any base t v := hval0
  have hW' := hW
  obtain ⟨p, q, hA0, hV, rfl, hfz, hnd⟩ := hW
  have hA : DataW.TrodAll enc Try.prog W 0 (fun _ => true) true Try.f9.params.toList args.toList ds p := hA0
  have hwt : ∀ n ∈ DataW.weightsEach Try.prog Try.f9.params.toList ds, n ≤ 140737488355328 := hwts
  rw [Try.params9] at hA hval hwt
  obtain ⟨v0, vs0, d0, ds0, p0, q0, hargs, rfl, rfl, h0, r0⟩ := trodAll_cons hA
  obtain ⟨v1, vs1, d1, ds1, p1, q1, rfl, rfl, rfl, h1, r1⟩ := trodAll_cons r0
  obtain ⟨v2, vs2, d2, ds2, p2, q2, rfl, rfl, rfl, h2, r2⟩ := trodAll_cons r1
  obtain ⟨rfl, rfl, rfl⟩ := trodAll_nil r2
  obtain rfl : args = #[v0, v1, v2] := by cases args; simp_all
  obtain ⟨rfl, rfl⟩ := trodVars_none hV
  obtain ⟨o0, x0, y0, rfl, hat0⟩ := open_oct (hval 0 28 v0 rfl rfl) h0 (fun n hn => hwt n (List.mem_append_left _ hn))
  obtain ⟨z1, rfl, e1, f1, g1⟩ := open_int Try.underlying3 (hval 1 3 v1 rfl rfl) h1
  obtain ⟨A2, l2, c2, rfl, hc2, hm2, hn2, hs2⟩ := open_bytes8 (hval 2 22 v2 rfl rfl) h2 (fun n hn => hwt n (List.mem_append_right _ (List.mem_append_right _ (List.mem_append_left _ hn))))
  refine (cuts_true W o0 x0 y0 hat0 z1 l2 A2 c2 hc2 hm2 hn2 hs2).mono fun e W' ⟨he, hg⟩ => ?_
  subst he
  exact ⟨_, rfl, law_post Try.laidOut (by kernel_rfl) (by kernel_rfl) hW' hg (trodAll_cons_mk (shut_bool Try.underlying4 _) trodAll_mk0) rfl rfl⟩

/-- the statement -/
theorem cuts8_holds : Rows.OctetCutsSaid :=
  OpenClaim.holds_of_wide 9 Try.f9 rfl rfl rfl rfl rfl rfl rfl ⟨rfl, rfl, rfl, rfl, rfl⟩ rfl rfl rfl rfl rfl (by kernel_rfl) Try.func9 (by kernel_rfl)
    (of_decide_eq_true (by kernel_rfl)) (by unfold Func.isWrapper; rw [if_neg (of_decide_eq_false (by kernel_rfl))]; exact ⟨rfl, rfl⟩)
    (fun os started H enc _ => cuts8_lifted os started H enc)
#print axioms cuts8_holds
end Go.Proofs.Ytlbchefdkdngnaa
