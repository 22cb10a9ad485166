/- OctetReads: for all values, numbers and strings, package octet's ReadNum, ReadStr, ReadSeq, Num, Str and Seq answer as the reference does, and hand out copies. Written by wip/gen-ocreads.py. -/
import Derived.Test.YtaompehgaibnkaaOcQ
import Derived.Test.YtaompehgaibnkaaRows
namespace Go.Proofs.Ytaompehgaibnkaa
open Go.ChangeShapes Go.WideShapes Go.ChangeAt Go.RowKit Sha Oc
set_option linter.unusedVariables false
set_option linter.unusedSimpArgs false
theorem two_els {V : World} {o1 o2 : Oct} {x1 y1 x2 y2 : Value} {g : Nat} (h1 : At (fun _ => True) V o1 x1 y1) (h2 : At (fun _ => True) V o2 x2 y2) (hg : V.heap[g]? = some (.cells #[.int .u8 ((tagO o1).toNat : Int), x1, y1, .int .u8 ((tagO o2).toNat : Int), x2, y2] 28 (0, 0))) :
    Els V (some ⟨g, 0, none⟩) [o1, o2] g 0 (fun k => if k = 0 then x1 else x2) (fun k => if k = 0 then y1 else y2) := by
  have hc : ∀ j u, (#[.int .u8 ((tagO o1).toNat : Int), x1, y1, .int .u8 ((tagO o2).toNat : Int), x2, y2] : Array Value)[j]? = some u → V.cell? ⟨g, j, none⟩ = some u := fun j u hj => by rw [cell_of_row _ _ _ _ _ _ hg]; exact hj
  refine ⟨fun _ => rfl, fun k o hk => ?_, fun k o hk => ?_, fun k o hk => ?_, fun k o hk => ?_⟩ <;> rcases k with _ | _ | k
  all_goals first | (obtain rfl := Option.some.inj hk; exact hc _ _ rfl) | (obtain rfl := Option.some.inj hk; assumption) | (simp at hk)
set_option maxRecDepth 100000 in
set_option maxHeartbeats 8000000 in
theorem reads_true (ov ow : Oct) (tg : UInt8) (X : Nat) (hX : X < 256 ^ 8) (s : ByteArray) (hs : s.size ≤ maxLen) (lo hi : Int) (w : World) (x1 y1 x2 y2 : Value) (h1 : At (fun _ => True) w ov x1 y1) (h2 : At (fun _ => True) w ow x2 y2) :
    Calls Try.prog 6 #[.agg (cell3 ov x1 y1), .agg (cell3 ow x2 y2), .int .u8 (tg.toNat : Int), .int .u64 (X : Int), .string s, .int .i64 lo, .int .i64 hi] w fun e w' => e = .returned (.bool true) ∧ Below w.heap.size w w' := by
  obtain ⟨A1, m1, c1, B1, n1, d1, rfl, rfl⟩ := h1.slices
  obtain ⟨A2, m2, c2, B2, n2, d2, rfl, rfl⟩ := h2.slices
  obtain ⟨t1, ht1⟩ : ∃ t1 : Int, ((tagO ov).toNat : Int) = t1 := ⟨_, rfl⟩
  obtain ⟨t2, ht2⟩ : ∃ t2 : Int, ((tagO ow).toNat : Int) = t2 := ⟨_, rfl⟩
  have hg1 : ∀ V : World, Below w.heap.size w V → Calls Try.prog 24 #[.agg #[.int .u8 t1, .slice A1 m1 c1, .slice B1 n1 d1]] V (GtPost ov V) := fun V hb => by rw [← ht1]; exact great8_any ov V _ _ (h1.on hb)
  have hg2 : ∀ V : World, Below w.heap.size w V → Calls Try.prog 24 #[.agg #[.int .u8 t2, .slice A2 m2 c2, .slice B2 n2 d2]] V (GtPost ow V) := fun V hb => by rw [← ht2]; exact great8_any ow V _ _ (h2.on hb)
  obtain ⟨tv, bv, lv⟩ := ov
  obtain ⟨r0, hr0⟩ : ∃ r0, (rdN tv tg bv lv.length (X : Int)).1 = r0 := ⟨_, rfl⟩
  obtain ⟨r1, hr1⟩ : ∃ r1, (rdN tv tg bv lv.length (X : Int)).2 = r1 := ⟨_, rfl⟩
  obtain ⟨sx, hsx⟩ : ∃ sx : ByteArray, ⟨(rdS tv tg bv lv.length hi).1.toArray⟩ = sx := ⟨_, rfl⟩
  obtain ⟨s1, hs1⟩ : ∃ s1, (rdS tv tg bv lv.length hi).2 = s1 := ⟨_, rfl⟩
  obtain ⟨yes, hyes⟩ : ∃ yes, rdQ tv tg bv.length lv.length lo hi = yes := ⟨_, rfl⟩
  have hn1 : ∀ V : World, Below w.heap.size w V → Calls Try.prog 16 #[.agg #[.int .u8 t1, .slice A1 m1 c1, .slice B1 n1 d1], .int .u8 (tg.toNat : Int), .int .u64 (X : Int)] V (fun e w' => e = .returned (.tuple #[.int .u64 r0, .int .i64 r1]) ∧ Below V.heap.size V w') := fun V hb => by rw [← ht1, ← hr0, ← hr1]; exact readnum_any tv bv lv tg (X : Int) V _ _ (h1.on hb)
  have hn2 : ∀ V : World, Below w.heap.size w V → Calls Try.prog 34 #[.agg #[.int .u8 t1, .slice A1 m1 c1, .slice B1 n1 d1], .int .u8 (tg.toNat : Int), .int .u64 (X : Int)] V (fun e w' => e = .returned (.tuple #[.int .u64 r0, .int .i64 r1]) ∧ Below V.heap.size V w') := fun V hb => by rw [← ht1, ← hr0, ← hr1]; exact readnum_ref tv bv lv tg (X : Int) (by omega) V _ _ (h1.on hb)
  have hn3 : ∀ V : World, Below w.heap.size w V → Calls Try.prog 18 #[.agg #[.int .u8 t1, .slice A1 m1 c1, .slice B1 n1 d1], .int .u8 (tg.toNat : Int), .int .i64 hi] V (fun e w' => e = .returned (.tuple #[.string sx, .int .i64 s1]) ∧ Below V.heap.size V w') := fun V hb => by rw [← ht1, ← hsx, ← hs1]; exact readstr_any tv bv lv tg hi V _ _ (h1.on hb)
  have hn4 : ∀ V : World, Below w.heap.size w V → Calls Try.prog 35 #[.agg #[.int .u8 t1, .slice A1 m1 c1, .slice B1 n1 d1], .int .u8 (tg.toNat : Int), .int .i64 hi] V (fun e w' => e = .returned (.tuple #[.string sx, .int .i64 s1]) ∧ Below V.heap.size V w') := fun V hb => by rw [← ht1, ← hsx, ← hs1]; exact readstr_ref tv bv lv tg hi V _ _ (h1.on hb)
  have hn5 : cnt (.mk tv bv lv) ≤ 4200 → tot (.mk tv bv lv) ≤ 80000 → ∀ V : World, Below w.heap.size w V → Calls Try.prog 20 #[.agg #[.int .u8 t1, .slice A1 m1 c1, .slice B1 n1 d1], .int .u8 (tg.toNat : Int), .int .i64 lo, .int .i64 hi] V (RsPost yes lv V) := fun q1 q2 V hb => by rw [← ht1, ← hyes]; exact readseq_any tv bv lv tg lo hi (by omega) (by omega) V _ _ (h1.on hb)
  have hn6 : cnt (.mk tv bv lv) ≤ 4200 → tot (.mk tv bv lv) ≤ 80000 → ∀ V : World, Below w.heap.size w V → Calls Try.prog 36 #[.agg #[.int .u8 t1, .slice A1 m1 c1, .slice B1 n1 d1], .int .u8 (tg.toNat : Int), .int .i64 lo, .int .i64 hi] V (RsPost yes lv V) := fun q1 q2 V hb => by rw [← ht1, ← hyes]; exact readseq_ref tv bv lv tg lo hi (by omega) (by omega) V _ _ (h1.on hb)
  have htw : cnt (.mk tv bv lv) ≤ 4200 → tot (.mk tv bv lv) ≤ 80000 → ∀ V : World, Below w.heap.size w V → Calls Try.prog 25 #[.agg #[.int .u8 t1, .slice A1 m1 c1, .slice B1 n1 d1]] V (fun e w' => ∃ x y, e = .returned (.agg #[.int .u8 t1, x, y]) ∧ At (Rw V.heap.size w') w' (.mk tv bv lv) x y ∧ Below V.heap.size V w') := fun q1 q2 V hb => by rw [← ht1]; exact twin_ref8 (cnt (.mk tv bv lv)) (.mk tv bv lv) (Nat.le_refl _) (by omega) (by omega) V _ _ (h1.on hb)
  unfold GtPost at hg1 hg2
  unfold RsPost at hn5 hn6
  obtain ⟨er, her⟩ : ∃ er : Int, (if yes = true then 0 else 12) = er := ⟨_, rfl⟩
  obtain ⟨lr, hlr⟩ : ∃ lr : List Oct, (if yes = true then lv else []) = lr := ⟨_, rfl⟩
  have hlb : cnts lr ≤ cnts lv ∧ tots lr ≤ tots lv := by
    rw [← hlr]
    split
    · exact ⟨Nat.le_refl _, Nat.le_refl _⟩
    · exact ⟨Nat.zero_le _, Nat.zero_le _⟩
  simp only [her, hlr] at hn5 hn6
  have HLB := Lib.hid hlb
  have hsq : cnt (.mk tv bv lv) ≤ 4200 ∧ tot (.mk tv bv lv) ≤ 80000 → cnt ow ≤ 4200 ∧ tot ow ≤ 80000 → ∀ V : World, Below w.heap.size w V → ∀ g : Nat, V.heap[g]? = some (.cells #[.int .u8 t1, .slice A1 m1 c1, .slice B1 n1 d1, .int .u8 t2, .slice A2 m2 c2, .slice B2 n2 d2] 28 (0, 0)) → Els V (some ⟨g, 0, none⟩) [.mk tv bv lv, ow] g 0 (fun k => if k = 0 then .slice A1 m1 c1 else .slice A2 m2 c2) (fun k => if k = 0 then .slice B1 n1 d1 else .slice B2 n2 d2) ∧ ∀ o ∈ [Oct.mk tv bv lv, ow], cnt o ≤ 5000 ∧ tot o ≤ 100000 := fun q1 q2 V hb g hg => ⟨two_els (h1.on hb) (h2.on hb) (by rw [ht2]; show V.heap[g]? = some (.cells #[.int .u8 ((tv.toNat : Nat) : Int), _, _, _, _, _] _ _); rw [show ((tv.toNat : Nat) : Int) = t1 from ht1]; exact hg), fun o ho => by
    rcases List.mem_cons.1 ho with rfl | ho
    · omega
    · rcases List.mem_cons.1 ho with rfl | ho
      · omega
      · cases ho⟩
  have hseq1 : cnt (.mk tv bv lv) ≤ 4200 ∧ tot (.mk tv bv lv) ≤ 80000 → cnt ow ≤ 4200 ∧ tot ow ≤ 80000 → ∀ V : World, Below w.heap.size w V → ∀ g : Nat, V.heap[g]? = some (.cells #[.int .u8 t1, .slice A1 m1 c1, .slice B1 n1 d1, .int .u8 t2, .slice A2 m2 c2, .slice B2 n2 d2] 28 (0, 0)) → Calls Try.prog 21 #[.int .u8 (tg.toNat : Int), .slice (some ⟨g, 0, none⟩) 2 2] V (fun e w' => ∃ x y, e = .returned (.agg #[.int .u8 (tg.toNat : Int), x, y]) ∧ At (Rw V.heap.size w') w' (.mk tg [] [.mk tv bv lv, ow]) x y ∧ Below V.heap.size V w') := fun q1 q2 V hb g hg => seq_any tg [.mk tv bv lv, ow] (show 2 ≤ 5000 by decide) (hsq q1 q2 V hb g hg).2 _ 2 g 0 _ _ V (hsq q1 q2 V hb g hg).1
  have hseq2 : cnt (.mk tv bv lv) ≤ 4200 ∧ tot (.mk tv bv lv) ≤ 80000 → cnt ow ≤ 4200 ∧ tot ow ≤ 80000 → ∀ V : World, Below w.heap.size w V → ∀ g : Nat, V.heap[g]? = some (.cells #[.int .u8 t1, .slice A1 m1 c1, .slice B1 n1 d1, .int .u8 t2, .slice A2 m2 c2, .slice B2 n2 d2] 28 (0, 0)) → Calls Try.prog 39 #[.int .u8 (tg.toNat : Int), .slice (some ⟨g, 0, none⟩) 2 2] V (fun e w' => ∃ x y, e = .returned (.agg #[.int .u8 (tg.toNat : Int), x, y]) ∧ At (Rw V.heap.size w') w' (.mk tg [] [.mk tv bv lv, ow]) x y ∧ Below V.heap.size V w') := fun q1 q2 V hb g hg => seq_ref tg [.mk tv bv lv, ow] (show 2 ≤ 5000 by decide) (hsq q1 q2 V hb g hg).2 _ 2 g 0 _ _ V (hsq q1 q2 V hb g hg).1
  have SQ1 := Lib.hid hseq1
  have SQ2 := Lib.hid hseq2
  have N1 := Lib.hid hn1
  have N2 := Lib.hid hn2
  have N3 := Lib.hid hn3
  have N4 := Lib.hid hn4
  have N5 := Lib.hid hn5
  have N6 := Lib.hid hn6
  have TW := Lib.hid htw
  have ht1' : ((tv.toNat : Nat) : Int) = t1 := ht1
  have G1 := Lib.hid hg1
  have G2 := Lib.hid hg2
  have H1 := Lib.hid h1
  have H2 := Lib.hid h2
  have HT1 := Lib.hid ht1
  have HT2 := Lib.hid ht2
  have HX := Lib.hid hX
  show Calls Try.prog 6 #[.agg #[.int .u8 ((tv.toNat : Nat) : Int), .slice A1 m1 c1, .slice B1 n1 d1], .agg #[.int .u8 ((tagO ow).toNat : Int), .slice A2 m2 c2, .slice B2 n2 d2], .int .u8 (tg.toNat : Int), .int .u64 (X : Int), .string s, .int .i64 lo, .int .i64 hi] w _
  rw [ht1', ht2]
  obtain ⟨S, hS⟩ : ∃ S, s.size = S := ⟨_, rfl⟩
  have hb2 : Below w.heap.size w ((w.alloc (.cells #[.int .u8 t1, .slice A1 m1 c1, .slice B1 n1 d1] 28)).alloc (.cells #[.int .u8 t2, .slice A2 m2 c2, .slice B2 n2 d2] 28)) := (below_new w _).trans ((below_new _ _).mono (by simp))
  have HB2 := Lib.hid hb2
  have HR1 := Lib.hid (heap_alloc2_old8 w (.cells #[.int .u8 t1, .slice A1 m1 c1, .slice B1 n1 d1] 28) (.cells #[.int .u8 t2, .slice A2 m2 c2, .slice B2 n2 d2] 28))
  have HR2 := Lib.hid (heap_alloc2_new8 w (.cells #[.int .u8 t1, .slice A1 m1 c1, .slice B1 n1 d1] 28) (.cells #[.int .u8 t2, .slice A2 m2 c2, .slice B2 n2 d2] 28))
  clear hg1 hg2 h1 h2 ht1 ht2 hX hb2 hn1 hn2 hn3 hn4 hn5 hn6 htw hr0 hr1 hsx hs1 hyes ht1' hsq hseq1 hseq2 her hlr hlb
  go_enter Try.func6, Try.ntmps6
  go_upto_region 1 with (fail)
  generalize hV : World.alloc (World.alloc w _) _ = V at HB2 HR1 HR2 ⊢
  clear hV
  have HV0 := Lib.hid (Below.refl V.heap.size V)
  obtain ⟨_, hv0, hv1, hv2⟩ := facts3 (row_on HR1.out HV0.out)
  have hlv := (Array.getElem?_eq_some_iff.1 (row_on HR1.out HV0.out)).1
  have hrv := range3o hv0 hv1 hv2
  go_wp2_with fail
  refine (G1.out V HB2.out).mono ?_
  rintro e w1 ⟨g1, rfl, hg1, hb1⟩
  have HV1 := Lib.hid hb1
  have HG1 := Lib.hid hg1
  clear hg1 hb1
  clear hv0 hv1 hv2 hlv hrv
  cases g1 with
  | true =>
    go_wp2_with fail
    go_ret
    exact ⟨rfl, (chain HB2.out HV1.out)⟩
  | false =>
    obtain ⟨_, hw0, hw1, hw2⟩ := facts3 (row_on HR2.out HV1.out)
    have hlw := (Array.getElem?_eq_some_iff.1 (row_on HR2.out HV1.out)).1
    have hrw := range3o hw0 hw1 hw2
    go_wp2_with fail
    refine (G2.out w1 (chain HB2.out HV1.out)).mono ?_
    rintro e w2 ⟨g2, rfl, hg2, hb2⟩
    have HV2 := Lib.hid (chain HV1.out hb2)
    have HG2 := Lib.hid hg2
    clear hg2 hb2
    clear hw0 hw1 hw2 hlw hrw
    cases g2 with
    | true =>
      go_wp2_with fail
      go_ret
      exact ⟨rfl, (chain HB2.out HV2.out)⟩
    | false =>
      by_cases hsz : 70000 < S
      · have hsi : (70000 : Int) < (S : Int) := by omega
        go_wp2_with fail
        go_ret
        exact ⟨rfl, (chain HB2.out HV2.out)⟩
      · have hsi : ¬ (70000 : Int) < (S : Int) := by omega
        have HS7 : RowKit.Hid (s.size ≤ 70000) := Lib.hid (by rw [hS]; omega)
        clear hsz
        obtain ⟨_, hv0, hv1, hv2⟩ := facts3 (row_on HR1.out HV2.out)
        have hlv := (Array.getElem?_eq_some_iff.1 (row_on HR1.out HV2.out)).1
        have hrv := range3o hv0 hv1 hv2
        go_wp2_with fail
        obtain ⟨q1, _, q2⟩ := HG1.out (by first | rfl | trivial)
        have HQ := Lib.hid (And.intro q1 q2)
        refine (TW.out q1 q2 w2 (chain HB2.out HV2.out)).mono ?_
        rintro e w3 ⟨xw, yw, rfl, hwas, hb3⟩
        obtain ⟨A3, m3, c3, B3, n3, d3, rfl, rfl⟩ := hwas.slices
        have HV3 := Lib.hid (chain HV2.out hb3)
        have hwas4 := (hwas.any).on (below_new w3 (.cells #[.int .u8 t1, .slice A3 m3 c3, .slice B3 n3 d3] 28))
        have hv4 := chain HV3.out (below_new w3 (.cells #[.int .u8 t1, .slice A3 m3 c3, .slice B3 n3 d3] 28))
        have hr4 := heap_alloc_new w3 (.cells #[.int .u8 t1, .slice A3 m3 c3, .slice B3 n3 d3] 28)
        obtain ⟨SB, hSB⟩ : ∃ SB, w3.heap.size = SB := ⟨_, rfl⟩
        have HWAS := Lib.hid hwas4
        have HV4 := Lib.hid hv4
        have HR4 := Lib.hid hr4
        clear hwas hwas4 hv4 hr4 hb3 q1 q2
        clear hv0 hv1 hv2 hlv hrv
        go_upto_region 4 with (fail)
        rw [hSB] at HR4
        try rw [hSB]
        generalize World.alloc w3 _ = w4 at HWAS HV4 HR4 ⊢
        clear hSB
        have H4 := Lib.hid (Below.refl w4.heap.size w4)
        obtain ⟨_, hv0, hv1, hv2⟩ := facts3 (row_on HR1.out (chain HV4.out H4.out))
        have hlv := (Array.getElem?_eq_some_iff.1 (row_on HR1.out (chain HV4.out H4.out))).1
        have hrv := range3o hv0 hv1 hv2
        go_wp2_with fail
        refine (N1.out w4 (chain HB2.out (chain HV4.out H4.out))).mono ?_
        rintro e w5 ⟨rfl, hb5⟩
        have H5 := Lib.hid (chain H4.out hb5)
        clear hb5
        clear hv0 hv1 hv2 hlv hrv
        obtain ⟨_, hv0, hv1, hv2⟩ := facts3 (row_on HR1.out (chain HV4.out H5.out))
        have hlv := (Array.getElem?_eq_some_iff.1 (row_on HR1.out (chain HV4.out H5.out))).1
        have hrv := range3o hv0 hv1 hv2
        go_wp2_with fail
        refine (N2.out w5 (chain HB2.out (chain HV4.out H5.out))).mono ?_
        rintro e w6 ⟨rfl, hb6⟩
        have H6 := Lib.hid (chain H5.out hb6)
        clear hb6
        clear hv0 hv1 hv2 hlv hrv
        obtain ⟨_, hv0, hv1, hv2⟩ := facts3 (row_on HR1.out (chain HV4.out H6.out))
        have hlv := (Array.getElem?_eq_some_iff.1 (row_on HR1.out (chain HV4.out H6.out))).1
        have hrv := range3o hv0 hv1 hv2
        go_wp2_with fail
        refine (N3.out w6 (chain HB2.out (chain HV4.out H6.out))).mono ?_
        rintro e w7 ⟨rfl, hb7⟩
        have H7 := Lib.hid (chain H6.out hb7)
        clear hb7
        clear hv0 hv1 hv2 hlv hrv
        obtain ⟨_, hv0, hv1, hv2⟩ := facts3 (row_on HR1.out (chain HV4.out H7.out))
        have hlv := (Array.getElem?_eq_some_iff.1 (row_on HR1.out (chain HV4.out H7.out))).1
        have hrv := range3o hv0 hv1 hv2
        go_wp2_with fail
        refine (N4.out w7 (chain HB2.out (chain HV4.out H7.out))).mono ?_
        rintro e w8 ⟨rfl, hb8⟩
        have H8 := Lib.hid (chain H7.out hb8)
        clear hb8
        clear hv0 hv1 hv2 hlv hrv
        obtain ⟨_, hv0, hv1, hv2⟩ := facts3 (row_on HR1.out (chain HV4.out H8.out))
        have hlv := (Array.getElem?_eq_some_iff.1 (row_on HR1.out (chain HV4.out H8.out))).1
        have hrv := range3o hv0 hv1 hv2
        go_wp2_with fail
        refine (N5.out HQ.out.1 HQ.out.2 w8 (chain HB2.out (chain HV4.out H8.out))).mono ?_
        rintro e w9 ⟨v5, rfl, hat5, hb9⟩
        have H9 := Lib.hid (chain H8.out hb9)
        have HAT5 := Lib.hid hat5
        obtain ⟨_, _, B5, d5, g5, o5, vb5, vl5, _, rfl, _, _, _, _, hd5, hdn5, hels5⟩ := hat5.any.els
        have HE5 := Lib.hid hels5
        have H89 := Lib.hid hb9
        clear hb9 hat5 hels5
        clear hv0 hv1 hv2 hlv hrv
        obtain ⟨_, hv0, hv1, hv2⟩ := facts3 (row_on HR1.out (chain HV4.out H9.out))
        have hlv := (Array.getElem?_eq_some_iff.1 (row_on HR1.out (chain HV4.out H9.out))).1
        have hrv := range3o hv0 hv1 hv2
        go_wp2_with fail
        refine (N6.out HQ.out.1 HQ.out.2 w9 (chain HB2.out (chain HV4.out H9.out))).mono ?_
        rintro e w10 ⟨v6, rfl, hat6, hb10⟩
        have H10 := Lib.hid (chain H9.out hb10)
        obtain ⟨_, _, B6, d6, g6, o6, vb6, vl6, _, rfl, _, _, _, _, hd6, hdn6, hels6⟩ := hat6.any.els
        have HE6 := Lib.hid hels6
        have HE510 := Lib.hid (HE5.out.on hb10)
        have HAT510 := Lib.hid (HAT5.out.own hb10 (Nat.le_refl _))
        have H810 := Lib.hid (chain H89.out hb10)
        clear hb10 hat6 hels6 hd5 hdn5 hd6 hdn6 HE5 HAT5 H89
        clear hv0 hv1 hv2 hlv hrv
        obtain ⟨_, hv0, hv1, hv2⟩ := facts3 (row_on HR1.out (chain HV4.out H10.out))
        have hlv := (Array.getElem?_eq_some_iff.1 (row_on HR1.out (chain HV4.out H10.out))).1
        have hrv := range3o hv0 hv1 hv2
        obtain ⟨_, hw0, hw1, hw2⟩ := facts3 (row_on HR2.out (chain HV4.out H10.out))
        have hlw := (Array.getElem?_eq_some_iff.1 (row_on HR2.out (chain HV4.out H10.out))).1
        have hrw := range3o hw0 hw1 hw2
        obtain ⟨p1, _, p2⟩ := HG2.out (by first | rfl | trivial)
        have HQ2 := Lib.hid (And.intro p1 p2)
        clear p1 p2
        go_wp2_with fail
        refine (SQ1.out HQ.out HQ2.out _ (chain HB2.out (chain HV4.out (chain H10.out (below_new w10 _)))) w10.heap.size (heap_alloc_new w10 _)).mono ?_
        rintro e w11 ⟨xn, yn, rfl, hatn, hb11⟩
        obtain ⟨A7, m7, c7, B7, n7, d7, rfl, rfl⟩ := hatn.slices
        have HN0 := below_new w11 (.cells #[.int .u8 (tg.toNat : Int), .slice A7 m7 c7, .slice B7 n7 d7] 28)
        have h1011 : Below w10.heap.size w10 w11 := chain (below_new w10 _) hb11
        have h12 := chain h1011 HN0
        have HN28 := Lib.hid (heap_alloc_new w11 (.cells #[.int .u8 (tg.toNat : Int), .slice A7 m7 c7, .slice B7 n7 d7] 28))
        have HATN := Lib.hid (hatn.own (b' := w8.heap.size) HN0 (by have h1 := H810.out.size; rw [World.size_alloc]; omega))
        have H12 := Lib.hid (chain H10.out h12)
        have H812 := Lib.hid (chain H810.out h12)
        have HE512 := Lib.hid (HE510.out.on h12)
        have HE612 := Lib.hid (HE6.out.on h12)
        have HAT512 := Lib.hid (HAT510.out.own h12 (Nat.le_refl _))
        have HB28 : RowKit.Hid (w8.heap.size ≤ w11.heap.size) := Lib.hid (by have h1 := H810.out.size; have h2 := h1011.size; omega)
        obtain ⟨S28, hS28⟩ : ∃ S28, w11.heap.size = S28 := ⟨_, rfl⟩
        clear hatn hb11 HN0 h1011 h12 HE510 HE6 HAT510 H810
        clear hv0 hv1 hv2 hlv hrv
        clear hw0 hw1 hw2 hlw hrw
        go_upto_region 11 with (fail)
        rw [hS28] at HN28 HB28
        try rw [hS28]
        generalize World.alloc w11 _ = w12 at HN28 HATN H12 H812 HE512 HE612 HAT512 ⊢
        clear hS28
        obtain ⟨U, hU⟩ : ∃ U, w12.drew = U := ⟨_, rfl⟩
        have hbU : Below w12.heap.size w12 U := by rw [← hU]; exact (Below.refl _ _).drew
        have HVU := Lib.hid (chain (chain HV4.out H12.out) hbU)
        have HWU := Lib.hid (chain HB2.out HVU.out)
        have HQS := Lib.hid (show cnt (.mk tg [] [.mk tv bv lv, ow]) ≤ 10000 ∧ tot (.mk tg [] [.mk tv bv lv, ow]) ≤ 1000000 by
          have h1 := HQ.out
          have h2 := HQ2.out
          rw [cnt, cnts, cnts, cnts, tot, tots, tots, tots]
          simp only [List.length_nil]
          omega)
        have hcs1 : ∀ (V : World) (x y x' y' : Value), At (fun _ => True) V (.mk tg (nb X) []) x y → At (fun _ => True) V (.mk tg (nb X) []) x' y' → Calls Try.prog 29 #[.agg #[.int .u8 (tg.toNat : Int), x, y], .agg #[.int .u8 (tg.toNat : Int), x', y']] V (SmPost V) := fun V x y x' y' a1 a2 => same_all8 10000 (.mk tg (nb X) []) (by rw [cnt, cnts]; omega) (Nat.le_refl _) (by have := nb_len 8 X HX.out; rw [tot, tots]; omega) V x y x' y' a1 a2
        have hcs2 : ∀ (V : World) (x y x' y' : Value), At (fun _ => True) V (.mk tg s.data.toList []) x y → At (fun _ => True) V (.mk tg s.data.toList []) x' y' → Calls Try.prog 29 #[.agg #[.int .u8 (tg.toNat : Int), x, y], .agg #[.int .u8 (tg.toNat : Int), x', y']] V (SmPost V) := fun V x y x' y' a1 a2 => same_all8 10000 (.mk tg s.data.toList []) (by rw [cnt, cnts]; omega) (Nat.le_refl _) (by have := HS7.out; rw [tot, tots, ← Lib.size_eq]; omega) V x y x' y' a1 a2
        have hcs3 : ∀ (V : World) (x y x' y' : Value), At (fun _ => True) V (.mk tg [] [.mk tv bv lv, ow]) x y → At (fun _ => True) V (.mk tg [] [.mk tv bv lv, ow]) x' y' → Calls Try.prog 29 #[.agg #[.int .u8 (tg.toNat : Int), x, y], .agg #[.int .u8 (tg.toNat : Int), x', y']] V (SmPost V) := fun V x y x' y' a1 a2 => same_all8 10000 (.mk tg [] [.mk tv bv lv, ow]) HQS.out.1 (Nat.le_refl _) HQS.out.2 V x y x' y' a1 a2
        have hm : ∀ (fb : FuncId) (b : List UInt8) (args : Array Value) (V : World), Calls Try.prog fb args V (SnPost (.mk tg b []) V) → Calls Try.prog fb args V (fun e w' => ∃ x y, e = .returned (.agg #[.int .u8 (tg.toNat : Int), x, y]) ∧ At (fun _ => True) w' (.mk tg b []) x y ∧ Below V.heap.size V w') := fun _ _ _ _ h => h
        have CN1 := Lib.hid (fun V => hm _ _ _ V (num_any tg X HX.out V))
        have CN2 := Lib.hid (fun V => hm _ _ _ V (num_ref tg X HX.out V))
        have CN3 := Lib.hid (fun V => hm _ _ _ V (str_any tg s HS7.out V))
        have CN4 := Lib.hid (fun V => hm _ _ _ V (str_ref tg s HS7.out V))
        unfold SmPost at hcs1 hcs2 hcs3
        have CS1 := Lib.hid hcs1
        have CS2 := Lib.hid hcs2
        have CS3 := Lib.hid hcs3
        clear hcs1 hcs2 hcs3 hm
        have mkS : ∀ z, Below U.heap.size U z → (z.rangeAt w.heap.size 0 [Value.int .u8 t1, .slice A1 m1 c1, .slice B1 n1 d1] ∧ z.rangeAt (w.heap.size + 1) 0 [Value.int .u8 t2, .slice A2 m2 c2, .slice B2 n2 d2] ∧ z.rangeAt S28 0 [Value.int .u8 (tg.toNat : Int), .slice A7 m7 c7, .slice B7 n7 d7]) := fun z hz => by
          have r1 := (facts3 (row_on (row_on HR1.out HVU.out) hz)).2
          have r2 := (facts3 (row_on (row_on HR2.out HVU.out) hz)).2
          have r3 := (facts3 (row_on (row_on HN28.out hbU) hz)).2
          exact ⟨range3o r1.1 r1.2.1 r1.2.2, range3o r2.1 r2.2.1 r2.2.2, range3o r3.1 r3.2.1 r3.2.2⟩
        have hS0 : (w12.drew.rangeAt w.heap.size 0 [Value.int .u8 t1, .slice A1 m1 c1, .slice B1 n1 d1] ∧ w12.drew.rangeAt (w.heap.size + 1) 0 [Value.int .u8 t2, .slice A2 m2 c2, .slice B2 n2 d2] ∧ w12.drew.rangeAt S28 0 [Value.int .u8 (tg.toNat : Int), .slice A7 m7 c7, .slice B7 n7 d7]) := by rw [hU]; exact mkS _ (Below.refl _ _)
        have H12U := Lib.hid hbU
        clear hbU
        refine wp_region_held_drew (S := fun z => (z.rangeAt w.heap.size 0 [Value.int .u8 t1, .slice A1 m1 c1, .slice B1 n1 d1] ∧ z.rangeAt (w.heap.size + 1) 0 [Value.int .u8 t2, .slice A2 m2 c2, .slice B2 n2 d2] ∧ z.rangeAt S28 0 [Value.int .u8 (tg.toNat : Int), .slice A7 m7 c7, .slice B7 n7 d7])) (by kernel_rfl) hS0 (fun hHeld => ?_)
        rw [hU] at hHeld ⊢
        clear hS0 hU
        have Z0 := Lib.hid (Below.refl U.heap.size U)
        refine wpAnyH_take (i := 0) (oi := { dst := Option.some 94, op := Go.Op.move (Go.Operand.tmp 2), type := 5, pos := "law.go:64", after := #[], guard := Option.none }) (v := ?_) rfl (by kernel_rfl) (by kernel_rfl) (by kernel_rfl) (fun _ _ _ h => h) (Or.inl ⟨by rfl, ?_⟩) hHeld ?_
        rotate_left
        · intro w hSw
          clear hSw
          go_simp
          try with_reducible rfl
        try simp only [Act.put, List.setIfInBounds_toArray, List.set_cons_zero, List.set_cons_succ]
        refine wpAnyH_take (i := 1) (oi := { dst := Option.some 95, op := Go.Op.move (Go.Operand.tmp 3), type := 32, pos := "law.go:64", after := #[], guard := Option.none }) (v := ?_) rfl (by kernel_rfl) (by kernel_rfl) (by kernel_rfl) (fun _ _ _ h => h) (Or.inl ⟨by rfl, ?_⟩) hHeld ?_
        rotate_left
        · intro w hSw
          clear hSw
          go_simp
          try with_reducible rfl
        try simp only [Act.put, List.setIfInBounds_toArray, List.set_cons_zero, List.set_cons_succ]
        refine wpAnyH_take (i := 3) (oi := { dst := Option.some 97, op := Go.Op.move (Go.Operand.tmp 2), type := 5, pos := "law.go:64", after := #[], guard := Option.none }) (v := ?_) rfl (by kernel_rfl) (by kernel_rfl) (by kernel_rfl) (fun _ _ _ h => h) (Or.inl ⟨by rfl, ?_⟩) hHeld ?_
        rotate_left
        · intro w hSw
          clear hSw
          go_simp
          try with_reducible rfl
        try simp only [Act.put, List.setIfInBounds_toArray, List.set_cons_zero, List.set_cons_succ]
        refine wpAnyH_take (i := 4) (oi := { dst := Option.some 98, op := Go.Op.move (Go.Operand.tmp 3), type := 32, pos := "law.go:64", after := #[], guard := Option.none }) (v := ?_) rfl (by kernel_rfl) (by kernel_rfl) (by kernel_rfl) (fun _ _ _ h => h) (Or.inl ⟨by rfl, ?_⟩) hHeld ?_
        rotate_left
        · intro w hSw
          clear hSw
          go_simp
          try with_reducible rfl
        try simp only [Act.put, List.setIfInBounds_toArray, List.set_cons_zero, List.set_cons_succ]
        refine wpAnyH_ready (rs := [2]) (by kernel_rfl) (by simp) (AllReadyH.cons (o := { dst := Option.some 96, op := Go.Op.call { callee := Go.Callee.value (Go.Operand.func 17), args := #[Go.Operand.tmp 94, Go.Operand.tmp 95], argTypes := #[5, 32] }, type := 28, pos := "law.go:64", after := #[{ on := 0, ground := Go.Ground.data }, { on := 1, ground := Go.Ground.data }], guard := Option.none }) rfl (fun K hK => ?_) AllReadyH.nil)
        try rw [if_pos (by rfl)]
        go_simp
        refine (CN1.out U).mono ?_
        rintro e z1 ⟨_, _, rfl, ha, hb⟩
        obtain ⟨Aa, ma, ca, Ba, na, da, rfl, rfl⟩ := ha.slices
        have HAa := Lib.hid ha
        have HHa := Lib.hid hb
        have Z1 := Lib.hid (chain Z0.out hb)
        clear ha hb
        go_simp
        refine hK.out _ _ (mkS _ (Z1.out)) (fun hHeld2 => ?_)
        clear hK K hHeld
        have hHeld := hHeld2
        clear hHeld2
        try simp only [Act.put, List.setIfInBounds_toArray, List.set_cons_zero, List.set_cons_succ]
        refine wpAnyH_ready (rs := [5]) (by kernel_rfl) (by simp) (AllReadyH.cons (o := { dst := Option.some 99, op := Go.Op.call { callee := Go.Callee.value (Go.Operand.func 37), args := #[Go.Operand.tmp 97, Go.Operand.tmp 98], argTypes := #[5, 32] }, type := 28, pos := "law.go:64", after := #[{ on := 3, ground := Go.Ground.data }, { on := 4, ground := Go.Ground.data }, { on := 2, ground := Go.Ground.chain }], guard := Option.none }) rfl (fun K hK => ?_) AllReadyH.nil)
        try rw [if_pos (by rfl)]
        go_simp
        refine (CN2.out z1).mono ?_
        rintro e z2 ⟨_, _, rfl, ha, hb⟩
        obtain ⟨Ab, mb, cb, Bb, nb, db, rfl, rfl⟩ := ha.slices
        have HAb := Lib.hid ha
        have HHb := Lib.hid hb
        have Z2 := Lib.hid (chain Z1.out hb)
        clear ha hb
        go_simp
        refine hK.out _ _ (mkS _ (Z2.out)) (fun hHeld2 => ?_)
        clear hK K hHeld
        have hHeld := hHeld2
        clear hHeld2
        try simp only [Act.put, List.setIfInBounds_toArray, List.set_cons_zero, List.set_cons_succ]
        refine wpAnyH_ready (rs := [6]) (by kernel_rfl) (by simp) (AllReadyH.cons (o := { dst := Option.some 100, op := Go.Op.call { callee := Go.Callee.value (Go.Operand.func 29), args := #[Go.Operand.tmp 96, Go.Operand.tmp 99], argTypes := #[28, 28] }, type := 4, pos := "law.go:64", after := #[{ on := 2, ground := Go.Ground.data }, { on := 5, ground := Go.Ground.data }, { on := 5, ground := Go.Ground.chain }], guard := Option.none }) rfl (fun K hK => ?_) AllReadyH.nil)
        try rw [if_pos (by rfl)]
        go_simp
        refine (CS1.out z2 _ _ _ _ (HAa.out.on HHb.out) HAb.out).mono ?_
        rintro e z3 ⟨rfl, hb⟩
        have Z3 := Lib.hid (chain Z2.out hb)
        clear hb
        go_simp
        refine hK.out _ _ (mkS _ (Z3.out)) (fun hHeld2 => ?_)
        clear hK K hHeld
        have hHeld := hHeld2
        clear hHeld2
        try simp only [Act.put, List.setIfInBounds_toArray, List.set_cons_zero, List.set_cons_succ]
        refine wpAnyH_take (i := 7) (oi := { dst := Option.some 101, op := Go.Op.move (Go.Operand.tmp 100), type := 4, pos := "law.go:64", after := #[{ on := 6, ground := Go.Ground.data }, { on := 6, ground := Go.Ground.chain }], guard := Option.none }) (v := ?_) rfl (by kernel_rfl) (by kernel_rfl) (by kernel_rfl) (fun _ _ _ h => h) (Or.inl ⟨by rfl, ?_⟩) hHeld ?_
        rotate_left
        · intro w hSw
          clear hSw
          go_simp
          try with_reducible rfl
        try simp only [Act.put, List.setIfInBounds_toArray, List.set_cons_zero, List.set_cons_succ]
        refine wpAnyH_take (i := 8) (oi := { dst := Option.some 102, op := Go.Op.move (Go.Operand.tmp 2), type := 5, pos := "law.go:64", after := #[{ on := 7, ground := Go.Ground.guard }], guard := Option.some (7, Bool.true) }) (v := ?_) rfl (by kernel_rfl) (by kernel_rfl) (by kernel_rfl) (fun _ _ _ h => h) (Or.inl ⟨by rfl, ?_⟩) hHeld ?_
        rotate_left
        · intro w hSw
          clear hSw
          go_simp
          try with_reducible rfl
        try simp only [Act.put, List.setIfInBounds_toArray, List.set_cons_zero, List.set_cons_succ]
        refine wpAnyH_take (i := 9) (oi := { dst := Option.some 103, op := Go.Op.move (Go.Operand.tmp 4), type := 9, pos := "law.go:64", after := #[{ on := 7, ground := Go.Ground.guard }], guard := Option.some (7, Bool.true) }) (v := ?_) rfl (by kernel_rfl) (by kernel_rfl) (by kernel_rfl) (fun _ _ _ h => h) (Or.inl ⟨by rfl, ?_⟩) hHeld ?_
        rotate_left
        · intro w hSw
          clear hSw
          go_simp
          try with_reducible rfl
        try simp only [Act.put, List.setIfInBounds_toArray, List.set_cons_zero, List.set_cons_succ]
        refine wpAnyH_take (i := 11) (oi := { dst := Option.some 105, op := Go.Op.move (Go.Operand.tmp 2), type := 5, pos := "law.go:64", after := #[{ on := 7, ground := Go.Ground.guard }], guard := Option.some (7, Bool.true) }) (v := ?_) rfl (by kernel_rfl) (by kernel_rfl) (by kernel_rfl) (fun _ _ _ h => h) (Or.inl ⟨by rfl, ?_⟩) hHeld ?_
        rotate_left
        · intro w hSw
          clear hSw
          go_simp
          try with_reducible rfl
        try simp only [Act.put, List.setIfInBounds_toArray, List.set_cons_zero, List.set_cons_succ]
        refine wpAnyH_take (i := 12) (oi := { dst := Option.some 106, op := Go.Op.move (Go.Operand.tmp 4), type := 9, pos := "law.go:64", after := #[{ on := 7, ground := Go.Ground.guard }], guard := Option.some (7, Bool.true) }) (v := ?_) rfl (by kernel_rfl) (by kernel_rfl) (by kernel_rfl) (fun _ _ _ h => h) (Or.inl ⟨by rfl, ?_⟩) hHeld ?_
        rotate_left
        · intro w hSw
          clear hSw
          go_simp
          try with_reducible rfl
        try simp only [Act.put, List.setIfInBounds_toArray, List.set_cons_zero, List.set_cons_succ]
        refine wpAnyH_ready (rs := [10]) (by kernel_rfl) (by simp) (AllReadyH.cons (o := { dst := Option.some 104, op := Go.Op.call { callee := Go.Callee.value (Go.Operand.func 19), args := #[Go.Operand.tmp 102, Go.Operand.tmp 103], argTypes := #[5, 9] }, type := 28, pos := "law.go:64", after := #[{ on := 8, ground := Go.Ground.data }, { on := 9, ground := Go.Ground.data }, { on := 7, ground := Go.Ground.chain }, { on := 7, ground := Go.Ground.guard }], guard := Option.some (7, Bool.true) }) rfl (fun K hK => ?_) AllReadyH.nil)
        try rw [if_pos (by rfl)]
        go_simp
        refine (CN3.out z3).mono ?_
        rintro e z4 ⟨_, _, rfl, ha, hb⟩
        obtain ⟨Ae, me, ce, Be, ne, de, rfl, rfl⟩ := ha.slices
        have HAe := Lib.hid ha
        have HHe := Lib.hid hb
        have Z4 := Lib.hid (chain Z3.out hb)
        clear ha hb
        go_simp
        refine hK.out _ _ (mkS _ (Z4.out)) (fun hHeld2 => ?_)
        clear hK K hHeld
        have hHeld := hHeld2
        clear hHeld2
        try simp only [Act.put, List.setIfInBounds_toArray, List.set_cons_zero, List.set_cons_succ]
        refine wpAnyH_ready (rs := [13]) (by kernel_rfl) (by simp) (AllReadyH.cons (o := { dst := Option.some 107, op := Go.Op.call { callee := Go.Callee.value (Go.Operand.func 38), args := #[Go.Operand.tmp 105, Go.Operand.tmp 106], argTypes := #[5, 9] }, type := 28, pos := "law.go:64", after := #[{ on := 11, ground := Go.Ground.data }, { on := 12, ground := Go.Ground.data }, { on := 10, ground := Go.Ground.chain }, { on := 7, ground := Go.Ground.guard }], guard := Option.some (7, Bool.true) }) rfl (fun K hK => ?_) AllReadyH.nil)
        try rw [if_pos (by rfl)]
        go_simp
        refine (CN4.out z4).mono ?_
        rintro e z5 ⟨_, _, rfl, ha, hb⟩
        obtain ⟨Af, mf, cf, Bf, nf, df, rfl, rfl⟩ := ha.slices
        have HAf := Lib.hid ha
        have HHf := Lib.hid hb
        have Z5 := Lib.hid (chain Z4.out hb)
        clear ha hb
        go_simp
        refine hK.out _ _ (mkS _ (Z5.out)) (fun hHeld2 => ?_)
        clear hK K hHeld
        have hHeld := hHeld2
        clear hHeld2
        try simp only [Act.put, List.setIfInBounds_toArray, List.set_cons_zero, List.set_cons_succ]
        refine wpAnyH_ready (rs := [14]) (by kernel_rfl) (by simp) (AllReadyH.cons (o := { dst := Option.some 108, op := Go.Op.call { callee := Go.Callee.value (Go.Operand.func 29), args := #[Go.Operand.tmp 104, Go.Operand.tmp 107], argTypes := #[28, 28] }, type := 4, pos := "law.go:64", after := #[{ on := 10, ground := Go.Ground.data }, { on := 13, ground := Go.Ground.data }, { on := 13, ground := Go.Ground.chain }, { on := 7, ground := Go.Ground.guard }], guard := Option.some (7, Bool.true) }) rfl (fun K hK => ?_) AllReadyH.nil)
        try rw [if_pos (by rfl)]
        go_simp
        refine (CS2.out z5 _ _ _ _ (HAe.out.on HHf.out) HAf.out).mono ?_
        rintro e z6 ⟨rfl, hb⟩
        have Z6 := Lib.hid (chain Z5.out hb)
        clear hb
        go_simp
        refine hK.out _ _ (mkS _ (Z6.out)) (fun hHeld2 => ?_)
        clear hK K hHeld
        have hHeld := hHeld2
        clear hHeld2
        try simp only [Act.put, List.setIfInBounds_toArray, List.set_cons_zero, List.set_cons_succ]
        refine wpAnyH_take (i := 15) (oi := { dst := Option.some 109, op := Go.Op.pick (Go.Operand.tmp 101) (Go.Operand.tmp 108) (Go.Operand.const (Go.Value.bool Bool.false)), type := 4, pos := "law.go:64", after := #[{ on := 7, ground := Go.Ground.data }, { on := 14, ground := Go.Ground.data }], guard := Option.none }) (v := ?_) rfl (by kernel_rfl) (by kernel_rfl) (by kernel_rfl) (fun _ _ _ h => h) (Or.inl ⟨by rfl, ?_⟩) hHeld ?_
        rotate_left
        · intro w hSw
          clear hSw
          go_simp
          try with_reducible rfl
        try simp only [Act.put, List.setIfInBounds_toArray, List.set_cons_zero, List.set_cons_succ]
        refine wpAnyH_take (i := 16) (oi := { dst := Option.some 110, op := Go.Op.move (Go.Operand.tmp 109), type := 4, pos := "law.go:64", after := #[{ on := 15, ground := Go.Ground.data }, { on := 14, ground := Go.Ground.chain }], guard := Option.none }) (v := ?_) rfl (by kernel_rfl) (by kernel_rfl) (by kernel_rfl) (fun _ _ _ h => h) (Or.inl ⟨by rfl, ?_⟩) hHeld ?_
        rotate_left
        · intro w hSw
          clear hSw
          go_simp
          try with_reducible rfl
        try simp only [Act.put, List.setIfInBounds_toArray, List.set_cons_zero, List.set_cons_succ]
        refine wpAnyH_take (i := 17) (oi := { dst := Option.some 111, op := Go.Op.load 28 (Go.Operand.tmp 28), type := 28, pos := "law.go:64", after := #[{ on := 16, ground := Go.Ground.guard }], guard := Option.some (16, Bool.true) }) (v := .agg [Value.int .u8 (tg.toNat : Int), .slice A7 m7 c7, .slice B7 n7 d7].toArray) rfl (by kernel_rfl) (by kernel_rfl) (by kernel_rfl) (fun _ _ _ h => h) (yieldsIf_load_mid (by rfl) _ _ rfl _ _ rfl [Value.int .u8 (tg.toNat : Int), .slice A7 m7 c7, .slice B7 n7 d7] _ (fun w hSw => hSw.2.2) Try.underlying28 rfl (sz3o _ _ _)) hHeld ?_
        try simp only [Act.put, List.setIfInBounds_toArray, List.set_cons_zero, List.set_cons_succ]
        refine wpAnyH_take (i := 18) (oi := { dst := Option.some 112, op := Go.Op.move (Go.Operand.tmp 2), type := 5, pos := "law.go:64", after := #[{ on := 16, ground := Go.Ground.guard }], guard := Option.some (16, Bool.true) }) (v := ?_) rfl (by kernel_rfl) (by kernel_rfl) (by kernel_rfl) (fun _ _ _ h => h) (Or.inl ⟨by rfl, ?_⟩) hHeld ?_
        rotate_left
        · intro w hSw
          clear hSw
          go_simp
          try with_reducible rfl
        try simp only [Act.put, List.setIfInBounds_toArray, List.set_cons_zero, List.set_cons_succ]
        refine wpAnyH_take (i := 19) (oi := { dst := Option.some 113, op := Go.Op.load 28 (Go.Operand.tmp 7), type := 28, pos := "law.go:64", after := #[{ on := 16, ground := Go.Ground.guard }], guard := Option.some (16, Bool.true) }) (v := .agg [Value.int .u8 t1, .slice A1 m1 c1, .slice B1 n1 d1].toArray) rfl (by kernel_rfl) (by kernel_rfl) (by kernel_rfl) (fun _ _ _ h => h) (yieldsIf_load_mid (by rfl) _ _ rfl _ _ rfl [Value.int .u8 t1, .slice A1 m1 c1, .slice B1 n1 d1] _ (fun w hSw => hSw.1) Try.underlying28 rfl (sz3o _ _ _)) hHeld ?_
        try simp only [Act.put, List.setIfInBounds_toArray, List.set_cons_zero, List.set_cons_succ]
        refine wpAnyH_take (i := 20) (oi := { dst := Option.some 114, op := Go.Op.load 28 (Go.Operand.tmp 8), type := 28, pos := "law.go:64", after := #[{ on := 16, ground := Go.Ground.guard }], guard := Option.some (16, Bool.true) }) (v := .agg [Value.int .u8 t2, .slice A2 m2 c2, .slice B2 n2 d2].toArray) rfl (by kernel_rfl) (by kernel_rfl) (by kernel_rfl) (fun _ _ _ h => h) (yieldsIf_load_mid (by rfl) _ _ rfl _ _ rfl [Value.int .u8 t2, .slice A2 m2 c2, .slice B2 n2 d2] _ (fun w hSw => hSw.2.1) Try.underlying28 rfl (sz3o _ _ _)) hHeld ?_
        try simp only [Act.put, List.setIfInBounds_toArray, List.set_cons_zero, List.set_cons_succ]
        refine wpAnyH_ready (rs := [21]) (by kernel_rfl) (by simp) (AllReadyH.cons (o := { dst := Option.some 115, op := Go.Op.buildSlice 26 2 #[(0, Go.Operand.tmp 113), (1, Go.Operand.tmp 114)], type := 26, pos := "law.go:64", after := #[{ on := 19, ground := Go.Ground.data }, { on := 20, ground := Go.Ground.data }, { on := 16, ground := Go.Ground.guard }], guard := Option.some (16, Bool.true) }) rfl (fun K hK => ?_) AllReadyH.nil)
        try rw [if_pos (by rfl)]
        go_simp
        generalize hq : World.alloc z6 _ = z7
        have n7' : Below z6.heap.size z6 z7 := by rw [← hq]; exact below_new _ _
        have r7 : z7.heap[z6.heap.size]? = some (.cells #[.int .u8 t1, .slice A1 m1 c1, .slice B1 n1 d1, .int .u8 t2, .slice A2 m2 c2, .slice B2 n2 d2] 28 (0, 0)) := by rw [← hq]; exact heap_alloc_new _ _
        have R7 := Lib.hid r7
        have Z7 := Lib.hid (chain Z6.out n7')
        clear hq n7' r7
        refine hK.out _ _ (mkS _ (Z7.out)) (fun hHeld2 => ?_)
        clear hK K hHeld
        have hHeld := hHeld2
        clear hHeld2
        try simp only [Act.put, List.setIfInBounds_toArray, List.set_cons_zero, List.set_cons_succ]
        refine wpAnyH_ready (rs := [22]) (by kernel_rfl) (by simp) (AllReadyH.cons (o := { dst := Option.some 116, op := Go.Op.call { callee := Go.Callee.value (Go.Operand.func 39), args := #[Go.Operand.tmp 112, Go.Operand.tmp 115], argTypes := #[5, 26] }, type := 28, pos := "law.go:64", after := #[{ on := 18, ground := Go.Ground.data }, { on := 21, ground := Go.Ground.data }, { on := 16, ground := Go.Ground.chain }, { on := 16, ground := Go.Ground.guard }], guard := Option.some (16, Bool.true) }) rfl (fun K hK => ?_) AllReadyH.nil)
        try rw [if_pos (by rfl)]
        go_simp
        refine (SQ2.out HQ.out HQ2.out z7 (chain HWU.out Z7.out) z6.heap.size R7.out).mono ?_
        rintro e z8 ⟨_, _, rfl, hag, hb⟩
        obtain ⟨Ag, mg, cg, Bg, ng, dg, rfl, rfl⟩ := hag.slices
        have HAg := Lib.hid hag.any
        have Z8 := Lib.hid (chain Z7.out hb)
        have HAN := Lib.hid ((HATN.out.any).on (chain H12U.out Z8.out))
        clear hag hb
        go_simp
        refine hK.out _ _ (mkS _ (Z8.out)) (fun hHeld2 => ?_)
        clear hK K hHeld
        have hHeld := hHeld2
        clear hHeld2
        try simp only [Act.put, List.setIfInBounds_toArray, List.set_cons_zero, List.set_cons_succ]
        refine wpAnyH_ready (rs := [23]) (by kernel_rfl) (by simp) (AllReadyH.cons (o := { dst := Option.some 117, op := Go.Op.call { callee := Go.Callee.value (Go.Operand.func 29), args := #[Go.Operand.tmp 111, Go.Operand.tmp 116], argTypes := #[28, 28] }, type := 4, pos := "law.go:64", after := #[{ on := 17, ground := Go.Ground.data }, { on := 22, ground := Go.Ground.data }, { on := 22, ground := Go.Ground.chain }, { on := 16, ground := Go.Ground.guard }], guard := Option.some (16, Bool.true) }) rfl (fun K hK => ?_) AllReadyH.nil)
        try rw [if_pos (by rfl)]
        go_simp
        refine (CS3.out z8 _ _ _ _ HAN.out HAg.out).mono ?_
        rintro e z9 ⟨rfl, hb⟩
        have Z9 := Lib.hid (chain Z8.out hb)
        clear hb
        go_simp
        refine hK.out _ _ (mkS _ (Z9.out)) (fun hHeld2 => ?_)
        clear hK K hHeld
        have hHeld := hHeld2
        clear hHeld2
        try simp only [Act.put, List.setIfInBounds_toArray, List.set_cons_zero, List.set_cons_succ]
        refine wpAnyH_take (i := 24) (oi := { dst := Option.some 118, op := Go.Op.pick (Go.Operand.tmp 110) (Go.Operand.tmp 117) (Go.Operand.const (Go.Value.bool Bool.false)), type := 4, pos := "law.go:64", after := #[{ on := 16, ground := Go.Ground.data }, { on := 23, ground := Go.Ground.data }], guard := Option.none }) (v := ?_) rfl (by kernel_rfl) (by kernel_rfl) (by kernel_rfl) (fun _ _ _ h => h) (Or.inl ⟨by rfl, ?_⟩) hHeld ?_
        rotate_left
        · intro w hSw
          clear hSw
          go_simp
          try with_reducible rfl
        try simp only [Act.put, List.setIfInBounds_toArray, List.set_cons_zero, List.set_cons_succ]
        refine wpAnyH_take (i := 25) (oi := { dst := Option.some 29, op := Go.Op.assign (Go.Operand.tmp 118), type := 4, pos := "law.go:64", after := #[{ on := 24, ground := Go.Ground.data }, { on := 23, ground := Go.Ground.chain }, { on := 0, ground := Go.Ground.phase }, { on := 1, ground := Go.Ground.phase }, { on := 2, ground := Go.Ground.phase }, { on := 3, ground := Go.Ground.phase }, { on := 4, ground := Go.Ground.phase }, { on := 5, ground := Go.Ground.phase }, { on := 6, ground := Go.Ground.phase }, { on := 7, ground := Go.Ground.phase }, { on := 8, ground := Go.Ground.phase }, { on := 9, ground := Go.Ground.phase }, { on := 10, ground := Go.Ground.phase }, { on := 11, ground := Go.Ground.phase }, { on := 12, ground := Go.Ground.phase }, { on := 13, ground := Go.Ground.phase }, { on := 14, ground := Go.Ground.phase }, { on := 15, ground := Go.Ground.phase }, { on := 16, ground := Go.Ground.phase }, { on := 17, ground := Go.Ground.phase }, { on := 18, ground := Go.Ground.phase }, { on := 19, ground := Go.Ground.phase }, { on := 20, ground := Go.Ground.phase }, { on := 21, ground := Go.Ground.phase }, { on := 22, ground := Go.Ground.phase }, { on := 23, ground := Go.Ground.phase }, { on := 24, ground := Go.Ground.phase }], guard := Option.none }) (v := ?_) rfl (by kernel_rfl) (by kernel_rfl) (by kernel_rfl) (fun _ _ _ h => h) (Or.inl ⟨by rfl, ?_⟩) hHeld ?_
        rotate_left
        · intro w hSw
          clear hSw
          go_simp
          try with_reducible rfl
        try simp only [Act.put, List.setIfInBounds_toArray, List.set_cons_zero, List.set_cons_succ]
        refine wpAnyH_done (by kernel_rfl) ?_ _
        clear mkS
        have H9U := Lib.hid (chain H12U.out Z9.out)
        have hsl : Calls Try.prog 40 #[.slice B5 lr.length d5, .slice B6 lr.length d6] z9 (SmPost z9) := samelist_all8 lr (by have h1 := HLB.out; have h2 := HQ.out.1; rw [cnt] at h2; omega) (by have h1 := HLB.out; have h2 := HQ.out.2; rw [tot] at h2; omega) B5 B6 d5 d6 g5 o5 g6 o6 vb5 vl5 vb6 vl6 z9 (HE512.out.on H9U.out) (HE612.out.on H9U.out)
        unfold SmPost at hsl
        have HSL := Lib.hid hsl
        have HL5 : RowKit.Hid (At (Rw w8.heap.size z9) z9 (.mk 0 [] lr) (.slice none 0 0) (.slice B5 lr.length d5)) := Lib.hid (HAT512.out.own H9U.out (Nat.le_refl _))
        have HLR : RowKit.Hid (lr.length ≤ 5000 ∧ cnts lr ≤ 10000 ∧ tots lr ≤ 1000000) := Lib.hid (by
          have h0 := len_cnts lr
          have h1 := HLB.out
          have h2 := HQ.out.1
          have h3 := HQ.out.2
          rw [cnt] at h2
          rw [tot] at h3
          omega)
        obtain ⟨q, hq⟩ : ∃ q, lr.length = q := ⟨_, rfl⟩
        rw [hq] at HSL HL5 HLR
        try rw [hq]
        try simp only [hq]
        clear hsl hq HAT512 HE512 HE612
        go_wp2_with fail
        refine (HSL.out).mono ?_
        rintro e z10 ⟨rfl, hb10⟩
        have H910 := Lib.hid hb10
        have HL10 := Lib.hid (HL5.out.own hb10 (Nat.le_refl _))
        clear hb10
        have H8Z := Lib.hid (chain (chain H812.out H9U.out) H910.out)
        go_wp2_with fail
        go_loopw [31] (fun i wr => ∃ k : Nat, k ≤ q ∧ i = .int .i64 (k : Int) ∧ RowKit.Hid (Sp w8.heap.size z10 wr)) (fun i _ => q - (intOf i).toNat)
        case atStart => exact ⟨0, by omega, rfl, Lib.hid (Sp.refl _ _)⟩
        case round =>
          obtain ⟨k, hk, rfl, HSP⟩ := hrel
          have hsz : w8.heap.size ≤ wr.heap.size := by have h1 := H8Z.out.size; have h2 := HSP.out.size; omega
          by_cases hlt : k < q
          · have hki : (k : Int) < (q : Int) := by omega
            have hq5 := HLR.out.1
            obtain ⟨g, off, o, Ao, mo, co, Bo, no, dq, rfl, hnd, e0, e1, e2, hgl, _, hat1, hk1, hk2, _⟩ := spoil_el HL10.out HSP.out k hlt
            have hrg := range3o e0 e1 e2
            have hcall := spoil_all 10000 (Nat.le_refl _) w8.heap.size o (by have := HLR.out; omega) (by have := HLR.out; omega) wr _ _ hsz hat1
            have HCALL := Lib.hid hcall
            clear hcall hat1 hk1 hk2 hsz
            go_wp2_with fail
            refine (HCALL.out).mono ?_
            rintro e wy ⟨rfl, hsp⟩
            have HSPY := Lib.hid (HSP.out.trans hsp)
            clear hsp
            go_wp2_with fail
            exact ⟨⟨k + 1, by omega, by go_num, HSPY⟩, by simp [intOf]; omega⟩
          · have hge : ¬ (k : Int) < (q : Int) := by omega
            have HSZ := Lib.hid hsz
            clear hsz
            go_upto_region 17 with (fail)
            clear hge hlt hk
            obtain ⟨_, p0, p1, p2⟩ := facts3 (row_on (row_on HN28.out H9U.out) H910.out)
            obtain ⟨zt, e0⟩ := HSP.out.byte p0
            have e1 := HSP.out.keep p1
            have e2 := HSP.out.keep p2
            clear p0 p1 p2
            have hrg := range3o e0 e1 e2
            have hgl := World.block_lt_of_cell? _ _ e0
            obtain ⟨o', hat', hcn', htt', rfl⟩ := Oc.At.spoil HSP.out (HATN.out.own (chain H9U.out H910.out) (Nat.le_refl _)) zt
            have hcall := spoil_all 10000 (Nat.le_refl _) w8.heap.size o' (by have := HQS.out.1; omega) (by have := HQS.out.2; omega) wr _ _ HSZ.out hat'
            have HCALL := Lib.hid hcall
            clear hcall hat' hcn' htt'
            go_wp2_with fail
            refine (HCALL.out).mono ?_
            rintro e wz ⟨rfl, hsp⟩
            have h8z : Below w8.heap.size w8 wz := H8Z.out.trans ((HSP.out.trans hsp).below (Nat.le_refl _))
            have H8E := Lib.hid h8z
            clear hsp h8z e0 e1 e2 hrg hgl
            obtain ⟨_, hv0, hv1, hv2⟩ := facts3 (row_on (row_on HR1.out (chain HV4.out H8.out)) H8E.out)
            have hlv := (Array.getElem?_eq_some_iff.1 (row_on (row_on HR1.out (chain HV4.out H8.out)) H8E.out)).1
            have hrv := range3o hv0 hv1 hv2
            obtain ⟨_, hs0, hs1, hs2⟩ := facts3 (row_on (row_on HR4.out H8.out) H8E.out)
            have hls := (Array.getElem?_eq_some_iff.1 (row_on (row_on HR4.out H8.out) H8E.out)).1
            have hrs := range3o hs0 hs1 hs2
            have hsm : Calls Try.prog 29 #[.agg #[.int .u8 t1, .slice A1 m1 c1, .slice B1 n1 d1], .agg #[.int .u8 t1, .slice A3 m3 c3, .slice B3 n3 d3]] wz (SmPost wz) := by
              rw [← HT1.out]
              exact same_all8 10000 (.mk tv bv lv) (by have := HQ.out.1; omega) (Nat.le_refl _) (by have := HQ.out.2; omega) wz _ _ _ _ (H1.out.on (chain (chain HB2.out (chain HV4.out H8.out)) H8E.out)) ((HWAS.out.on H8.out).on H8E.out)
            unfold SmPost at hsm
            have HSM := Lib.hid hsm
            clear hsm
            go_wp2_with fail
            refine (HSM.out).mono ?_
            rintro e ww ⟨rfl, hbw⟩
            have HEND := Lib.hid (chain (chain (chain HB2.out (chain HV4.out H8.out)) H8E.out) hbw)
            clear hbw
            go_wp2_with fail
            go_ret
            exact ⟨rfl, HEND.out⟩

/-! The row -/
set_option maxRecDepth 100000 in
theorem reads_lifted (os : Os) (started : os.Started) (H : Type) (enc : TypeId × Value → H) :
    ReturnsInHanded {} Try.checked os 6 .any (Rows.octetReadsSpec.pre6 enc Try.prog Try.f6 Rows.octetReadsRow.domain false) (Rows.octetReadsSpec.post enc Try.prog Try.f6 false true false false) := by
  refine sized_of_change (C := Try.checked) Try.own started (by kernel_rfl) Try.func6 rfl
    (ChangeSpec.witness6 (enc := enc) (C := Try.checked) false ⟨#[], #[.agg #[.int .u8 0, .slice none 0 0, .slice none 0 0], .agg #[.int .u8 0, .slice none 0 0, .slice none 0 0], .int .u8 0, .int .u64 0, .string ⟨#[]⟩, .int .i64 0, .int .i64 0], []⟩ 8 (by kernel_rfl) (by kernel_rfl) (by kernel_rfl) (by kernel_rfl)) ?_
  intro W base args ds gs before hval0 hW hwts
  have hval : ∀ (j : Nat) t v, Try.f6.params[j]? = some t → args[j]? = some v → Value.okWide Try.prog W .any base t v := hval0
  have hW' := hW
  obtain ⟨p, q, hA0, hV, rfl, hfz, hnd⟩ := hW
  have hA : DataW.TrodAll enc Try.prog W 0 (fun _ => true) true Try.f6.params.toList args.toList ds p := hA0
  have hwt : ∀ n ∈ DataW.weightsEach Try.prog Try.f6.params.toList ds, n ≤ 140737488355328 := hwts
  rw [Try.params6] at hA hval hwt
  obtain ⟨v0, vs0, d0, ds0, p0, q0, hargs, rfl, rfl, h0, r0⟩ := trodAll_cons hA
  obtain ⟨v1, vs1, d1, ds1, p1, q1, rfl, rfl, rfl, h1, r1⟩ := trodAll_cons r0
  obtain ⟨v2, vs2, d2, ds2, p2, q2, rfl, rfl, rfl, h2, r2⟩ := trodAll_cons r1
  obtain ⟨v3, vs3, d3, ds3, p3, q3, rfl, rfl, rfl, h3, r3⟩ := trodAll_cons r2
  obtain ⟨v4, vs4, d4, ds4, p4, q4, rfl, rfl, rfl, h4, r4⟩ := trodAll_cons r3
  obtain ⟨v5, vs5, d5, ds5, p5, q5, rfl, rfl, rfl, h5, r5⟩ := trodAll_cons r4
  obtain ⟨v6, vs6, d6, ds6, p6, q6, rfl, rfl, rfl, h6, r6⟩ := trodAll_cons r5
  obtain ⟨rfl, rfl, rfl⟩ := trodAll_nil r6
  obtain rfl : args = #[v0, v1, v2, v3, v4, v5, v6] := by cases args; simp_all
  obtain ⟨rfl, rfl⟩ := trodVars_none hV
  obtain ⟨o1, x1, y1, rfl, hat1⟩ := open_oct (hval 0 28 v0 rfl rfl) h0 (fun n hn => hwt n (List.mem_append_left _ hn))
  obtain ⟨o2, x2, y2, rfl, hat2⟩ := open_oct (hval 1 28 v1 rfl rfl) h1 (fun n hn => hwt n (List.mem_append_right _ (List.mem_append_left _ hn)))
  obtain ⟨z2, rfl, e2, f2, g2⟩ := open_int Try.underlying5 (hval 2 5 v2 rfl rfl) h2
  obtain ⟨z3, rfl, e3, f3, g3⟩ := open_int Try.underlying32 (hval 3 32 v3 rfl rfl) h3
  obtain ⟨s4, rfl, e4, f4, g4⟩ := Go.ChangeMaps.open_string Try.underlying9 (hval 4 9 v4 rfl rfl) h4
  obtain ⟨z5, rfl, e5, f5, g5⟩ := open_int Try.underlying3 (hval 5 3 v5 rfl rfl) h5
  obtain ⟨z6, rfl, e6, f6, g6⟩ := open_int Try.underlying3 (hval 6 3 v6 rfl rfl) h6
  have b2 := bounds_u8 g2
  have b3 := bounds_u64 g3
  obtain ⟨tg, rfl⟩ : ∃ tg : UInt8, ((tg.toNat : Nat) : Int) = z2 := ⟨UInt8.ofNat z2.toNat, by rw [UInt8.toNat_ofNat']; omega⟩
  obtain ⟨X, rfl⟩ : ∃ X : Nat, (X : Int) = z3 := ⟨z3.toNat, by omega⟩
  have hX8 : X < 256 ^ 8 := by
    have h3 : (256 : Nat) ^ 8 = 18446744073709551616 := by decide
    omega
  refine (reads_true o1 o2 tg X hX8 s4 g4 z5 z6 W x1 y1 x2 y2 hat1 hat2).mono fun e W' ⟨he, hg⟩ => ?_
  subst he
  exact ⟨_, rfl, law_post Try.laidOut (by kernel_rfl) (by kernel_rfl) hW' hg (trodAll_cons_mk (shut_bool Try.underlying4 _) trodAll_mk0) rfl rfl⟩

/-- the statement -/
theorem reads8_holds : Rows.OctetReadsSaid :=
  OpenClaim.holds_of_wide 6 Try.f6 rfl rfl rfl rfl rfl rfl rfl ⟨rfl, rfl, rfl, rfl, rfl⟩ rfl rfl rfl rfl rfl (by kernel_rfl) Try.func6 (by kernel_rfl)
    (of_decide_eq_true (by kernel_rfl)) (by unfold Func.isWrapper; rw [if_neg (of_decide_eq_false (by kernel_rfl))]; exact ⟨rfl, rfl⟩)
    (fun os started H enc _ => reads_lifted os started H enc)
#print axioms reads8_holds
end Go.Proofs.Ytaompehgaibnkaa
