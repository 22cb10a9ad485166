/-
  THE WALKS over the reference of layer 9: Write.
-/
import Derived.Test.YthagoafcphaadaaDoorLocRD
namespace Go.Proofs.YthagoafcphaadaaDoor
open Go.RowKit Lo
set_option linter.unusedVariables false
set_option linter.unusedSimpArgs false
theorem isEmpty_len (L : List (List UInt8)) : L.isEmpty = decide (L.length = 0) := by cases L <;> simp
set_option maxRecDepth 100000 in
set_option maxHeartbeats 16000000 in
theorem write_any (S : Nat) (H : List UInt8) (p : Int) (A : Option Addr) (L : List (List UInt8)) (c : Nat) (d : Bool) (w : World) (hS : S = 1 ∨ S = 2) (hH : H.length ≤ 60) (hp0 : 0 ≤ p) (hp1 : p ≤ 65535) (hA : StrsAt A L w) (hL : L.length ≤ 10) (hLs : ∀ q ∈ L, q.length ≤ 40) (hc : L.length ≤ c) :
    Calls Tryd.prog 34 #[locV ⟨S, H, p, L, d⟩ A c] w fun e w' => e = .returned (.string (str (wrL ⟨S, H, p, L, d⟩))) ∧ Below w.heap.size w w' := by
  have hW : wrL ⟨S, H, p, L, d⟩ = word S ++ ([58, 47, 47] ++ (H ++ (ptI p ++ (sl L ++ if (d || L.isEmpty) then [47] else [])))) := by
    show word S ++ ([58, 47, 47] ++ (H ++ (ptI p ++ (47 :: (Go.Lib.join L [47] ++ endD L d))))) = _
    rw [join_tl, tl_sl]
  rw [isEmpty_len] at hW
  have hHz : (str H).size ≤ 60 := by rw [str_size]; exact hH
  have hI : (Lib.itoa p).length ≤ 20 := itoa_len p hp0 hp1
  have hpI : Lib.itoa p = Lib.decDigits p.toNat := by unfold Lib.itoa; rw [if_neg (by omega)]
  have HD := Lib.hid (fun (V : World) => decimal_any p.toNat (by omega) V)
  rw [show ((p.toNat : Nat) : Int) = p by omega, ← hpI] at HD
  have hIz : (str (Lib.itoa p)).size ≤ 20 := by rw [str_size]; exact hI
  have HLS := Lib.hid hLs
  have HA := Lib.hid hA
  have HSL : RowKit.Hid (∀ k, k ≤ L.length → (sl (L.take k)).length ≤ 410) := Lib.hid (fun k hk => by
    have h1 := sl_len (L.take k) 40 (fun q hq => hLs q (List.mem_of_mem_take hq))
    have h2 : (L.take k).length ≤ 10 := by rw [List.length_take]; omega
    have h3 : (L.take k).length * (40 + 1) ≤ 10 * 41 := Nat.mul_le_mul h2 (Nat.le_refl _)
    omega)
  generalize hJ : Lib.itoa p = J at HD hI hIz
  have HPT : RowKit.Hid ((p = 0 ∧ ptI p = []) ∨ (p ≠ 0 ∧ ptI p = 58 :: J)) := Lib.hid (by
    unfold ptI
    rw [← hJ]
    by_cases h : p = 0
    · exact .inl ⟨h, if_pos h⟩
    · exact .inr ⟨h, if_neg h⟩)
  generalize wrL ⟨S, H, p, L, d⟩ = WR at hW ⊢
  generalize ptI p = PT at hW HPT
  have HW := Lib.hid hW
  have hrow := heap_alloc_new w (.cells #[.int .u8 S, .string (str H), .int .i64 p, .slice A L.length c, .bool d] 24)
  have hbel := below_new w (.cells #[.int .u8 S, .string (str H), .int .i64 p, .slice A L.length c, .bool d] 24)
  clear hW hLs hA hJ hpI
  unfold locV
  show Calls Tryd.prog 34 #[.agg #[.int .u8 S, .string (str H), .int .i64 p, .slice A L.length c, .bool d]] w _
  go_enter Tryd.func34, Tryd.ntmps34
  rcases hS with rfl | rfl <;> rcases HPT.out with ⟨rfl, rfl⟩ | ⟨hp, rfl⟩
  · clear HPT
    go_upto_region 1 with (fail)
    generalize hv1 : World.alloc w _ = v1
    have HR1 := Lib.hid (show v1.heap[w.heap.size]? = some (.cells #[.int .u8 1, .string (str H), .int .i64 0, .slice A L.length c, .bool d] 24 (0, 0)) by rw [← hv1]; exact hrow)
    have HB1 := Lib.hid (show Below w.heap.size w v1 by rw [← hv1]; exact hbel)
    clear hv1 hrow hbel
    obtain ⟨hz, m0, m1, m2, m3, m4, -, -, -, -, -⟩ := locfacts HR1.out
    go_wp2_with fail
    clear hz m0 m1 m2 m3 m4
    go_loopw [3, 4] (fun v i wr => ∃ k : Nat, k ≤ L.length ∧ i = .int .i64 k ∧ v = .string (str ((([114, 115, 121, 110, 99, 58, 47, 47] ++ H)) ++ sl (L.take k))) ∧ Below v1.heap.size v1 wr) (fun _ i _ => L.length - (intOf i).toNat)
    case atStart => exact ⟨0, Nat.zero_le _, rfl, congrArg Value.string (by
      show str [114, 115, 121, 110, 99, 58, 47, 47] ++ str H = _
      simp [str_app, sl]), Below.refl _ _⟩
    case round =>
      obtain ⟨k, hk, rfl, rfl, hbl⟩ := hrel
      have HBL := Lib.hid hbl
      clear hbl
      obtain ⟨hz, m0, m1, m2, m3, m4, -, -, -, -, -⟩ := locfacts (row_on HR1.out HBL.out)
      have hXs : (str ((([114, 115, 121, 110, 99, 58, 47, 47] ++ H)) ++ sl (L.take k))).size ≤ 600 := by
        have := HSL.out k hk
        rw [str_size, List.length_append]
        simp only [List.length_append, List.length_cons, List.length_nil]
        omega
      by_cases hlt : k < L.length
      · have hki : (k : Int) < (L.length : Int) := by omega
        obtain ⟨x, hx⟩ : ∃ x, L[k]? = some x := ⟨L[k], List.getElem?_eq_getElem hlt⟩
        have hxz : (str x).size ≤ 40 := by rw [str_size]; exact HLS.out x (List.mem_of_getElem? hx)
        have HNX := Lib.hid (show str ((([114, 115, 121, 110, 99, 58, 47, 47] ++ H)) ++ sl (L.take k)) ++ str [47] ++ str x = str ((([114, 115, 121, 110, 99, 58, 47, 47] ++ H)) ++ sl (L.take (k + 1))) by rw [sl_snoc L k x hx]; simp [str_app])
        obtain ⟨ga, oa, rfl, hga, hca⟩ := HA.out (by intro e; rw [e] at hlt; simp at hlt)
        have hbw := HB1.out.trans (HBL.out.mono HB1.out.size)
        have ca := (hbw.cell (p := ⟨ga, oa + k, none⟩) hga).trans (hca k x hx)
        clear hca hbw hx
        generalize str ((([114, 115, 121, 110, 99, 58, 47, 47] ++ H)) ++ sl (L.take k)) = X at HNX hXs ⊢
        go_wp2_with fail
        go_roundw
        case rel => exact ⟨k + 1, by omega, by go_num, congrArg Value.string HNX.out, HBL.out⟩
        case measure => simp [intOf]; omega
      · have hki : (L.length : Int) ≤ (k : Int) := by omega
        have hkL : L.take k = L := List.take_of_length_le (by omega)
        have HB9 := Lib.hid (HB1.out.trans (HBL.out.mono HB1.out.size))
        rw [hkL] at hXs ⊢
        cases d
        · by_cases h0 : L.length = 0
          · have i0 : ((L.length : Int) == 0) = true := by rw [beq_iff_eq]; omega
            have HNX := Lib.hid (show str ((([114, 115, 121, 110, 99, 58, 47, 47] ++ H)) ++ sl L) ++ str [47] = str WR by rw [HW.out, decide_eq_true h0]; simp [str_app, word])
            generalize str ((([114, 115, 121, 110, 99, 58, 47, 47] ++ H)) ++ sl L) = X at HNX hXs ⊢
            clear h0 hk hlt hkL
            go_wp2_with fail
            go_ret
            exact ⟨ret_eq (congrArg Value.string HNX.out), HB9.out⟩
          · have i0 : ((L.length : Int) == 0) = false := by rw [beq_eq_false_iff_ne]; omega
            have HNX := Lib.hid (show str ((([114, 115, 121, 110, 99, 58, 47, 47] ++ H)) ++ sl L) = str WR by rw [HW.out, decide_eq_false h0]; simp [str_app, word])
            generalize str ((([114, 115, 121, 110, 99, 58, 47, 47] ++ H)) ++ sl L) = X at HNX hXs ⊢
            clear hk hlt hkL
            go_wp2_with fail
            go_ret
            exact ⟨ret_eq (congrArg Value.string HNX.out), HB9.out⟩
        · have HNX := Lib.hid (show str ((([114, 115, 121, 110, 99, 58, 47, 47] ++ H)) ++ sl L) ++ str [47] = str WR by rw [HW.out]; simp [str_app, word])
          generalize str ((([114, 115, 121, 110, 99, 58, 47, 47] ++ H)) ++ sl L) = X at HNX hXs ⊢
          clear hk hlt hkL
          go_wp2_with fail
          go_ret
          exact ⟨ret_eq (congrArg Value.string HNX.out), HB9.out⟩
  · clear HPT
    have ip : (p != 0) = true := by rw [bne_iff_ne]; exact hp
    go_upto_region 1 with (fail)
    generalize hv1 : World.alloc w _ = v1
    have HR1 := Lib.hid (show v1.heap[w.heap.size]? = some (.cells #[.int .u8 1, .string (str H), .int .i64 p, .slice A L.length c, .bool d] 24 (0, 0)) by rw [← hv1]; exact hrow)
    have HB1 := Lib.hid (show Below w.heap.size w v1 by rw [← hv1]; exact hbel)
    clear hv1 hrow hbel
    obtain ⟨hz, m0, m1, m2, m3, m4, -, -, -, -, -⟩ := locfacts HR1.out
    go_wp2_with fail
    refine (HD.out v1).mono ?_
    rintro e v2 ⟨rfl, hb2⟩
    have HR2 := Lib.hid (row_on HR1.out hb2)
    have HB2 := Lib.hid (HB1.out.trans (hb2.mono HB1.out.size))
    clear hb2 hz m0 m1 m2 m3 m4
    go_wp2_with fail
    go_loopw [3, 4] (fun v i wr => ∃ k : Nat, k ≤ L.length ∧ i = .int .i64 k ∧ v = .string (str ((([114, 115, 121, 110, 99, 58, 47, 47] ++ H ++ (58 :: J))) ++ sl (L.take k))) ∧ Below v2.heap.size v2 wr) (fun _ i _ => L.length - (intOf i).toNat)
    case atStart => exact ⟨0, Nat.zero_le _, rfl, congrArg Value.string (by
      show str [114, 115, 121, 110, 99, 58, 47, 47] ++ str H ++ str [58] ++ str J = _
      simp [str_app, sl]), Below.refl _ _⟩
    case round =>
      obtain ⟨k, hk, rfl, rfl, hbl⟩ := hrel
      have HBL := Lib.hid hbl
      clear hbl
      obtain ⟨hz, m0, m1, m2, m3, m4, -, -, -, -, -⟩ := locfacts (row_on HR2.out HBL.out)
      have hXs : (str ((([114, 115, 121, 110, 99, 58, 47, 47] ++ H ++ (58 :: J))) ++ sl (L.take k))).size ≤ 600 := by
        have := HSL.out k hk
        rw [str_size, List.length_append]
        simp only [List.length_append, List.length_cons, List.length_nil]
        omega
      by_cases hlt : k < L.length
      · have hki : (k : Int) < (L.length : Int) := by omega
        obtain ⟨x, hx⟩ : ∃ x, L[k]? = some x := ⟨L[k], List.getElem?_eq_getElem hlt⟩
        have hxz : (str x).size ≤ 40 := by rw [str_size]; exact HLS.out x (List.mem_of_getElem? hx)
        have HNX := Lib.hid (show str ((([114, 115, 121, 110, 99, 58, 47, 47] ++ H ++ (58 :: J))) ++ sl (L.take k)) ++ str [47] ++ str x = str ((([114, 115, 121, 110, 99, 58, 47, 47] ++ H ++ (58 :: J))) ++ sl (L.take (k + 1))) by rw [sl_snoc L k x hx]; simp [str_app])
        obtain ⟨ga, oa, rfl, hga, hca⟩ := HA.out (by intro e; rw [e] at hlt; simp at hlt)
        have hbw := HB2.out.trans (HBL.out.mono HB2.out.size)
        have ca := (hbw.cell (p := ⟨ga, oa + k, none⟩) hga).trans (hca k x hx)
        clear hca hbw hx
        generalize str ((([114, 115, 121, 110, 99, 58, 47, 47] ++ H ++ (58 :: J))) ++ sl (L.take k)) = X at HNX hXs ⊢
        go_wp2_with fail
        go_roundw
        case rel => exact ⟨k + 1, by omega, by go_num, congrArg Value.string HNX.out, HBL.out⟩
        case measure => simp [intOf]; omega
      · have hki : (L.length : Int) ≤ (k : Int) := by omega
        have hkL : L.take k = L := List.take_of_length_le (by omega)
        have HB9 := Lib.hid (HB2.out.trans (HBL.out.mono HB2.out.size))
        rw [hkL] at hXs ⊢
        cases d
        · by_cases h0 : L.length = 0
          · have i0 : ((L.length : Int) == 0) = true := by rw [beq_iff_eq]; omega
            have HNX := Lib.hid (show str ((([114, 115, 121, 110, 99, 58, 47, 47] ++ H ++ (58 :: J))) ++ sl L) ++ str [47] = str WR by rw [HW.out, decide_eq_true h0]; simp [str_app, word])
            generalize str ((([114, 115, 121, 110, 99, 58, 47, 47] ++ H ++ (58 :: J))) ++ sl L) = X at HNX hXs ⊢
            clear h0 hk hlt hkL
            go_wp2_with fail
            go_ret
            exact ⟨ret_eq (congrArg Value.string HNX.out), HB9.out⟩
          · have i0 : ((L.length : Int) == 0) = false := by rw [beq_eq_false_iff_ne]; omega
            have HNX := Lib.hid (show str ((([114, 115, 121, 110, 99, 58, 47, 47] ++ H ++ (58 :: J))) ++ sl L) = str WR by rw [HW.out, decide_eq_false h0]; simp [str_app, word])
            generalize str ((([114, 115, 121, 110, 99, 58, 47, 47] ++ H ++ (58 :: J))) ++ sl L) = X at HNX hXs ⊢
            clear hk hlt hkL
            go_wp2_with fail
            go_ret
            exact ⟨ret_eq (congrArg Value.string HNX.out), HB9.out⟩
        · have HNX := Lib.hid (show str ((([114, 115, 121, 110, 99, 58, 47, 47] ++ H ++ (58 :: J))) ++ sl L) ++ str [47] = str WR by rw [HW.out]; simp [str_app, word])
          generalize str ((([114, 115, 121, 110, 99, 58, 47, 47] ++ H ++ (58 :: J))) ++ sl L) = X at HNX hXs ⊢
          clear hk hlt hkL
          go_wp2_with fail
          go_ret
          exact ⟨ret_eq (congrArg Value.string HNX.out), HB9.out⟩
  · clear HPT
    go_upto_region 1 with (fail)
    generalize hv1 : World.alloc w _ = v1
    have HR1 := Lib.hid (show v1.heap[w.heap.size]? = some (.cells #[.int .u8 2, .string (str H), .int .i64 0, .slice A L.length c, .bool d] 24 (0, 0)) by rw [← hv1]; exact hrow)
    have HB1 := Lib.hid (show Below w.heap.size w v1 by rw [← hv1]; exact hbel)
    clear hv1 hrow hbel
    obtain ⟨hz, m0, m1, m2, m3, m4, -, -, -, -, -⟩ := locfacts HR1.out
    go_wp2_with fail
    clear hz m0 m1 m2 m3 m4
    go_loopw [3, 4] (fun v i wr => ∃ k : Nat, k ≤ L.length ∧ i = .int .i64 k ∧ v = .string (str ((([104, 116, 116, 112, 115, 58, 47, 47] ++ H)) ++ sl (L.take k))) ∧ Below v1.heap.size v1 wr) (fun _ i _ => L.length - (intOf i).toNat)
    case atStart => exact ⟨0, Nat.zero_le _, rfl, congrArg Value.string (by
      show str [104, 116, 116, 112, 115, 58, 47, 47] ++ str H = _
      simp [str_app, sl]), Below.refl _ _⟩
    case round =>
      obtain ⟨k, hk, rfl, rfl, hbl⟩ := hrel
      have HBL := Lib.hid hbl
      clear hbl
      obtain ⟨hz, m0, m1, m2, m3, m4, -, -, -, -, -⟩ := locfacts (row_on HR1.out HBL.out)
      have hXs : (str ((([104, 116, 116, 112, 115, 58, 47, 47] ++ H)) ++ sl (L.take k))).size ≤ 600 := by
        have := HSL.out k hk
        rw [str_size, List.length_append]
        simp only [List.length_append, List.length_cons, List.length_nil]
        omega
      by_cases hlt : k < L.length
      · have hki : (k : Int) < (L.length : Int) := by omega
        obtain ⟨x, hx⟩ : ∃ x, L[k]? = some x := ⟨L[k], List.getElem?_eq_getElem hlt⟩
        have hxz : (str x).size ≤ 40 := by rw [str_size]; exact HLS.out x (List.mem_of_getElem? hx)
        have HNX := Lib.hid (show str ((([104, 116, 116, 112, 115, 58, 47, 47] ++ H)) ++ sl (L.take k)) ++ str [47] ++ str x = str ((([104, 116, 116, 112, 115, 58, 47, 47] ++ H)) ++ sl (L.take (k + 1))) by rw [sl_snoc L k x hx]; simp [str_app])
        obtain ⟨ga, oa, rfl, hga, hca⟩ := HA.out (by intro e; rw [e] at hlt; simp at hlt)
        have hbw := HB1.out.trans (HBL.out.mono HB1.out.size)
        have ca := (hbw.cell (p := ⟨ga, oa + k, none⟩) hga).trans (hca k x hx)
        clear hca hbw hx
        generalize str ((([104, 116, 116, 112, 115, 58, 47, 47] ++ H)) ++ sl (L.take k)) = X at HNX hXs ⊢
        go_wp2_with fail
        go_roundw
        case rel => exact ⟨k + 1, by omega, by go_num, congrArg Value.string HNX.out, HBL.out⟩
        case measure => simp [intOf]; omega
      · have hki : (L.length : Int) ≤ (k : Int) := by omega
        have hkL : L.take k = L := List.take_of_length_le (by omega)
        have HB9 := Lib.hid (HB1.out.trans (HBL.out.mono HB1.out.size))
        rw [hkL] at hXs ⊢
        cases d
        · by_cases h0 : L.length = 0
          · have i0 : ((L.length : Int) == 0) = true := by rw [beq_iff_eq]; omega
            have HNX := Lib.hid (show str ((([104, 116, 116, 112, 115, 58, 47, 47] ++ H)) ++ sl L) ++ str [47] = str WR by rw [HW.out, decide_eq_true h0]; simp [str_app, word])
            generalize str ((([104, 116, 116, 112, 115, 58, 47, 47] ++ H)) ++ sl L) = X at HNX hXs ⊢
            clear h0 hk hlt hkL
            go_wp2_with fail
            go_ret
            exact ⟨ret_eq (congrArg Value.string HNX.out), HB9.out⟩
          · have i0 : ((L.length : Int) == 0) = false := by rw [beq_eq_false_iff_ne]; omega
            have HNX := Lib.hid (show str ((([104, 116, 116, 112, 115, 58, 47, 47] ++ H)) ++ sl L) = str WR by rw [HW.out, decide_eq_false h0]; simp [str_app, word])
            generalize str ((([104, 116, 116, 112, 115, 58, 47, 47] ++ H)) ++ sl L) = X at HNX hXs ⊢
            clear hk hlt hkL
            go_wp2_with fail
            go_ret
            exact ⟨ret_eq (congrArg Value.string HNX.out), HB9.out⟩
        · have HNX := Lib.hid (show str ((([104, 116, 116, 112, 115, 58, 47, 47] ++ H)) ++ sl L) ++ str [47] = str WR by rw [HW.out]; simp [str_app, word])
          generalize str ((([104, 116, 116, 112, 115, 58, 47, 47] ++ H)) ++ sl L) = X at HNX hXs ⊢
          clear hk hlt hkL
          go_wp2_with fail
          go_ret
          exact ⟨ret_eq (congrArg Value.string HNX.out), HB9.out⟩
  · clear HPT
    have ip : (p != 0) = true := by rw [bne_iff_ne]; exact hp
    go_upto_region 1 with (fail)
    generalize hv1 : World.alloc w _ = v1
    have HR1 := Lib.hid (show v1.heap[w.heap.size]? = some (.cells #[.int .u8 2, .string (str H), .int .i64 p, .slice A L.length c, .bool d] 24 (0, 0)) by rw [← hv1]; exact hrow)
    have HB1 := Lib.hid (show Below w.heap.size w v1 by rw [← hv1]; exact hbel)
    clear hv1 hrow hbel
    obtain ⟨hz, m0, m1, m2, m3, m4, -, -, -, -, -⟩ := locfacts HR1.out
    go_wp2_with fail
    refine (HD.out v1).mono ?_
    rintro e v2 ⟨rfl, hb2⟩
    have HR2 := Lib.hid (row_on HR1.out hb2)
    have HB2 := Lib.hid (HB1.out.trans (hb2.mono HB1.out.size))
    clear hb2 hz m0 m1 m2 m3 m4
    go_wp2_with fail
    go_loopw [3, 4] (fun v i wr => ∃ k : Nat, k ≤ L.length ∧ i = .int .i64 k ∧ v = .string (str ((([104, 116, 116, 112, 115, 58, 47, 47] ++ H ++ (58 :: J))) ++ sl (L.take k))) ∧ Below v2.heap.size v2 wr) (fun _ i _ => L.length - (intOf i).toNat)
    case atStart => exact ⟨0, Nat.zero_le _, rfl, congrArg Value.string (by
      show str [104, 116, 116, 112, 115, 58, 47, 47] ++ str H ++ str [58] ++ str J = _
      simp [str_app, sl]), Below.refl _ _⟩
    case round =>
      obtain ⟨k, hk, rfl, rfl, hbl⟩ := hrel
      have HBL := Lib.hid hbl
      clear hbl
      obtain ⟨hz, m0, m1, m2, m3, m4, -, -, -, -, -⟩ := locfacts (row_on HR2.out HBL.out)
      have hXs : (str ((([104, 116, 116, 112, 115, 58, 47, 47] ++ H ++ (58 :: J))) ++ sl (L.take k))).size ≤ 600 := by
        have := HSL.out k hk
        rw [str_size, List.length_append]
        simp only [List.length_append, List.length_cons, List.length_nil]
        omega
      by_cases hlt : k < L.length
      · have hki : (k : Int) < (L.length : Int) := by omega
        obtain ⟨x, hx⟩ : ∃ x, L[k]? = some x := ⟨L[k], List.getElem?_eq_getElem hlt⟩
        have hxz : (str x).size ≤ 40 := by rw [str_size]; exact HLS.out x (List.mem_of_getElem? hx)
        have HNX := Lib.hid (show str ((([104, 116, 116, 112, 115, 58, 47, 47] ++ H ++ (58 :: J))) ++ sl (L.take k)) ++ str [47] ++ str x = str ((([104, 116, 116, 112, 115, 58, 47, 47] ++ H ++ (58 :: J))) ++ sl (L.take (k + 1))) by rw [sl_snoc L k x hx]; simp [str_app])
        obtain ⟨ga, oa, rfl, hga, hca⟩ := HA.out (by intro e; rw [e] at hlt; simp at hlt)
        have hbw := HB2.out.trans (HBL.out.mono HB2.out.size)
        have ca := (hbw.cell (p := ⟨ga, oa + k, none⟩) hga).trans (hca k x hx)
        clear hca hbw hx
        generalize str ((([104, 116, 116, 112, 115, 58, 47, 47] ++ H ++ (58 :: J))) ++ sl (L.take k)) = X at HNX hXs ⊢
        go_wp2_with fail
        go_roundw
        case rel => exact ⟨k + 1, by omega, by go_num, congrArg Value.string HNX.out, HBL.out⟩
        case measure => simp [intOf]; omega
      · have hki : (L.length : Int) ≤ (k : Int) := by omega
        have hkL : L.take k = L := List.take_of_length_le (by omega)
        have HB9 := Lib.hid (HB2.out.trans (HBL.out.mono HB2.out.size))
        rw [hkL] at hXs ⊢
        cases d
        · by_cases h0 : L.length = 0
          · have i0 : ((L.length : Int) == 0) = true := by rw [beq_iff_eq]; omega
            have HNX := Lib.hid (show str ((([104, 116, 116, 112, 115, 58, 47, 47] ++ H ++ (58 :: J))) ++ sl L) ++ str [47] = str WR by rw [HW.out, decide_eq_true h0]; simp [str_app, word])
            generalize str ((([104, 116, 116, 112, 115, 58, 47, 47] ++ H ++ (58 :: J))) ++ sl L) = X at HNX hXs ⊢
            clear h0 hk hlt hkL
            go_wp2_with fail
            go_ret
            exact ⟨ret_eq (congrArg Value.string HNX.out), HB9.out⟩
          · have i0 : ((L.length : Int) == 0) = false := by rw [beq_eq_false_iff_ne]; omega
            have HNX := Lib.hid (show str ((([104, 116, 116, 112, 115, 58, 47, 47] ++ H ++ (58 :: J))) ++ sl L) = str WR by rw [HW.out, decide_eq_false h0]; simp [str_app, word])
            generalize str ((([104, 116, 116, 112, 115, 58, 47, 47] ++ H ++ (58 :: J))) ++ sl L) = X at HNX hXs ⊢
            clear hk hlt hkL
            go_wp2_with fail
            go_ret
            exact ⟨ret_eq (congrArg Value.string HNX.out), HB9.out⟩
        · have HNX := Lib.hid (show str ((([104, 116, 116, 112, 115, 58, 47, 47] ++ H ++ (58 :: J))) ++ sl L) ++ str [47] = str WR by rw [HW.out]; simp [str_app, word])
          generalize str ((([104, 116, 116, 112, 115, 58, 47, 47] ++ H ++ (58 :: J))) ++ sl L) = X at HNX hXs ⊢
          clear hk hlt hkL
          go_wp2_with fail
          go_ret
          exact ⟨ret_eq (congrArg Value.string HNX.out), HB9.out⟩
end Go.Proofs.YthagoafcphaadaaDoor
