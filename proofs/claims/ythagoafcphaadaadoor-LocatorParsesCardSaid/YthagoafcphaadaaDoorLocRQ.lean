/-
  THE WALKS over the reference of layer 9: Holds, Split, Join, Within.
-/
import Derived.Test.YthagoafcphaadaaDoorLocRP
namespace Go.Proofs.YthagoafcphaadaaDoor
open Go.RowKit Lo
set_option linter.unusedVariables false
set_option linter.unusedSimpArgs false
theorem pre_all {L M : List (List UInt8)} (hl : L.length ≤ M.length) (h : ∀ j, j < L.length → L[j]? = M[j]?) : L <+: M := by
  refine ⟨M.drop L.length, ?_⟩
  apply List.ext_getElem?
  intro i
  by_cases hi : i < L.length
  · rw [List.getElem?_append_left hi]; exact h i hi
  · rw [List.getElem?_append_right (by omega), List.getElem?_drop]
    congr 1
    omega
theorem pre_not {L M : List (List UInt8)} (k : Nat) (x y : List UInt8) (hx : L[k]? = some x) (hy : M[k]? = some y) (hne : ¬ x = y) : ¬ L <+: M := by
  rintro ⟨R, rfl⟩
  rw [List.getElem?_append_left (List.getElem?_eq_some_iff.1 hx).1, hx] at hy
  exact hne (Option.some.inj hy)
set_option maxRecDepth 100000 in
set_option maxHeartbeats 8000000 in
theorem rholds_any (l m : Lc) (A : Option Addr) (c : Nat) (B : Option Addr) (d : Nat) (w : World) (hA : StrsAt A l.parts w) (hB : StrsAt B m.parts w) (hl : l.parts.length ≤ 1000000) (hl2 : m.parts.length ≤ 1000000) (hc : l.parts.length ≤ c) (hd : m.parts.length ≤ d) :
    Calls Tryd.prog 37 #[locV l A c, locV m B d] w fun e w' => e = .returned (.bool (holdsL l m)) ∧ Below w.heap.size w w' := by
  have hq : holdsL l m = (decide (l.sch = m.sch) && decide (l.host = m.host) && decide (l.port = m.port) && decide (l.parts <+: m.parts) && (decide (l.parts.length < m.parts.length) || m.dir)) := rfl
  generalize holdsL l m = R at hq ⊢
  obtain ⟨S, H, p, L, dd⟩ := l
  obtain ⟨S2, H2, p2, L2, d2⟩ := m
  unfold locV
  simp only at hq hA hB hl hl2 hc hd ⊢
  have HA := Lib.hid hA
  have HB := Lib.hid hB
  have HV := Lib.hid (box_and w (.int .u8 S) (.string (str H)) (.int .i64 p) (.slice A L.length c) (.bool dd) (.int .u8 S2) (.string (str H2)) (.int .i64 p2) (.slice B L2.length d) (.bool d2))
  clear hA hB
  go_enter Tryd.func37, Tryd.ntmps37
  go_upto_region 1 with (fail)
  generalize hv2 : World.alloc (World.alloc w _) _ = v2
  have HV2 : RowKit.Hid (Below w.heap.size w v2 ∧ v2.heap[w.heap.size]? = some (.cells #[.int .u8 S, .string (str H), .int .i64 p, .slice A L.length c, .bool dd] 24 (0, 0)) ∧ v2.heap[w.heap.size + 1]? = some (.cells #[.int .u8 S2, .string (str H2), .int .i64 p2, .slice B L2.length d, .bool d2] 24 (0, 0))) := Lib.hid (by rw [← hv2]; exact HV.out)
  clear hv2 HV
  obtain ⟨hz, m0, m1, m2, m3, m4, -, -, -, -, -⟩ := locfacts HV2.out.2.1
  obtain ⟨gz, g0, g1, g2, g3, g4, -, -, -, -, -⟩ := locfacts HV2.out.2.2
  have HB2 := Lib.hid HV2.out.1
  by_cases h1 : S = S2
  · rw [decide_eq_true h1, Bool.true_and] at hq
    have i1 : ((S : Int) != (S2 : Int)) = false := by rw [bne_eq_false_iff_eq]; omega
    clear h1
    by_cases h2 : H = H2
    · rw [decide_eq_true h2, Bool.true_and] at hq
      have i2 : ((str H).toList != (str H2).toList) = false := by rw [h2]; simp
      have i2b : ((str H).toList == (str H2).toList) = true := by rw [h2]; exact beq_self_eq_true _
      clear h2
      by_cases h3 : p = p2
      · rw [decide_eq_true h3, Bool.true_and] at hq
        have i3 : (p != p2) = false := by rw [bne_eq_false_iff_eq]; exact h3
        clear h3
        by_cases h4 : L2.length < L.length
        · have i4 : ((L.length : Int) > (L2.length : Int)) := by omega
          have HQ : RowKit.Hid (R = false) := Lib.hid (by
            rw [hq, decide_eq_false (fun h : L <+: L2 => by have := h.length_le; omega)]
            rfl)
          clear hq h4
          go_wp2_with fail
          go_ret
          exact ⟨by rw [HQ.out]; rfl, HB2.out⟩
        · have i4 : ¬ ((L.length : Int) > (L2.length : Int)) := by omega
          have HQ := Lib.hid hq
          clear hq
          go_wp2_with fail
          clear i1 i2 i2b i3
          clear hz m0 m1 m2 m3 m4 gz g0 g1 g2 g3 g4
          go_loopw [5] (fun i wr => ∃ k : Nat, k ≤ L.length ∧ i = .int .i64 k ∧ (∀ j, j < k → L[j]? = L2[j]?) ∧ Below v2.heap.size v2 wr) (fun i _ => L.length - (intOf i).toNat)
          case atStart => exact ⟨0, Nat.zero_le _, rfl, fun j hj => by omega, Below.refl _ _⟩
          case round =>
            obtain ⟨k, hk, rfl, heq, hbl⟩ := hrel
            have HEQ := Lib.hid heq
            have HBL := Lib.hid hbl
            clear heq hbl
            obtain ⟨hz, m0, m1, m2, m3, m4, -, -, -, -, -⟩ := locfacts (row_on HV2.out.2.1 HBL.out)
            obtain ⟨gz, g0, g1, g2, g3, g4, -, -, -, -, -⟩ := locfacts (row_on HV2.out.2.2 HBL.out)
            by_cases hlt : k < L.length
            · have hki : (k : Int) < (L.length : Int) := by omega
              have hk2 : k < L2.length := by omega
              have hki2 : (k : Int) < (L2.length : Int) := by omega
              obtain ⟨x, hx⟩ : ∃ x, L[k]? = some x := ⟨L[k], List.getElem?_eq_getElem hlt⟩
              obtain ⟨y, hy⟩ : ∃ y, L2[k]? = some y := ⟨L2[k]'hk2, List.getElem?_eq_getElem hk2⟩
              have HX := Lib.hid hx
              have HY := Lib.hid hy
              obtain ⟨ga, oa, rfl, hga, hca⟩ := HA.out (by intro e; rw [e] at hlt; simp at hlt)
              obtain ⟨gb, ob, rfl, hgb, hcb⟩ := HB.out (by intro e; rw [e] at hk2; simp at hk2)
              have hbw := HV2.out.1.trans (HBL.out.mono HV2.out.1.size)
              have ca := (hbw.cell (p := ⟨ga, oa + k, none⟩) hga).trans (hca k x hx)
              have cb := (hbw.cell (p := ⟨gb, ob + k, none⟩) hgb).trans (hcb k y hy)
              clear hca hcb hbw hx hy
              by_cases hxy : x = y
              · have ie : ((str x).toList == (str y).toList) = true := by rw [hxy]; exact beq_self_eq_true _
                have HN := Lib.hid (show ∀ j, j < k + 1 → L[j]? = L2[j]? from fun j hj => by
                  by_cases e : j = k
                  · subst e; rw [HX.out, HY.out, hxy]
                  · exact HEQ.out j (by omega))
                clear hxy
                go_wp2_with fail
                go_region
                all_goals
                  go_wp2_with fail
                  go_roundw
                  case rel => exact ⟨k + 1, by omega, by go_num, HN.out, by first | exact HBL.out | exact below_drew1 HBL.out⟩
                  case measure => simp [intOf]; omega
              · have ie : ((str x).toList == (str y).toList) = false := by rw [eqS, str_dat, ByteArray.toList_eq, str_dat]; exact decide_eq_false hxy
                have HN := Lib.hid (pre_not k x y HX.out HY.out hxy)
                clear hxy
                go_wp2_with fail
                go_region
                all_goals
                  go_wp2_with fail
                  go_ret
                  exact ⟨by rw [HQ.out, decide_eq_false HN.out]; rfl, HV2.out.1.trans ((below_drew1 HBL.out).mono HV2.out.1.size)⟩
            · have hki : (L.length : Int) ≤ (k : Int) := by omega
              have hke : k = L.length := by omega
              have HN := Lib.hid (pre_all (L := L) (M := L2) (by omega) (fun j hj => HEQ.out j (by omega)))
              clear hke
              by_cases h5 : L.length < L2.length
              · have i5 : (L.length : Int) < (L2.length : Int) := by omega
                have H5 := Lib.hid h5
                clear h5
                go_wp2_with fail
                go_ret
                exact ⟨by rw [HQ.out, decide_eq_true HN.out, decide_eq_true H5.out]; rfl, HV2.out.1.trans (HBL.out.mono HV2.out.1.size)⟩
              · have i5 : ¬ (L.length : Int) < (L2.length : Int) := by omega
                have H5 := Lib.hid h5
                clear h5
                go_wp2_with fail
                go_ret
                exact ⟨by rw [HQ.out, decide_eq_true HN.out, decide_eq_false H5.out]; rfl, HV2.out.1.trans (HBL.out.mono HV2.out.1.size)⟩
      · have i3 : (p != p2) = true := by rw [bne_iff_ne]; exact h3
        rw [decide_eq_false h3, Bool.false_and] at hq
        have HQ : RowKit.Hid (R = false) := hq
        clear hq h3
        go_wp2_with fail
        go_ret
        exact ⟨by rw [HQ.out]; rfl, HB2.out⟩
    · have i2b : ((str H).toList == (str H2).toList) = false := by
        rw [eqS, str_dat, ByteArray.toList_eq, str_dat]; exact decide_eq_false h2
      have i2 : ((str H).toList != (str H2).toList) = true := by
        show (!((str H).toList == (str H2).toList)) = true
        rw [i2b]; rfl
      rw [decide_eq_false h2, Bool.false_and, Bool.false_and] at hq
      have HQ : RowKit.Hid (R = false) := hq
      clear hq h2
      go_wp2_with fail
      go_ret
      exact ⟨by rw [HQ.out]; rfl, HB2.out⟩
  · have i1 : ((S : Int) != (S2 : Int)) = true := by rw [bne_iff_ne]; omega
    rw [decide_eq_false h1, Bool.false_and, Bool.false_and, Bool.false_and] at hq
    have HQ : RowKit.Hid (R = false) := hq
    clear hq h1
    go_wp2_with fail
    go_ret
    exact ⟨by rw [HQ.out]; rfl, HB2.out⟩
theorem rparse_g (s : List UInt8) (hs : s.length < 4294967281) (w : World) :
    Calls Tryd.prog 17 #[.string (str s)] w (PPostG (plc s) (per s) w) := by
  refine (rparse_any s hs w).mono ?_
  rintro e w2 ⟨A, c, rfl, hat, hown, hb⟩
  exact ⟨A, c, rfl, PX.start hat hown hb⟩
theorem PX.setDir {w V : World} {M c S : Nat} {H : List UInt8} {p : Int} {P : List (List UInt8)} {d : Bool} {A : Option Addr} (h : PX w M ⟨S, H, p, P, d⟩ A c V) (x : Bool) : PX w M ⟨S, H, p, P, x⟩ A c (V.setCell ⟨M, 4, none⟩ (.bool x)) := by
  have hf : ∀ k, (Value.slice A P.length c).ownBlock = some k → k < M := h.far
  have hne : (Value.slice A P.length c).ownBlock ≠ some M := fun e => by have := hf M e; omega
  have o := ownsRow_setCell_other (a := ⟨M, 4, none⟩) h.own hne (.bool x)
  exact ⟨⟨h.at_.sch, h.at_.host, (own_strs o).1, h.at_.cap, h.at_.big⟩, o, h.bl.setCell h.lM _, heap_setCell_same _ _ _ _ _ _ h.box, h.far, h.lM⟩
set_option maxRecDepth 100000 in
set_option maxHeartbeats 8000000 in
theorem rSplit_any (s : List UInt8) (hs : s.length < 4294967281) (w : World) :
    Calls Tryd.prog 18 #[.string (str s)] w fun e w' => e = .returned (.tuple #[.string (str (splitS s).1), .string (str (splitS s).2.1), .int .i64 (splitS s).2.2]) ∧ Below w.heap.size w w' := by
  have HP1 := Lib.hid (rparse_g s hs)
  have hcase := split_cases s
  generalize splitS s = SP at hcase ⊢
  generalize per s = pd at hcase HP1
  generalize plc s = ld at hcase HP1
  rcases hcase with ⟨rfl, rfl⟩ | ⟨rfl, h2, rfl⟩ | ⟨rfl, S, H, p, P, n, rfl, hck, hup, rfl⟩
  · go_enter Tryd.func18, Tryd.ntmps18
    go_wp2_with fail
    refine (HP1.out w).mono ?_
    rintro e w2 ⟨A, c, rfl, hpx⟩
    have HB := Lib.hid hpx.bl
    unfold locV
    clear hpx
    go_wp2_with fail
    refine bodyPost_ret (v := .tuple #[.string ⟨#[]⟩, .string ⟨#[]⟩, .int .i64 12]) (by simp [results, Tryd.results18, go_sem]) rfl ⟨rfl, HB.out⟩
  · obtain ⟨S, H, p, L, dd⟩ := ld
    simp only at h2
    subst h2
    unfold PPostG locV at HP1
    simp only at HP1
    go_enter Tryd.func18, Tryd.ntmps18
    go_wp2_with fail
    refine (HP1.out w).mono ?_
    rintro e w2 ⟨A, c, rfl, hpx⟩
    have HB := Lib.hid hpx.bl
    clear hpx
    go_wp2_with fail
    refine bodyPost_ret (v := .tuple #[.string ⟨#[]⟩, .string ⟨#[]⟩, .int .i64 2]) (by simp [results, Tryd.results18, go_sem]) rfl ⟨rfl, HB.out⟩
  · have hlen : (P ++ [n]).length = P.length + 1 := by simp
    have hP10 : P.length ≤ 10 := (chk_zero hup).2.1
    have hT0 := fun (A : Option Addr) (c : Nat) (V : World) (h : LocAt ⟨S, H, p, P, true⟩ A c V) => show Calls Tryd.prog 34 #[locV ⟨S, H, p, P, true⟩ A c] V (fun e w' => e = .returned (.string (str (wrL ⟨S, H, p, P, true⟩))) ∧ Below V.heap.size V w') from by
      have g := (chk_zero hup).1
      exact write_any S H p A P c true V g.sch (host_len g.host) g.p0 g.p1 h.parts hP10 (fun q hq => name_len (g.names q hq)) h.cap
    unfold locV at hT0
    simp only at hT0
    unfold PPostG locV at HP1
    simp only [hlen] at HP1 ⊢
    generalize wrL ⟨S, H, p, P, true⟩ = WR at hT0 ⊢
    have HT := Lib.hid hT0
    clear hT0 hck hup
    go_enter Tryd.func18, Tryd.ntmps18
    go_wp2_with fail
    refine (HP1.out w).mono ?_
    rintro e w2 ⟨A, c, rfl, hpx⟩
    go_upto_region 2 with (fail)
    generalize World.alloc w2 _ = w3 at hpx ⊢
    generalize w2.heap.size = M at hpx ⊢
    have HX := Lib.hid hpx
    clear hpx
    obtain ⟨g, o, rfl, hg, hcs⟩ := HX.out.at_.parts (by simp)
    have hcell := hcs P.length n (by simp)
    have hbox := HX.out.box
    simp only [hlen] at hbox
    obtain ⟨hz, m0, m1, m2, m3, m4, k0, k1, k2, k3, k4⟩ := locfacts hbox
    have hcap : P.length + 1 ≤ c := by have := HX.out.at_.cap; simp only [hlen] at this; exact this
    have hgM : g < M := HX.out.far g rfl
    have HLT : RowKit.Hid (∀ V, V.heap.size = w3.heap.size → (∀ b, b ≠ M → V.heap[b]? = w3.heap[b]?) → Below w.heap.size w V → LocAt ⟨S, H, p, P, true⟩ (some ⟨g, o, none⟩) c V) := Lib.hid (fun V hs ho hb => ⟨HX.out.at_.sch, HX.out.at_.host, fun hne => ⟨g, o, rfl, by rw [hs]; exact hg, fun j x hj => by
      have h1 := hcs j x (by rw [List.getElem?_append_left (List.getElem?_eq_some_iff.1 hj).1]; exact hj)
      unfold World.cell? at h1 ⊢
      rw [ho g (by omega)]
      exact h1⟩, by show P.length ≤ c; omega, fun q hq => HX.out.at_.big q (List.mem_append_left _ hq)⟩)
    clear hcs hbox hg
    go_wp2_with fail
    have hw4 : ∀ (a b : Value), ((w3.setCell ⟨M, 3, none⟩ a).setCell ⟨M, 4, none⟩ b).heap.size = w3.heap.size ∧ (∀ k, k ≠ M → ((w3.setCell ⟨M, 3, none⟩ a).setCell ⟨M, 4, none⟩ b).heap[k]? = w3.heap[k]?) ∧ Below w.heap.size w ((w3.setCell ⟨M, 3, none⟩ a).setCell ⟨M, 4, none⟩ b) := fun a b => ⟨by simp [World.setCell], fun k hk => (Below.heap_setCell _ _ _ _ hk).trans (Below.heap_setCell _ _ _ _ hk), (HX.out.bl.setCell HX.out.lM _).setCell HX.out.lM _⟩
    obtain ⟨q1, q2, q3⟩ := hw4 (.slice (some ⟨g, o, none⟩) P.length c) (.bool true)
    generalize World.setCell (World.setCell w3 _ _) _ _ = w4 at q1 q2 q3 ⊢
    have HB4 := Lib.hid q3
    refine (HT.out _ _ w4 (HLT.out w4 q1 q2 q3)).mono ?_
    clear hw4 q1 q2 q3
    rintro e w5 ⟨rfl, hb5⟩
    have HB5 := Lib.hid (HB4.out.trans (hb5.mono HB4.out.size))
    clear hb5
    go_wp2_with fail
    refine bodyPost_ret (v := .tuple #[.string (str WR), .string (str n), .int .i64 0]) (by simp [results, Tryd.results18, go_sem]) rfl ⟨rfl, HB5.out⟩
set_option maxRecDepth 100000 in
set_option maxHeartbeats 8000000 in
theorem rJoin_any (d n : List UInt8) (hd : d.length < 4294967281) (hn : n.length < 4294967281) (w : World) :
    Calls Tryd.prog 22 #[.string (str d), .string (str n)] w fun e w' => e = .returned (.tuple #[.string (str (joinL d n).1), .int .i64 (joinL d n).2]) ∧ Below w.heap.size w w' := by
  have HP1 := Lib.hid (rparse_g d hd)
  have HN := Lib.hid (fun (V : World) => rname_any (str n) V (by rw [str_size]; exact hn))
  rw [str_dat] at HN
  have hcase := join_cases d n
  generalize joinL d n = JL at hcase ⊢
  generalize per d = pd at hcase HP1
  generalize plc d = ld at hcase HP1
  generalize nameB n = NB at hcase HN
  rcases hcase with ⟨rfl, rfl⟩ | ⟨rfl, h2, rfl⟩ | ⟨rfl, h2, rfl, rfl⟩ | ⟨rfl, rfl, S, H, p, P, rfl, hP10, rfl⟩
  · go_enter Tryd.func22, Tryd.ntmps22
    go_wp2_with fail
    refine (HP1.out w).mono ?_
    rintro e w2 ⟨A, c, rfl, hpx⟩
    have HB := Lib.hid hpx.bl
    unfold locV
    clear hpx
    go_wp2_with fail
    go_ret2
    exact ⟨rfl, HB.out⟩
  · obtain ⟨S, H, p, L, dd⟩ := ld
    simp only at h2
    subst h2
    unfold PPostG locV at HP1
    simp only at HP1
    go_enter Tryd.func22, Tryd.ntmps22
    go_wp2_with fail
    refine (HP1.out w).mono ?_
    rintro e w2 ⟨A, c, rfl, hpx⟩
    have HB := Lib.hid hpx.bl
    clear hpx
    go_wp2_with fail
    go_ret2
    exact ⟨rfl, HB.out⟩
  · obtain ⟨S, H, p, L, dd⟩ := ld
    simp only at h2
    subst h2
    unfold PPostG locV at HP1
    simp only at HP1
    go_enter Tryd.func22, Tryd.ntmps22
    go_wp2_with fail
    refine (HP1.out w).mono ?_
    rintro e w2 ⟨A, c, rfl, hpx⟩
    go_upto_region 2 with (fail)
    generalize World.alloc w2 _ = w3 at hpx ⊢
    generalize w2.heap.size = M at hpx ⊢
    have HX := Lib.hid hpx
    clear hpx
    obtain ⟨hz, m0, m1, m2, m3, m4, k0, k1, k2, k3, k4⟩ := locfacts HX.out.box
    go_wp2_with fail
    refine (HN.out w3).mono ?_
    rintro e w4 ⟨rfl, hw4⟩
    have hb4 : Below w3.heap.size w3 w4 := by rw [hw4]; exact Below.refl _ _
    clear hw4
    have HX4 := Lib.hid (HX.out.on hb4)
    clear hb4
    go_wp2_with fail
    go_ret2
    exact ⟨rfl, HX4.out.bl⟩
  · have HT0 := fun (A : Option Addr) (c : Nat) (V : World) (h : LocAt ⟨S, H, p, P ++ [n], false⟩ A c V) => rText_any ⟨S, H, p, P ++ [n], false⟩ A c V h
    have hlen : (P ++ [n]).length = P.length + 1 := by simp
    unfold locV at HT0
    simp only [hlen] at HT0
    generalize textL ⟨S, H, p, P ++ [n], false⟩ = TL at HT0 ⊢
    have HT := Lib.hid HT0
    obtain ⟨i0, hi, hz0, hz1, hz2⟩ := info_parts Tryd.info_string2
    have HI := Lib.hid hi
    unfold PPostG locV at HP1
    simp only at HP1
    clear HT0 hi
    go_enter Tryd.func22, Tryd.ntmps22
    go_wp2_with fail
    refine (HP1.out w).mono ?_
    rintro e w2 ⟨A, c, rfl, hpx⟩
    go_upto_region 2 with (fail)
    generalize World.alloc w2 _ = w3 at hpx ⊢
    generalize w2.heap.size = M at hpx ⊢
    have HX := Lib.hid hpx
    clear hpx
    obtain ⟨hz, m0, m1, m2, m3, m4, k0, k1, k2, k3, k4⟩ := locfacts HX.out.box
    go_wp2_with fail
    refine (HN.out w3).mono ?_
    rintro e w4 ⟨rfl, hw4⟩
    have hb4 : Below w3.heap.size w3 w4 := by rw [hw4]; exact Below.refl _ _
    clear hw4
    have HX4 := Lib.hid (HX.out.on hb4)
    clear hb4 hz m0 m1 m2 m3 m4 k0 k1 k2 k3 k4
    obtain ⟨hz, m0, m1, m2, m3, m4, k0, k1, k2, k3, k4⟩ := locfacts HX4.out.box
    go_upto_region 7 with (fail)
    generalize hv5 : World.setCell _ _ _ = v5
    have HX5 := Lib.hid (show PX w M ⟨S, H, p, P, false⟩ A c v5 by rw [← hv5]; exact HX4.out.setDir false)
    clear hv5 hz m0 m1 m2 m3 m4 k0 k1 k2 k3 k4
    obtain ⟨hz, m0, m1, m2, m3, m4, k0, k1, k2, k3, k4⟩ := locfacts HX5.out.box
    go_wp2_with (at_builtin; go_loud (refine wpList_append_own_at _ rfl (.tmp 26) (.tmp 28) 22 rfl w.heap.size 9 i0 (.string ⟨#[]⟩) 1 16 Tryd.underlying22 HI.out hz0 hz1 hz2 rfl (by decide) _ _ _ rfl (HX5.out.own.alloc _) ⟨v5.heap.size, 0, none⟩ 1 1 [.string (str n)] rfl rfl (cell_one_s _ _ _) (by simp [Value.oneCell']) (by unfold maxLen; show P.length + 1 ≤ _; omega) (by show (P.length + 1) * 16 ≤ _; omega) (by have := HX5.out.bl.size; simp; omega) ?_); intro v' w5 hown5 hgrow5 _ hloc5; obtain ⟨q1, q2, q3⟩ := (HX5.out.on (below_new _ _)).grown hown5 hgrow5 hloc5; obtain ⟨A7, c7, rfl⟩ := own_sl hown5; have HO5 := Lib.hid hown5; have HB5 := Lib.hid q2; have HR5 := Lib.hid q1; have HN5 := Lib.hid q3; clear hown5 hgrow5 hloc5 q2 q3 hz m0 m1 m2 m3 m4 k0 k1 k2 k3 k4; obtain ⟨hz, m0, m1, m2, m3, m4, k0, k1, k2, k3, k4⟩ := locfacts q1; clear q1)
    have hO : w5.ownsRow w.heap.size 9 1 (.slice A7 (P ++ [n]).length c7) (P ++ [n]).length (strsV (P ++ [n])) := by rw [strsV_snoc, hlen]; exact HO5.out
    have hN5 : (Value.slice A7 (P ++ [n]).length c7).ownBlock ≠ some M := by rw [hlen]; exact HN5.out
    have hO6 := ownsRow_setCell_other (a := ⟨M, 3, none⟩) hO hN5 (.slice A7 (P.length + 1) c7)
    have hB6 : Below w.heap.size w (w5.setCell ⟨M, 3, none⟩ (.slice A7 (P.length + 1) c7)) := HB5.out.setCell HX4.out.lM _
    generalize World.setCell w5 _ _ = w6 at hO6 hB6 ⊢
    have hat : LocAt ⟨S, H, p, P ++ [n], false⟩ A7 c7 w6 := ⟨HX4.out.at_.sch, HX4.out.at_.host, (own_strs hO6).1, (own_strs hO6).2, fun q hq => by
      rcases List.mem_append.1 hq with hq | hq
      · exact HX4.out.at_.big q hq
      · rw [List.mem_singleton.1 hq]; exact hn⟩
    have HB6 := Lib.hid hB6
    refine (HT.out A7 c7 w6 hat).mono ?_
    clear hO hN5 hO6 hB6 hat
    rintro e w7 ⟨rfl, hb7⟩
    have HB7 := Lib.hid (HB6.out.trans (hb7.mono HB6.out.size))
    clear hb7
    go_wp2_with fail
    go_ret2
    exact ⟨rfl, HB7.out⟩
set_option maxRecDepth 100000 in
set_option maxHeartbeats 8000000 in
theorem rWithin_any (d s : List UInt8) (hd : d.length < 4294967281) (hs : s.length < 4294967281) (w : World) :
    Calls Tryd.prog 23 #[.string (str d), .string (str s)] w fun e w' => e = .returned (.tuple #[.bool (withinL d s).1, .int .i64 (withinL d s).2]) ∧ Below w.heap.size w w' := by
  have HP1 := Lib.hid (rparse_g d hd)
  have HP2 := Lib.hid (rparse_g s hs)
  have hcase : (per d = 12 ∧ withinL d s = (false, 12)) ∨ (per d = 0 ∧ per s = 12 ∧ withinL d s = (false, 12)) ∨ (per d = 0 ∧ per s = 0 ∧ (plc d).dir = false ∧ withinL d s = (false, 2)) ∨ (per d = 0 ∧ per s = 0 ∧ (plc d).dir = true ∧ withinL d s = (holdsL (plc d) (plc s), 0) ∧ (plc d).parts.length ≤ 10 ∧ (plc s).parts.length ≤ 10) := by
    unfold withinL
    cases h1 : parseL d with
    | none => exact .inl ⟨(plc_none h1).2, rfl⟩
    | some a =>
      rw [(plc_some h1).2, (plc_some h1).1]
      cases h2 : parseL s with
      | none => exact .inr (.inl ⟨rfl, (plc_none h2).2, rfl⟩)
      | some b =>
        rw [(plc_some h2).2, (plc_some h2).1]
        obtain ⟨ka, wa⟩ := (parse_iff d a).1 h1
        obtain ⟨kb, wb⟩ := (parse_iff s b).1 h2
        cases h3 : a.dir with
        | false => exact .inr (.inr (.inl ⟨rfl, rfl, rfl, by simp [h3]⟩))
        | true =>
          refine .inr (.inr (.inr ⟨rfl, rfl, rfl, ?_, (chk_zero ka).2.1, (chk_zero kb).2.1⟩))
          rw [holds_pre a b (chk_zero ka).1 (chk_zero kb).1 h3, wa, wb]
          simp [h3]
  have HH := Lib.hid (fun (A : Option Addr) (c : Nat) (B : Option Addr) (e : Nat) (V : World) (h1 : LocAt (plc d) A c V) (h2 : LocAt (plc s) B e V) (h3 : (plc d).parts.length ≤ 10) (h4 : (plc s).parts.length ≤ 10) => rholds_any (plc d) (plc s) A c B e V h1.parts h2.parts (by omega) (by omega) h1.cap h2.cap)
  have HCS := Lib.hid hcase
  clear hcase
  generalize withinL d s = WL at HCS ⊢
  generalize holdsL (plc d) (plc s) = HOL at HCS HH
  generalize per d = pd at HCS HP1
  generalize plc d = ld at HCS HP1 HH
  generalize per s = ps at HCS HP2
  generalize plc s = ls at HCS HP2 HH
  obtain ⟨S, H, p, L, dd⟩ := ld
  obtain ⟨S2, H2, p2, L2, d2⟩ := ls
  unfold PPostG at HP1 HP2
  unfold locV at HP1 HP2 HH
  simp only at HP1 HP2 HH HCS
  go_enter Tryd.func23, Tryd.ntmps23
  go_wp2_with fail
  refine (HP1.out w).mono ?_
  rintro e w2 ⟨A, c, rfl, hpx⟩
  go_upto_region 2 with (fail)
  generalize World.alloc w2 _ = w3 at hpx ⊢
  generalize w2.heap.size = M at hpx ⊢
  have HX3 := Lib.hid hpx
  clear hpx
  go_wp2_with fail
  refine (HP2.out w3).mono ?_
  rintro e w4 ⟨A2, c2, rfl, hpx⟩
  go_upto_region 3 with (fail)
  generalize World.alloc w4 _ = w5 at hpx ⊢
  generalize w4.heap.size = M2 at hpx ⊢
  have HY5 := Lib.hid hpx
  have HX5 := Lib.hid (HX3.out.on hpx.bl)
  clear hpx
  obtain ⟨hz, m0, m1, m2, m3, m4, -, -, -, -, -⟩ := locfacts HX5.out.box
  obtain ⟨gz, g0, g1, g2, g3, g4, -, -, -, -, -⟩ := locfacts HY5.out.box
  rcases HCS.out with ⟨rfl, rfl⟩ | ⟨rfl, rfl, rfl⟩ | ⟨rfl, rfl, rfl, rfl⟩ | ⟨rfl, rfl, rfl, rfl, h10, h20⟩
  · clear HCS
    go_wp2_with fail
    go_ret2
    exact ⟨rfl, HX5.out.bl⟩
  · clear HCS
    go_wp2_with fail
    go_ret2
    exact ⟨rfl, HX5.out.bl⟩
  · clear HCS
    go_wp2_with fail
    go_ret2
    exact ⟨rfl, HX5.out.bl⟩
  · have HH2 := Lib.hid (HH.out A c A2 c2 w5 HX5.out.at_ HY5.out.at_ h10 h20)
    clear HCS h10 h20
    go_wp2_with fail
    refine HH2.out.mono ?_
    rintro e w6 ⟨rfl, hb6⟩
    have HX6 := Lib.hid (HX5.out.bl.trans (hb6.mono HX5.out.bl.size))
    clear hb6
    go_wp2_with fail
    go_ret2
    exact ⟨rfl, HX6.out⟩
end Go.Proofs.YthagoafcphaadaaDoor
