/-
  THE WALKS over the reference of layer 9: Same, Great.
-/
import Derived.Test.YthagoafcphaadaaDoorLocWI
namespace Go.Proofs.YthagoafcphaadaaDoor
open Go.RowKit Lo
set_option linter.unusedVariables false
set_option linter.unusedSimpArgs false
variable {fl : Bool}
def sameB (a b : Lc) : Bool := decide (a = b)
theorem lc_eq (a b : Lc) : sameB a b = (decide (a.sch = b.sch) && decide (a.host = b.host) && decide (a.port = b.port) && decide (a.dir = b.dir) && decide (a.parts = b.parts)) := by
  unfold sameB
  rw [Bool.eq_iff_iff]
  simp only [Bool.and_eq_true, decide_eq_true_eq]
  cases a
  cases b
  simp only [Lc.mk.injEq]
  constructor
  · rintro ⟨h1, h2, h3, h4, h5⟩; exact ⟨⟨⟨⟨h1, h2⟩, h3⟩, h5⟩, h4⟩
  · rintro ⟨⟨⟨⟨h1, h2⟩, h3⟩, h5⟩, h4⟩; exact ⟨h1, h2, h3, h4, h5⟩
theorem list_eq_of {L M : List (List UInt8)} (hl : L.length = M.length) (k : Nat) (hk : k = L.length) (h : ∀ j, j < k → L[j]? = M[j]?) : L = M := by
  apply List.ext_getElem?
  intro i
  by_cases hi : i < k
  · exact h i hi
  · rw [List.getElem?_eq_none (by omega), List.getElem?_eq_none (by omega)]
theorem two_boxes (w : World) (a b c v v2 d : Value) : Below w.heap.size w ((w.alloc (.cells #[a, b, c, v, d] 24)).alloc (.cells #[a, b, c, v2, d] 24)) ∧ ((w.alloc (.cells #[a, b, c, v, d] 24)).alloc (.cells #[a, b, c, v2, d] 24)).heap[w.heap.size]? = some (.cells #[a, b, c, v, d] 24 (0, 0)) ∧ ((w.alloc (.cells #[a, b, c, v, d] 24)).alloc (.cells #[a, b, c, v2, d] 24)).heap[w.heap.size + 1]? = some (.cells #[a, b, c, v2, d] 24 (0, 0)) := by
  refine ⟨(below_new _ _).alloc (by simp) _, ?_, ?_⟩
  · rw [Below.heap_alloc _ _ _ (by simp)]
    exact heap_alloc_new _ _
  · have := heap_alloc_new (w.alloc (.cells #[a, b, c, v, d] 24)) (.cells #[a, b, c, v2, d] 24)
    rw [show (w.alloc (.cells #[a, b, c, v, d] 24)).heap.size = w.heap.size + 1 by simp] at this
    exact this
set_option maxRecDepth 100000 in
set_option maxHeartbeats 8000000 in
theorem same_any (l m : Lc) (A : Option Addr) (c : Nat) (B : Option Addr) (d : Nat) (w : World) (hA : StrsAt A l.parts w) (hB : StrsAt B m.parts w) (hl : l.parts.length ≤ 1000000) (hc : l.parts.length ≤ c) (hd : m.parts.length ≤ d) :
    Calls Tryd.prog 19 #[locV l A c, locV m B d] w fun e w' => e = .returned (.bool (sameB l m)) ∧ Below w.heap.size w w' := by
  have hq := lc_eq l m
  generalize sameB l m = R at hq ⊢
  obtain ⟨S, H, p, L, dd⟩ := l
  obtain ⟨S2, H2, p2, L2, d2⟩ := m
  unfold locV
  simp only at hq hA hB hl hc hd ⊢
  have HA := Lib.hid hA
  have HB := Lib.hid hB
  clear hA hB
  go_enter Tryd.func19, Tryd.ntmps19
  by_cases h1 : S = S2
  · rw [decide_eq_true h1, Bool.true_and] at hq
    subst h1
    by_cases h2 : H = H2
    · rw [decide_eq_true h2, Bool.true_and] at hq
      subst h2
      by_cases h3 : p = p2
      · rw [decide_eq_true h3, Bool.true_and] at hq
        subst h3
        by_cases h4 : dd = d2
        · rw [decide_eq_true h4, Bool.true_and] at hq
          subst h4
          by_cases h5 : L.length = L2.length
          · have H5 := Lib.hid h5
            rw [← h5] at hd ⊢
            have HQ := Lib.hid hq
            clear hq h5
            have HV := Lib.hid (two_boxes w (.int .u8 S) (.string (str H)) (.int .i64 p) (.slice A L.length c) (.slice B L.length d) (.bool dd))
            go_wp2_with fail
            generalize hv2 : World.alloc (World.alloc w _) _ = v2
            have HV2 : RowKit.Hid (Below w.heap.size w v2 ∧ v2.heap[w.heap.size]? = some (.cells #[.int .u8 S, .string (str H), .int .i64 p, .slice A L.length c, .bool dd] 24 (0, 0)) ∧ v2.heap[w.heap.size + 1]? = some (.cells #[.int .u8 S, .string (str H), .int .i64 p, .slice B L.length d, .bool dd] 24 (0, 0))) := Lib.hid (by rw [← hv2]; exact HV.out)
            clear hv2 HV
            go_loopw [5] (fun i wr => ∃ k : Nat, k ≤ L.length ∧ i = .int .i64 k ∧ (∀ j, j < k → L[j]? = L2[j]?) ∧ Below v2.heap.size v2 wr) (fun i _ => L.length - (intOf i).toNat)
            case atStart => exact ⟨0, Nat.zero_le _, rfl, fun j hj => by omega, Below.refl _ _⟩
            case round =>
              obtain ⟨k, hk, rfl, heq, hbl⟩ := hrel
              have HEQ := Lib.hid heq
              have HBL := Lib.hid hbl
              clear heq hbl
              obtain ⟨hz, m0, m1, m2, m3, m4, -, -, -, -, -⟩ := locfacts (row_on HV2.out.2.1 HBL.out)
              obtain ⟨gz, g0, g1, g2, g3, g4, -, -, -, -, -⟩ := locfacts (row_on HV2.out.2.2 HBL.out)
              by_cases hlt : k < L.length
              · have hki : (k : Int) < (L.length : Int) := by omega
                have hk2 : k < L2.length := by rw [← H5.out]; exact hlt
                obtain ⟨x, hx⟩ : ∃ x, L[k]? = some x := ⟨L[k], List.getElem?_eq_getElem hlt⟩
                obtain ⟨y, hy⟩ : ∃ y, L2[k]? = some y := ⟨L2[k]'hk2, List.getElem?_eq_getElem hk2⟩
                have HX := Lib.hid hx
                have HY := Lib.hid hy
                obtain ⟨ga, oa, rfl, hga, hca⟩ := HA.out (by intro e; rw [e] at hlt; simp at hlt)
                obtain ⟨gb, ob, rfl, hgb, hcb⟩ := HB.out (by intro e; have := H5.out; rw [e] at this; simp only [List.length_nil] at this; omega)
                have hbw := HV2.out.1.trans (HBL.out.mono HV2.out.1.size)
                have ca := (hbw.cell (p := ⟨ga, oa + k, none⟩) hga).trans (hca k x hx)
                have cb := (hbw.cell (p := ⟨gb, ob + k, none⟩) hgb).trans (hcb k y hy)
                clear hca hcb hbw hx hy
                by_cases hxy : x = y
                · have ie : ((str x).toList == (str y).toList) = true := by rw [hxy]; exact beq_self_eq_true _
                  have HN := Lib.hid (show ∀ j, j < k + 1 → L[j]? = L2[j]? from fun j hj => by
                    by_cases e : j = k
                    · subst e; rw [HX.out, HY.out, hxy]
                    · exact HEQ.out j (by omega))
                  clear hxy
                  go_wp2_with fail
                  go_region
                  all_goals
                    go_wp2_with fail
                    go_roundw
                    case rel => exact ⟨k + 1, by omega, by go_num, HN.out, by first | exact HBL.out | exact below_drew1 HBL.out⟩
                    case measure => simp [intOf]; omega
                · have ie : ((str x).toList == (str y).toList) = false := by rw [eqS, str_dat, ByteArray.toList_eq, str_dat]; exact decide_eq_false hxy
                  have HN := Lib.hid (show ¬ (L = L2) from fun e => hxy (Option.some.inj (by rw [← HX.out, ← HY.out, e])))
                  clear hxy
                  go_wp2_with fail
                  go_region
                  all_goals
                    go_wp2_with fail
                    go_ret
                    exact ⟨by rw [HQ.out, decide_eq_false HN.out]; rfl, HV2.out.1.trans ((below_drew1 HBL.out).mono HV2.out.1.size)⟩
              · have hki : (L.length : Int) ≤ (k : Int) := by omega
                have HN := Lib.hid (list_eq_of H5.out k (by omega) HEQ.out)
                go_wp2_with fail
                go_ret
                exact ⟨by rw [HQ.out, decide_eq_true HN.out]; rfl, HV2.out.1.trans (HBL.out.mono HV2.out.1.size)⟩
          · have i5 : ((L.length : Int) != (L2.length : Int)) = true := by rw [bne_iff_ne]; omega
            rw [decide_eq_false (fun e => h5 (by rw [e]))] at hq
            have HQ := Lib.hid hq
            clear hq
            go_wp2_with fail
            go_ret
            exact ⟨by rw [HQ.out]; rfl, (((below_new _ _).alloc (by simp) _))⟩
        · rw [decide_eq_false h4] at hq
          have i4 : (dd != d2) = true := by rw [bne_iff_ne]; exact h4
          have HQ : RowKit.Hid (R = false) := hq
          clear hq i4
          cases dd <;> cases d2
          · exact absurd rfl h4
          · clear h4
            go_wp2_with fail
            go_ret
            exact ⟨by rw [HQ.out]; rfl, (((below_new _ _).alloc (by simp) _))⟩
          · clear h4
            go_wp2_with fail
            go_ret
            exact ⟨by rw [HQ.out]; rfl, (((below_new _ _).alloc (by simp) _))⟩
          · exact absurd rfl h4
      · rw [decide_eq_false h3] at hq
        have i3 : (p != p2) = true := by rw [bne_iff_ne]; exact h3
        have HQ : RowKit.Hid (R = false) := hq
        clear hq h3
        go_wp2_with fail
        go_ret
        exact ⟨by rw [HQ.out]; rfl, (((below_new _ _).alloc (by simp) _))⟩
    · rw [decide_eq_false h2] at hq
      have i2 : ((str H).toList == (str H2).toList) = false := by
        rw [eqS, str_dat, ByteArray.toList_eq, str_dat]; exact decide_eq_false h2
      have HQ : RowKit.Hid (R = false) := hq
      clear hq h2
      go_wp2_with fail
      go_ret
      exact ⟨by rw [HQ.out]; rfl, (((below_new _ _).alloc (by simp) _))⟩
  · rw [decide_eq_false h1] at hq
    have i1 : ((S : Int) != (S2 : Int)) = true := by rw [bne_iff_ne]; omega
    have HQ : RowKit.Hid (R = false) := hq
    clear hq h1
    go_wp2_with fail
    go_ret
    exact ⟨by rw [HQ.out]; rfl, (((below_new _ _).alloc (by simp) _))⟩
def greatB (l : Lc) : Bool := decide (30 < l.parts.length) || decide (500 < l.host.length) || l.parts.any fun p => decide (500 < p.length)
theorem take_any_no (L : List (List UInt8)) (k : Nat) (x : List UInt8) (hk : L[k]? = some x) (h : (L.take k).any (fun p => decide (500 < p.length)) = false) (h2 : ¬ 500 < x.length) : (L.take (k + 1)).any (fun p => decide (500 < p.length)) = false := by
  rw [List.take_add_one, hk, List.any_append, h]
  simp
  omega
theorem any_yes (L : List (List UInt8)) (k : Nat) (x : List UInt8) (hk : L[k]? = some x) (h2 : 500 < x.length) : L.any (fun p => decide (500 < p.length)) = true :=
  List.any_eq_true.2 ⟨x, List.mem_of_getElem? hk, decide_eq_true h2⟩
end Go.Proofs.YthagoafcphaadaaDoor
