/-
  THE WALK over layer 8's reference: ReadNum. Written by wip/gen-oc4.py.
-/
import Derived.Test.YtlbchefdkdngnaaOcG
namespace Go.Proofs.Ytlbchefdkdngnaa
open Go.RowKit Sha Oc
set_option linter.unusedVariables false
set_option linter.unusedSimpArgs false
set_option maxRecDepth 100000 in
set_option maxHeartbeats 4000000 in
theorem readnum_ref (t : UInt8) (b : List UInt8) (l : List Oct) (tg : UInt8) (M : Int) (hM : 0 ≤ M) (w : World) (x y : Value) (hat : At (fun _ => True) w (.mk t b l) x y) :
    Calls Try.prog 34 #[.agg (cell3 (.mk t b l) x y), .int .u8 (tg.toNat : Int), .int .u64 M] w fun e w' => e = .returned (.tuple #[.int .u64 (rdN t tg b l.length M).1, .int .i64 (rdN t tg b l.length M).2]) ∧ Below w.heap.size w w' := by
  obtain ⟨A, c, B, d, g0, off0, vb, vl0, rfl, rfl, hc, hbm, hcn, hs, hd, hdn, he⟩ := hat.els
  show Calls Try.prog 34 #[.agg #[.int .u8 (t.toNat : Int), .slice A b.length c, .slice B l.length d], .int .u8 (tg.toNat : Int), .int .u64 M] w _
  obtain ⟨r, hr⟩ : ∃ r, rdN t tg b l.length M = r := ⟨_, rfl⟩
  rw [hr]
  unfold rdN at hr
  obtain ⟨n, hn⟩ : ∃ n, b.length = n := ⟨_, rfl⟩
  obtain ⟨ll, hll⟩ : ∃ ll, l.length = ll := ⟨_, rfl⟩
  rw [hll] at hr
  rw [hn, hll]
  have hrow := heap_alloc_new w (.cells #[.int .u8 (t.toNat : Int), .slice A n c, .slice B ll d] 28)
  have HROW := Lib.hid hrow
  have HB0 := Lib.hid (below_new w (.cells #[.int .u8 (t.toNat : Int), .slice A n c, .slice B ll d] 28))
  have HN := Lib.hid hn
  clear hrow hat he hc hcn hd hdn hll
  by_cases h1 : t = tg
  · subst h1
    have hne := u8_eq t
    by_cases h2 : ll = 0
    · subst h2
      by_cases h8 : 8 < n
      · rw [if_neg (fun h => by have h3 := h.2.2.1; unfold okN at h3; simp at h3; omega)] at hr
        subst hr
        have h8i : (8 : Int) < (n : Int) := by omega
        clear hs hn hbm
        go_enter Try.func34, Try.ntmps34
        go_upto_region 1 with (fail)
        generalize hV : World.alloc w _ = V at HROW HB0 ⊢
        clear hV
        have hlt := (Array.getElem?_eq_some_iff.1 HROW.out).1
        obtain ⟨_, hc0, hc1, hc2⟩ := facts3 HROW.out
        go_wp2_with fail
        go_ret2
        exact ⟨rfl, HB0.out⟩
      · have h8i : ¬ (8 : Int) < (n : Int) := by omega
        have hn8 : n ≤ 8 := by omega
        have HN8 := Lib.hid hn8
        by_cases h0 : n = 0
        · have hb : b = [] := List.length_eq_zero_iff.1 (by rw [hn, h0])
          subst hb
          subst h0
          have hok : okN [] = true := rfl
          have hnn : numN [] = 0 := rfl
          rw [hok, hnn] at hr
          have h3 : ((0 : Nat) : Int) ≤ M := by omega
          rw [if_pos ⟨rfl, rfl, rfl, h3⟩] at hr
          subst hr
          obtain ⟨N, hN⟩ : ∃ N : Int, N = 0 := ⟨0, rfl⟩
          have h3d : ¬ M < 0 := by omega
          clear hok hnn hs hn hbm h3 hN h8
          go_enter Try.func34, Try.ntmps34
          go_upto_region 1 with (fail)
          generalize hV : World.alloc w _ = V at HROW HB0 ⊢
          clear hV
          have hlt := (Array.getElem?_eq_some_iff.1 HROW.out).1
          obtain ⟨_, hc0, hc1, hc2⟩ := facts3 HROW.out
          go_wp2_with fail
          go_loop [8, 9] (fun x i => x = .int .u64 0 ∧ i = .int .i64 0) (fun _ _ => 0)
          case atStart => exact ⟨rfl, rfl⟩
          case round =>
            obtain ⟨rfl, rfl⟩ := hrel
            go_wp2_with fail
            go_ret2
            exact ⟨rfl, HB0.out⟩
        · have hn0 : 0 < n := by omega
          have hnz : b ≠ [] := fun e => by rw [e] at hn; exact h0 hn.symm
          obtain ⟨g, off, rfl, hcell⟩ := hs hnz
          have hcV : ∀ V : World, Below w.heap.size w V → ∀ j x, b[j]? = some x → V.cell? ⟨g, off + j, none⟩ = some (.int .u8 (x.toNat : Int)) := fun V hb j x hj => by
            have h1 := hcell j x hj
            rw [hb.cell (p := ⟨g, off + j, none⟩) (World.block_lt_of_cell? _ _ h1)]
            exact h1
          have HCELL := Lib.hid hcV
          have h0i : (0 : Int) < (n : Int) := by omega
          obtain ⟨c0, hc00⟩ : ∃ c0 : Int, ((b.getD 0 0).toNat : Int) = c0 := ⟨_, rfl⟩
          have HC0 := Lib.hid hc00
          have HV0 : RowKit.Hid (vl (b.take 0) = 0) := Lib.hid rfl
          by_cases hz : b.getD 0 0 = 0
          · have hok : okN b = false := by
              unfold okN
              cases b with
              | nil => exact absurd rfl hnz
              | cons x r =>
                have : x = 0 := hz
                subst this
                simp
            rw [if_neg (fun h => by rw [hok] at h; cases h.2.2.1)] at hr
            subst hr
            have hcz : c0 = 0 := by rw [← hc00, hz]; rfl
            subst hcz
            clear hok hs hn hbm hcell hcV hc00 hz h0 h8 hnz
            go_enter Try.func34, Try.ntmps34
            go_upto_region 1 with (fail)
            generalize hV : World.alloc w _ = V at HROW HB0 ⊢
            clear hV
            have hlt := (Array.getElem?_eq_some_iff.1 HROW.out).1
            obtain ⟨_, hc0, hc1, hc2⟩ := facts3 HROW.out
            have hcq : V.cell? ⟨g, off, none⟩ = some (.int .u8 0) := by
              have h1 := HCELL.out V HB0.out 0 (b.getD 0 0) (by rw [List.getD_eq_getElem?_getD, List.getElem?_eq_getElem (by rw [HN.out]; exact hn0)]; rfl)
              rw [HC0.out] at h1
              exact h1
            go_wp2_with fail
            go_ret2
            exact ⟨rfl, HB0.out⟩
          · have hok : okN b = true := by
              unfold okN
              cases b with
              | nil => exact absurd rfl hnz
              | cons x r =>
                have h9 : x ≠ 0 := hz
                have h10 : (x :: r).length ≤ 8 := by omega
                simp [h9]
                simpa using h10
            have hnv : numN b = vl b := by unfold numN; rw [hok]; rfl
            rw [hok, hnv] at hr
            have hcz : (c0 == 0) = false := by
              have h9 : (b.getD 0 0).toNat ≠ 0 := fun e => hz (UInt8.toNat_inj.1 e)
              have h11 : c0 ≠ 0 := by omega
              simp [h11]
            obtain ⟨N, hN⟩ : ∃ N : Int, (vl b : Int) = N := ⟨_, rfl⟩
            rw [hN] at hr
            have HE : RowKit.Hid ((vl (b.take n) : Int) = N) := Lib.hid (by rw [List.take_of_length_le (by rw [HN.out]; exact Nat.le_refl _)]; exact hN)
            by_cases h3 : N ≤ M
            · rw [if_pos ⟨rfl, rfl, rfl, h3⟩] at hr
              subst hr
              clear hok hnv hs hn hbm hcell hcV hc00 hz h0 h8 hnz hN
              have h3d : ¬ M < N := by omega
              go_enter Try.func34, Try.ntmps34
              go_upto_region 1 with (fail)
              generalize hV : World.alloc w _ = V at HROW HB0 ⊢
              clear hV
              have hlt := (Array.getElem?_eq_some_iff.1 HROW.out).1
              obtain ⟨_, hc0, hc1, hc2⟩ := facts3 HROW.out
              have hcq : V.cell? ⟨g, off, none⟩ = some (.int .u8 c0) := by
                have h1 := HCELL.out V HB0.out 0 (b.getD 0 0) (by rw [List.getD_eq_getElem?_getD, List.getElem?_eq_getElem (by rw [HN.out]; exact hn0)]; rfl)
                rw [HC0.out] at h1
                exact h1
              go_wp2_with fail
              clear hcq
              go_loop [8, 9] (fun x i => ∃ k : Nat, k ≤ n ∧ i = .int .i64 (k : Int) ∧ x = .int .u64 (vl (b.take k) : Int)) (fun _ i => n - (intOf i).toNat)
              case atStart => exact ⟨0, by omega, rfl, by rw [HV0.out]; rfl⟩
              case round =>
                obtain ⟨k, hk, rfl, rfl⟩ := hrel
                by_cases hlt2 : k < n
                · have hki : (k : Int) < (n : Int) := by omega
                  have hck : V.cell? ⟨g, off + k, none⟩ = some (.int .u8 ((b.getD k 0).toNat : Int)) := HCELL.out V HB0.out k _ (by rw [List.getD_eq_getElem?_getD, List.getElem?_eq_getElem (by rw [HN.out]; exact hlt2)]; rfl)
                  have HS := Lib.hid (vl_take b k (by rw [HN.out]; exact hlt2))
                  have hvb := vl_bound b k (by have := HN8.out; omega) (by rw [HN.out]; omega)
                  obtain ⟨v, hv⟩ : ∃ v, vl (b.take k) = v := ⟨_, rfl⟩
                  obtain ⟨y, hy⟩ : ∃ y : UInt8, b.getD k 0 = y := ⟨_, rfl⟩
                  rw [hv] at hvb ⊢
                  rw [hy] at hck
                  have hyb := y.toNat_lt
                  have HV := Lib.hid hv
                  have HY := Lib.hid hy
                  clear hv hy
                  go_wp2_with fail
                  refine ⟨⟨k + 1, by omega, by go_num, ?_⟩, by simp [intOf]; omega⟩
                  rw [HS.out, HV.out, HY.out]
                  congr 1
                · have hkk : k = n := by omega
                  have HKK := Lib.hid hkk
                  have hge : ¬ (k : Int) < (n : Int) := by omega
                  have hx : (vl (b.take k) : Int) = N := by rw [HKK.out, HE.out]
                  rw [hx]
                  clear hkk hx
                  go_wp2_with fail
                  go_ret2
                  exact ⟨rfl, HB0.out⟩
            · rw [if_neg (fun h => h3 h.2.2.2)] at hr
              subst hr
              clear hok hnv hs hn hbm hcell hcV hc00 hz h0 h8 hnz hN
              have h3d : M < N := by omega
              go_enter Try.func34, Try.ntmps34
              go_upto_region 1 with (fail)
              generalize hV : World.alloc w _ = V at HROW HB0 ⊢
              clear hV
              have hlt := (Array.getElem?_eq_some_iff.1 HROW.out).1
              obtain ⟨_, hc0, hc1, hc2⟩ := facts3 HROW.out
              have hcq : V.cell? ⟨g, off, none⟩ = some (.int .u8 c0) := by
                have h1 := HCELL.out V HB0.out 0 (b.getD 0 0) (by rw [List.getD_eq_getElem?_getD, List.getElem?_eq_getElem (by rw [HN.out]; exact hn0)]; rfl)
                rw [HC0.out] at h1
                exact h1
              go_wp2_with fail
              clear hcq
              go_loop [8, 9] (fun x i => ∃ k : Nat, k ≤ n ∧ i = .int .i64 (k : Int) ∧ x = .int .u64 (vl (b.take k) : Int)) (fun _ i => n - (intOf i).toNat)
              case atStart => exact ⟨0, by omega, rfl, by rw [HV0.out]; rfl⟩
              case round =>
                obtain ⟨k, hk, rfl, rfl⟩ := hrel
                by_cases hlt2 : k < n
                · have hki : (k : Int) < (n : Int) := by omega
                  have hck : V.cell? ⟨g, off + k, none⟩ = some (.int .u8 ((b.getD k 0).toNat : Int)) := HCELL.out V HB0.out k _ (by rw [List.getD_eq_getElem?_getD, List.getElem?_eq_getElem (by rw [HN.out]; exact hlt2)]; rfl)
                  have HS := Lib.hid (vl_take b k (by rw [HN.out]; exact hlt2))
                  have hvb := vl_bound b k (by have := HN8.out; omega) (by rw [HN.out]; omega)
                  obtain ⟨v, hv⟩ : ∃ v, vl (b.take k) = v := ⟨_, rfl⟩
                  obtain ⟨y, hy⟩ : ∃ y : UInt8, b.getD k 0 = y := ⟨_, rfl⟩
                  rw [hv] at hvb ⊢
                  rw [hy] at hck
                  have hyb := y.toNat_lt
                  have HV := Lib.hid hv
                  have HY := Lib.hid hy
                  clear hv hy
                  go_wp2_with fail
                  refine ⟨⟨k + 1, by omega, by go_num, ?_⟩, by simp [intOf]; omega⟩
                  rw [HS.out, HV.out, HY.out]
                  congr 1
                · have hkk : k = n := by omega
                  have HKK := Lib.hid hkk
                  have hge : ¬ (k : Int) < (n : Int) := by omega
                  have hx : (vl (b.take k) : Int) = N := by rw [HKK.out, HE.out]
                  rw [hx]
                  clear hkk hx
                  go_wp2_with fail
                  go_ret2
                  exact ⟨rfl, HB0.out⟩
    · rw [if_neg (fun h => h2 h.2.1)] at hr
      subst hr
      have h2i : (0 : Int) < (ll : Int) := by omega
      have h2n : 0 < ll := by omega
      clear h2 hs hn hbm
      go_enter Try.func34, Try.ntmps34
      go_upto_region 1 with (fail)
      generalize hV : World.alloc w _ = V at HROW HB0 ⊢
      clear hV
      have hlt := (Array.getElem?_eq_some_iff.1 HROW.out).1
      obtain ⟨_, hc0, hc1, hc2⟩ := facts3 HROW.out
      go_wp2_with fail
      go_ret2
      exact ⟨rfl, HB0.out⟩
  · rw [if_neg (fun h => h1 h.1)] at hr
    subst hr
    have hne := u8_ne t tg h1
    clear h1 hs hn hbm
    go_enter Try.func34, Try.ntmps34
    go_upto_region 1 with (fail)
    generalize hV : World.alloc w _ = V at HROW HB0 ⊢
    clear hV
    have hlt := (Array.getElem?_eq_some_iff.1 HROW.out).1
    obtain ⟨_, hc0, hc1, hc2⟩ := facts3 HROW.out
    go_wp2_with fail
    go_ret2
    exact ⟨rfl, HB0.out⟩
end Go.Proofs.Ytlbchefdkdngnaa
