/-
  THE WALK over layer 8's reference: Check. Written by wip/gen-oc14.py.
-/
import Derived.Test.YtlbchefdkdngnaaOcU
namespace Go.Proofs.Ytlbchefdkdngnaa
open Go.RowKit Sha Oc
set_option linter.unusedVariables false
set_option linter.unusedSimpArgs false
/-- what Check answers -/
def ckV (o : Oct) : Int := if 4000 < cnt o ∨ 12 < dep o then 4 else if shpB o = false then 8 else if 65536 < siz o then 4 else 0
set_option maxRecDepth 100000 in
set_option maxHeartbeats 4000000 in
theorem check_ref8 (o : Oct) (hcn : cnt o ≤ 100000) (htt : tot o ≤ 200000) (w : World) (x y : Value) (hat : At (fun _ => True) w o x y) :
    Calls Try.prog 27 #[.agg (cell3 o x y)] w (fun e w' => e = .returned (.int .i64 (ckV o)) ∧ Below w.heap.size w w') := by
  obtain ⟨A1, m1, c1, B1, n1, d1, rfl, rfl⟩ := hat.slices
  obtain ⟨tz, htz⟩ : ∃ tz : Int, ((tagO o).toNat : Int) = tz := ⟨_, rfl⟩
  obtain ⟨N, hN⟩ : ∃ N, cnt o = N := ⟨_, rfl⟩
  obtain ⟨D, hD⟩ : ∃ D, dep o = D := ⟨_, rfl⟩
  obtain ⟨sb, hB⟩ : ∃ sb, shpB o = sb := ⟨_, rfl⟩
  obtain ⟨Z, hZ⟩ : ∃ Z, siz o = Z := ⟨_, rfl⟩
  have C1 : RowKit.Hid (∀ V : World, Below w.heap.size w V → Calls Try.prog 53 #[.agg #[.int .u8 tz, .slice A1 m1 c1, .slice B1 n1 d1]] V (fun e w' => e = .returned (.int .i64 (N : Int)) ∧ Below V.heap.size V w')) := Lib.hid (fun V hb => by
    rw [← htz]
    rw [← hN]; exact count_ref_all 100000 o hcn (Nat.le_refl _) V _ _ (hat.on hb))
  have C2 : RowKit.Hid (∀ V : World, Below w.heap.size w V → Calls Try.prog 54 #[.agg #[.int .u8 tz, .slice A1 m1 c1, .slice B1 n1 d1]] V (fun e w' => e = .returned (.int .i64 (D : Int)) ∧ Below V.heap.size V w')) := Lib.hid (fun V hb => by
    rw [← htz]
    rw [← hD]; exact depth_ref_all 100000 o hcn (Nat.le_refl _) V _ _ (hat.on hb))
  have C3 : RowKit.Hid (∀ V : World, Below w.heap.size w V → Calls Try.prog 55 #[.agg #[.int .u8 tz, .slice A1 m1 c1, .slice B1 n1 d1]] V (fun e w' => e = .returned (.bool sb) ∧ Below V.heap.size V w')) := Lib.hid (fun V hb => by
    rw [← htz]
    rw [← hB]; exact shaped_all 100000 o hcn (Nat.le_refl _) V _ _ (hat.on hb))
  have C4 : RowKit.Hid (∀ V : World, Below w.heap.size w V → Calls Try.prog 56 #[.agg #[.int .u8 tz, .slice A1 m1 c1, .slice B1 n1 d1]] V (fun e w' => e = .returned (.int .i64 (Z : Int)) ∧ Below V.heap.size V w')) := Lib.hid (fun V hb => by
    rw [← htz]
    rw [← hZ]; exact size_all 100000 o hcn (Nat.le_refl _) htt V _ _ (hat.on hb))
  show Calls Try.prog 27 #[.agg #[.int .u8 ((tagO o).toNat : Int), .slice A1 m1 c1, .slice B1 n1 d1]] w _
  rw [htz]
  have R0 := Lib.hid (heap_alloc_new w (.cells #[.int .u8 tz, .slice A1 m1 c1, .slice B1 n1 d1] 28))
  have B0 := Lib.hid (below_new w (.cells #[.int .u8 tz, .slice A1 m1 c1, .slice B1 n1 d1] 28))
  clear hat htz hcn htt
  go_enter Try.func27, Try.ntmps27
  go_upto_region 1 with (fail)
  generalize hV : World.alloc w _ = w0 at R0 B0 ⊢
  clear hV
  have hlt := (Array.getElem?_eq_some_iff.1 R0.out).1
  obtain ⟨_, hc0, hc1, hc2⟩ := facts3 R0.out
  have hrg := range3o hc0 hc1 hc2
  go_wp2_with fail
  refine (C1.out w0 B0.out).mono ?_
  rintro e w1 ⟨rfl, hb⟩
  have B1 := Lib.hid (chain B0.out hb)
  have R1 := Lib.hid (row_on R0.out hb)
  clear hb hlt hc0 hc1 hc2 hrg
  by_cases h1 : 4000 < N
  · have h1i : (4000 : Int) < (N : Int) := by omega
    have VAL : RowKit.Hid (ckV o = 4) := Lib.hid (by unfold ckV; rw [hN, if_pos (Or.inl h1)])
    clear hN hD hB hZ
    go_wp2_with fail
    go_ret
    exact ⟨by rw [VAL.out]; try rfl, B1.out⟩
  · have h1i : ¬ (4000 : Int) < (N : Int) := by omega
    have hlt := (Array.getElem?_eq_some_iff.1 R1.out).1
    obtain ⟨_, hc0, hc1, hc2⟩ := facts3 R1.out
    have hrg := range3o hc0 hc1 hc2
    go_wp2_with fail
    refine (C2.out w1 B1.out).mono ?_
    rintro e w2 ⟨rfl, hb⟩
    have B2 := Lib.hid (chain B1.out hb)
    have R2 := Lib.hid (row_on R1.out hb)
    clear hb hlt hc0 hc1 hc2 hrg
    by_cases h2 : 12 < D
    · have h2i : (12 : Int) < (D : Int) := by omega
      have VAL : RowKit.Hid (ckV o = 4) := Lib.hid (by unfold ckV; rw [hN, hD, if_pos (Or.inr h2)])
      clear hN hD hB hZ
      go_wp2_with fail
      go_ret
      exact ⟨by rw [VAL.out]; try rfl, B2.out⟩
    · have h2i : ¬ (12 : Int) < (D : Int) := by omega
      have hlt := (Array.getElem?_eq_some_iff.1 R2.out).1
      obtain ⟨_, hc0, hc1, hc2⟩ := facts3 R2.out
      have hrg := range3o hc0 hc1 hc2
      go_wp2_with fail
      refine (C3.out w2 B2.out).mono ?_
      rintro e w3 ⟨rfl, hb⟩
      have B3 := Lib.hid (chain B2.out hb)
      have R3 := Lib.hid (row_on R2.out hb)
      clear hb hlt hc0 hc1 hc2 hrg
      cases sb with
      | false =>
        have VAL : RowKit.Hid (ckV o = 8) := Lib.hid (by unfold ckV; rw [hN, hD, hB, if_neg (by omega), if_pos rfl])
        clear hN hD hB hZ
        go_wp2_with fail
        go_ret
        exact ⟨by rw [VAL.out]; try rfl, B3.out⟩
      | true =>
        have hlt := (Array.getElem?_eq_some_iff.1 R3.out).1
        obtain ⟨_, hc0, hc1, hc2⟩ := facts3 R3.out
        have hrg := range3o hc0 hc1 hc2
        go_wp2_with fail
        refine (C4.out w3 B3.out).mono ?_
        rintro e w4 ⟨rfl, hb⟩
        have B4 := Lib.hid (chain B3.out hb)
        have R4 := Lib.hid (row_on R3.out hb)
        clear hb hlt hc0 hc1 hc2 hrg
        by_cases h4 : 65536 < Z
        · have h4i : (65536 : Int) < (Z : Int) := by omega
          have VAL : RowKit.Hid (ckV o = 4) := Lib.hid (by unfold ckV; rw [hN, hD, hB, hZ, if_neg (by omega), if_neg (by decide), if_pos h4])
          clear hN hD hB hZ
          go_wp2_with fail
          go_ret
          exact ⟨by rw [VAL.out]; try rfl, B4.out⟩
        · have h4i : ¬ (65536 : Int) < (Z : Int) := by omega
          have VAL : RowKit.Hid (ckV o = 0) := Lib.hid (by unfold ckV; rw [hN, hD, hB, hZ, if_neg (by omega), if_neg (by decide), if_neg h4])
          clear hN hD hB hZ
          go_wp2_with fail
          go_ret
          exact ⟨by rw [VAL.out]; try rfl, B4.out⟩

end Go.Proofs.Ytlbchefdkdngnaa
