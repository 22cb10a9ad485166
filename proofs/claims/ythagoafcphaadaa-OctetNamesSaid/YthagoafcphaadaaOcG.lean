/-
  THE WALKS over layer 8: ReadNum, of the program and of the reference.
-/
import Derived.Test.YthagoafcphaadaaOcF
namespace Go.Proofs.Ythagoafcphaadaa
open Go.RowKit Sha Oc
set_option linter.unusedVariables false
set_option linter.unusedSimpArgs false
def rdN (t tg : UInt8) (b : List UInt8) (ll : Nat) (M : Int) : Int × Int := if t = tg ∧ ll = 0 ∧ okN b = true ∧ (numN b : Int) ≤ M then ((numN b : Int), 0) else (0, 12)
theorem numN_lt (b : List UInt8) : numN b < 18446744073709551616 := by
  unfold numN
  by_cases h : okN b = true
  · rw [if_pos h]
    unfold okN at h
    simp at h
    have h1 := vl_lt b.length b rfl
    have h2 : (256 : Nat) ^ b.length ≤ 256 ^ 8 := Nat.pow_le_pow_right (by decide) h.1
    have h3 : (256 : Nat) ^ 8 = 18446744073709551616 := by decide
    omega
  · rw [if_neg h]
    decide
theorem u8_ne (t tg : UInt8) (h : t ≠ tg) : (((t.toNat : Nat) : Int) != ((tg.toNat : Nat) : Int)) = true := by
  have h1 : t.toNat ≠ tg.toNat := fun e => h (UInt8.toNat_inj.1 e)
  simp
  omega
theorem u8_eq (t : UInt8) : (((t.toNat : Nat) : Int) != ((t.toNat : Nat) : Int)) = false := by simp
set_option maxRecDepth 100000 in
set_option maxHeartbeats 4000000 in
theorem readnum_any (t : UInt8) (b : List UInt8) (l : List Oct) (tg : UInt8) (M : Int) (w : World) (x y : Value) (hat : At (fun _ => True) w (.mk t b l) x y) :
    Calls Try.prog 8 #[.agg (cell3 (.mk t b l) x y), .int .u8 (tg.toNat : Int), .int .u64 M] w fun e w' => e = .returned (.tuple #[.int .u64 (rdN t tg b l.length M).1, .int .i64 (rdN t tg b l.length M).2]) ∧ Below w.heap.size w w' := by
  obtain ⟨A, c, B, d, g, off, vb, vl, rfl, rfl, hc, hbm, hcn, hs, hd, hdn, he⟩ := hat.els
  show Calls Try.prog 8 #[.agg #[.int .u8 (t.toNat : Int), .slice A b.length c, .slice B l.length d], .int .u8 (tg.toNat : Int), .int .u64 M] w _
  have hnu := fun (V : World) (hb : Below w.heap.size w V) => number_any b A c hbm V (hs.on hb)
  obtain ⟨r, hr⟩ : ∃ r, rdN t tg b l.length M = r := ⟨_, rfl⟩
  rw [hr]
  unfold rdN at hr
  obtain ⟨n, hn⟩ : ∃ n, b.length = n := ⟨_, rfl⟩
  obtain ⟨ll, hll⟩ : ∃ ll, l.length = ll := ⟨_, rfl⟩
  obtain ⟨N, hN⟩ : ∃ N : Int, (numN b : Int) = N := ⟨_, rfl⟩
  obtain ⟨ok, hok⟩ : ∃ ok, okN b = ok := ⟨_, rfl⟩
  simp only [hN, hok] at hnu hr
  rw [hn] at hnu ⊢
  rw [hll] at hr ⊢
  have NU := Lib.hid hnu
  have hrow := heap_alloc_new w (.cells #[.int .u8 (t.toNat : Int), .slice A n c, .slice B ll d] 28)
  have HROW := Lib.hid hrow
  have HB0 := Lib.hid (below_new w (.cells #[.int .u8 (t.toNat : Int), .slice A n c, .slice B ll d] 28))
  clear hnu hrow hat hs he hc hbm hcn hd hdn hn hll hN hok
  by_cases h1 : t = tg
  · subst h1
    have hne := u8_eq t
    by_cases h2 : ll = 0
    · subst h2
      cases ok with
      | true =>
        by_cases h3 : N ≤ M
        · rw [if_pos ⟨rfl, rfl, rfl, h3⟩] at hr
          subst hr
          have h3d : ¬ M < N := by omega
          clear h3
          go_enter Try.func8, Try.ntmps8
          go_upto_region 1 with (fail)
          generalize hV : World.alloc w _ = V at HROW HB0 ⊢
          clear hV
          have hlt := (Array.getElem?_eq_some_iff.1 HROW.out).1
          obtain ⟨_, hc0, hc1, hc2⟩ := facts3 HROW.out
          go_wp2_with fail
          refine (NU.out _ HB0.out).mono ?_
          rintro e w1 ⟨rfl, rfl⟩
          go_wp2_with fail
          go_ret2
          exact ⟨rfl, HB0.out⟩
        · rw [if_neg (fun h => h3 h.2.2.2)] at hr
          subst hr
          have h3d : M < N := by omega
          clear h3
          go_enter Try.func8, Try.ntmps8
          go_upto_region 1 with (fail)
          generalize hV : World.alloc w _ = V at HROW HB0 ⊢
          clear hV
          have hlt := (Array.getElem?_eq_some_iff.1 HROW.out).1
          obtain ⟨_, hc0, hc1, hc2⟩ := facts3 HROW.out
          go_wp2_with fail
          refine (NU.out _ HB0.out).mono ?_
          rintro e w1 ⟨rfl, rfl⟩
          go_wp2_with fail
          go_ret2
          exact ⟨rfl, HB0.out⟩
      | false =>
        rw [if_neg (fun h => by cases h.2.2.1)] at hr
        subst hr
        go_enter Try.func8, Try.ntmps8
        go_upto_region 1 with (fail)
        generalize hV : World.alloc w _ = V at HROW HB0 ⊢
        clear hV
        have hlt := (Array.getElem?_eq_some_iff.1 HROW.out).1
        obtain ⟨_, hc0, hc1, hc2⟩ := facts3 HROW.out
        go_wp2_with fail
        refine (NU.out _ HB0.out).mono ?_
        rintro e w1 ⟨rfl, rfl⟩
        go_wp2_with fail
        go_ret2
        exact ⟨rfl, HB0.out⟩
    · rw [if_neg (fun h => h2 h.2.1)] at hr
      subst hr
      have h2i : (0 : Int) < (ll : Int) := by omega
      have h2n : 0 < ll := by omega
      clear h2
      go_enter Try.func8, Try.ntmps8
      go_upto_region 1 with (fail)
      generalize hV : World.alloc w _ = V at HROW HB0 ⊢
      clear hV
      have hlt := (Array.getElem?_eq_some_iff.1 HROW.out).1
      obtain ⟨_, hc0, hc1, hc2⟩ := facts3 HROW.out
      go_wp2_with fail
      refine (NU.out _ HB0.out).mono ?_
      rintro e w1 ⟨rfl, rfl⟩
      go_wp2_with fail
      go_ret2
      exact ⟨rfl, HB0.out⟩
  · rw [if_neg (fun h => h1 h.1)] at hr
    subst hr
    have hne := u8_ne t tg h1
    clear h1
    go_enter Try.func8, Try.ntmps8
    go_upto_region 1 with (fail)
    generalize hV : World.alloc w _ = V at HROW HB0 ⊢
    clear hV
    have hlt := (Array.getElem?_eq_some_iff.1 HROW.out).1
    obtain ⟨_, hc0, hc1, hc2⟩ := facts3 HROW.out
    go_wp2_with fail
    refine (NU.out _ HB0.out).mono ?_
    rintro e w1 ⟨rfl, rfl⟩
    go_wp2_with fail
    go_ret2
    exact ⟨rfl, HB0.out⟩
end Go.Proofs.Ythagoafcphaadaa
