/-
  THE WALKS over layer 8: the program's reader: take, length.
-/
import Derived.Test.YtlbchefdkdngnaaOcZ
import Derived.WalkLawsBesides
namespace Go.Proofs.Ytlbchefdkdngnaa
open Go.RowKit Sha Oc
set_option linter.unusedVariables false
set_option linter.unusedSimpArgs false
/-- a reader in memory: block g holds the slice of the bytes L that are left -/
structure Rdr (lo : Nat) (w : World) (g : Nat) (A : Option Addr) (L : List UInt8) (c : Nat) : Prop where
  row : w.heap[g]? = some (.cells #[.slice A L.length c] 78 (0, 0))
  src : SrcAt A L w
  cap : L.length ≤ c
  nul : A = none → c = 0
  len : L.length ≤ 1000000
  far : ∀ ga oa, A = some ⟨ga, oa, none⟩ → L ≠ [] → ga ≠ g ∧ ga < lo
/-- the panic of a reader -/
abbrev pan : PanicEntry := { v := .iface 23 (.int .i64 12), recovered := false }
theorem bodyPost_panic {P : Program} {fn : Func} {R : Ending → World → Prop} {ch : List PanicEntry} {t : Array Value} {w : World} (h : R (.panicked ch) w) : bodyPost P fn R (.panic ch) { tmps := t, defers := [] } w := ⟨rfl, h⟩
theorem row_set {w : World} {g : Nat} {v u : Value} {T : TypeId} (h : w.heap[g]? = some (.cells #[v] T (0, 0))) : (w.setCell ⟨g, 0, none⟩ u).heap[g]? = some (.cells #[u] T (0, 0)) := one_setCell h
theorem grown_set (w : World) (g : Nat) (u : Value) : w.grownBy (w.setCell ⟨g, 0, none⟩ u) (some g) := ⟨rfl, rfl, rfl, by simp, fun k _ hk => Below.heap_setCell _ _ _ _ (fun e => hk (by rw [e]))⟩
theorem srcAt_grown {A : Option Addr} {L : List UInt8} {w w' : World} {g : Nat} (h : SrcAt A L w) (hg : w.grownBy w' (some g)) (hf : ∀ ga oa, A = some ⟨ga, oa, none⟩ → L ≠ [] → ga ≠ g) : SrcAt A L w' := fun hne => by
  obtain ⟨ga, o, e, hc⟩ := h hne
  exact ⟨ga, o, e, fun j x hj => hg.cell (hc j x hj) (fun e2 => hf ga o e hne (Option.some.inj e2))⟩
theorem srcAt_take {A : Option Addr} {L : List UInt8} {w : World} (h : SrcAt A L w) (n : Nat) : SrcAt A (L.take n) w := fun hne => by
  obtain ⟨ga, o, e, hc⟩ := h (fun e => hne (by rw [e, List.take_nil]))
  refine ⟨ga, o, e, fun j x hj => hc j x ?_⟩
  rw [List.getElem?_take] at hj
  split at hj
  · exact hj
  · cases hj
theorem srcAt_drop {A : Option Addr} {L : List UInt8} {w : World} (h : SrcAt A L w) (n : Nat) : SrcAt (A.map fun x => x.add n) (L.drop n) w := fun hne => by
  obtain ⟨ga, o, e, hc⟩ := h (fun e => hne (by rw [e, List.drop_nil]))
  subst e
  refine ⟨ga, o + n, by rw [Option.map_some, add_eq], fun j x hj => ?_⟩
  rw [List.getElem?_drop] at hj
  rw [Nat.add_assoc]
  exact hc (n + j) x hj
/-- what is taken, and what is left -/
theorem Rdr.taken {lo : Nat} {w : World} {g : Nat} {A A' : Option Addr} {L : List UInt8} {c n : Nat} (h : Rdr lo w g A L c) (hn : n ≤ L.length) (hA : (c = n ∧ A' = A) ∨ (¬ c = n ∧ A' = A.map fun x => x.add n)) :
    SrcAt A (L.take n) (w.setCell ⟨g, 0, none⟩ (.slice A' (L.length - n) (c - n))) ∧ Rdr lo (w.setCell ⟨g, 0, none⟩ (.slice A' (L.length - n) (c - n))) g A' (L.drop n) (c - n) ∧ w.grownBy (w.setCell ⟨g, 0, none⟩ (.slice A' (L.length - n) (c - n))) (some g) := by
  have hg := grown_set w g (.slice A' (L.length - n) (c - n))
  have hc := h.cap
  have hne : ∀ q : List UInt8, q.length ≤ L.length → q ≠ [] → L ≠ [] := fun q hq h1 e => h1 (List.length_eq_zero_iff.1 (by rw [e] at hq; simpa using hq))
  refine ⟨srcAt_grown (srcAt_take h.src n) hg fun ga oa e h1 => (h.far ga oa e (hne _ (by rw [List.length_take]; omega) h1)).1, ⟨?_, ?_, ?_, ?_, ?_, ?_⟩, hg⟩
  · rw [List.length_drop]
    exact row_set h.row
  · rcases hA with ⟨e1, rfl⟩ | ⟨_, rfl⟩
    · intro h1
      exact absurd (List.length_eq_zero_iff.1 (by rw [List.length_drop]; omega)) h1
    · refine srcAt_grown (srcAt_drop h.src n) hg fun ga oa e h1 => ?_
      cases A with
      | none => cases e
      | some a =>
        have h2 := hne _ (by rw [List.length_drop]; omega) h1
        obtain ⟨gb, ob, e3, _⟩ := h.src h2
        have e4 := Option.some.inj e3
        subst e4
        rw [Option.map_some, add_eq] at e
        have e5 := congrArg Addr.block (Option.some.inj e)
        have e6 : gb = ga := e5
        rw [← e6]
        exact (h.far gb ob rfl h2).1
  · rw [List.length_drop]; omega
  · intro e
    rcases hA with ⟨e1, rfl⟩ | ⟨_, rfl⟩
    · rw [h.nul e]; omega
    · cases A with
      | none => rw [h.nul rfl]; omega
      | some a => cases e
  · have := h.len
    rw [List.length_drop]; omega
  · intro ga oa e h1
    have h2 := hne _ (by rw [List.length_drop]; omega) h1
    rcases hA with ⟨e1, rfl⟩ | ⟨_, rfl⟩
    · exact h.far ga oa e h2
    · obtain ⟨gb, ob, e3, _⟩ := h.src h2
      subst e3
      rw [Option.map_some, add_eq] at e
      have e6 : gb = ga := congrArg Addr.block (Option.some.inj e)
      rw [← e6]
      exact h.far gb ob rfl h2
def TkPost (lo g : Nat) (A : Option Addr) (L : List UInt8) (c n : Nat) (w : World) (e : Ending) (w' : World) : Prop :=
  (L.length < n ∧ e = .panicked [pan] ∧ w' = w) ∨ (n ≤ L.length ∧ e = .returned (.slice A n c) ∧ w.grownBy w' (some g) ∧ SrcAt A (L.take n) w' ∧ ∃ A', Rdr lo w' g A' (L.drop n) (c - n))
set_option maxRecDepth 100000 in
set_option maxHeartbeats 4000000 in
theorem take_any (lo : Nat) (w : World) (g : Nat) (A : Option Addr) (L : List UInt8) (c n : Nat) (h : Rdr lo w g A L c) (hn : n < 18446744073709551616) :
    Calls Try.prog 66 #[.pointer (some ⟨g, 0, none⟩), .int .u64 (n : Int)] w (TkPost lo g A L c n w) := by
  have HH := Lib.hid h
  obtain ⟨hrow, hs, hc, hnul, hlen, hfar⟩ := h
  unfold TkPost
  obtain ⟨m, hm⟩ : ∃ m, L.length = m := ⟨_, rfl⟩
  have HM := Lib.hid hm
  rw [hm] at hrow hc hlen ⊢
  have hlt := (Array.getElem?_eq_some_iff.1 hrow).1
  have hc0 := cell_of_one hrow
  have hf0 := free_of_one hrow
  have HWR : RowKit.Hid (IntKind.u64.wrap (m : Int) = (m : Int)) := Lib.hid (by simp [IntKind.wrap, IntKind.signed, IntKind.bits]; omega)
  clear hm hs hnul hfar hrow
  by_cases h1 : m < n
  · have h1i : (m : Int) < (n : Int) := by omega
    go_enter Try.func66, Try.ntmps66
    go_wp2_with fail
    exact bodyPost_panic (.inl ⟨h1, rfl, rfl⟩)
  · have h1i : ¬ (m : Int) < (n : Int) := by omega
    by_cases h2 : c = n
    · subst h2
      have hmc : m = c := by omega
      subst hmc
      have h9 := HH.out.taken (n := m) (A' := A) (by rw [HM.out]; omega) (.inl ⟨rfl, rfl⟩)
      rw [HM.out, Nat.sub_self] at h9
      have H9 := Lib.hid h9
      clear h9
      go_enter Try.func66, Try.ntmps66
      go_wp2_with fail
      go_ret
      first
        | exact ⟨by omega, rfl, H9.out.2.2, H9.out.1, A, by rw [Nat.sub_self]; exact H9.out.2.1⟩
        | exact .inr ⟨by omega, rfl, H9.out.2.2, H9.out.1, A, by rw [Nat.sub_self]; exact H9.out.2.1⟩
        | exact ⟨rfl, H9.out.2.2, H9.out.1, A, H9.out.2.1⟩
    · have h9 := HH.out.taken (n := n) (A' := A.map fun x => x.add n) (by rw [HM.out]; omega) (.inr ⟨h2, rfl⟩)
      rw [HM.out] at h9
      have H9 := Lib.hid h9
      clear h9
      go_enter Try.func66, Try.ntmps66
      go_wp2_with fail
      go_ret
      first
        | exact ⟨by omega, rfl, H9.out.2.2, H9.out.1, _, H9.out.2.1⟩
        | exact .inr ⟨by omega, rfl, H9.out.2.2, H9.out.1, _, H9.out.2.1⟩
def LnPost (lo g : Nat) (L : List UInt8) (w : World) (e : Ending) (w' : World) : Prop := w.grownBy w' (some g) ∧
  ((prl L = none ∧ e = .panicked [pan]) ∨ ∃ n r A' c', prl L = some (n, r) ∧ n < 18446744073709551616 ∧ e = .returned (.int .u64 (n : Int)) ∧ Rdr lo w' g A' r c')
theorem prl_one (x : UInt8) (r : List UInt8) (h : x.toNat < 128) : prl (x :: r) = some (x.toNat, r) := by rw [prl, if_pos h]
set_option maxRecDepth 100000 in
set_option maxHeartbeats 4000000 in
theorem length_any (lo : Nat) (w : World) (g : Nat) (A : Option Addr) (L : List UInt8) (c : Nat) (h : Rdr lo w g A L c) :
    Calls Try.prog 67 #[.pointer (some ⟨g, 0, none⟩)] w (LnPost lo g L w) := by
  have HT := Lib.hid (take_any lo w g A L c 1 h (by decide))
  unfold TkPost at HT
  unfold LnPost
  cases L with
  | nil =>
    clear h
    go_enter Try.func67, Try.ntmps67
    go_wp2_with fail
    refine HT.out.mono ?_
    rintro e w1 (⟨_, rfl, rfl⟩ | ⟨h1, _⟩)
    · exact bodyPost_panic ⟨World.grownBy.refl _ _, .inl ⟨rfl, rfl⟩⟩
    · exact absurd h1 (by simp)
  | cons x r =>
    have HX := Lib.hid x.toNat_lt
    have HR0 : RowKit.Hid (prl (x :: r) = prl (x :: r)) := Lib.hid rfl
    clear h
    go_enter Try.func67, Try.ntmps67
    go_wp2_with fail
    refine HT.out.mono ?_
    rintro e w1 (⟨h1, _⟩ | ⟨_, rfl, hg1, hs1, A', hr1⟩)
    · exact absurd h1 (by rw [List.length_cons]; omega)
    obtain ⟨ga, o, rfl, hc1⟩ := hs1 (by simp)
    have hx := hc1 0 x rfl
    rw [Nat.add_zero] at hx
    have HG1 := Lib.hid hg1
    have HR1 : RowKit.Hid (Rdr lo w1 g A' r (c - 1)) := Lib.hid hr1
    clear HT hg1 hs1 hr1 hc1
    obtain ⟨z, hz⟩ : ∃ z, x.toNat = z := ⟨_, rfl⟩
    rw [hz] at hx
    have HZ := Lib.hid hz
    have hz8 : z < 256 := by have := HX.out; omega
    clear hz
    by_cases h1 : z < 128
    · have h1i : (z : Int) < 128 := by omega
      go_wp2_with fail
      go_ret
      refine ⟨HG1.out, .inr ⟨z, r, A', c - 1, ?_, by omega, rfl, HR1.out⟩⟩
      rw [← HZ.out]
      exact prl_one x r (by rw [HZ.out]; exact h1)
    · have h1i : ¬ (z : Int) < 128 := by omega
      have hzc : (z : Int) - 128 = ((z - 128 : Nat) : Int) := by omega
      obtain ⟨k, hk⟩ : ∃ k, z - 128 = k := ⟨_, rfl⟩
      rw [hk] at hzc
      have hk8 : k < 128 := by omega
      have HT2 := Lib.hid (take_any lo w1 g A' r (c - 1) k HR1.out (by omega))
      unfold TkPost at HT2
      have HP : RowKit.Hid (prl (x :: r) = if r.length < k then none else if okN (r.take k) = true ∧ 128 ≤ numN (r.take k) then some (numN (r.take k), r.drop k) else none) := Lib.hid (by rw [prl, HZ.out, if_neg h1, hk])
      clear hk
      go_wp2_with fail
      try rw [hzc]
      refine HT2.out.mono ?_
      rintro e w2 (⟨h2, rfl, rfl⟩ | ⟨h2, rfl, hg2, hs2, A2, hr2⟩)
      · exact bodyPost_panic ⟨HG1.out, .inl ⟨by rw [HP.out, if_pos h2], rfl⟩⟩
      have hbl : (r.take k).length = k := by rw [List.length_take]; omega
      obtain ⟨b, hb⟩ : ∃ b, r.take k = b := ⟨_, rfl⟩
      rw [hb] at hbl hs2 HP
      rw [if_neg (by omega)] at HP
      have hnum := number_any b A' (c - 1) (by omega) w2 hs2
      rw [hbl] at hnum
      have HNUM := Lib.hid hnum
      have HG2 := Lib.hid (HG1.out.trans hg2)
      have HR2 := Lib.hid hr2
      obtain ⟨ok, hok⟩ : ∃ ok, okN b = ok := ⟨_, rfl⟩
      obtain ⟨N, hN⟩ : ∃ N, numN b = N := ⟨_, rfl⟩
      have hN64 := numN_lt b
      rw [hok, hN] at HNUM HP
      rw [hN] at hN64
      clear hnum hg2 hr2 hs2 hok hN hb HT2 h2
      go_wp2_with fail
      refine HNUM.out.mono ?_
      rintro e w3 ⟨rfl, rfl⟩
      clear HNUM
      cases ok with
      | false =>
        go_wp2_with fail
        exact bodyPost_panic ⟨HG2.out, .inl ⟨by rw [HP.out, if_neg (by simp)], rfl⟩⟩
      | true =>
        by_cases h3 : N < 128
        · have h3i : (N : Int) < 128 := by omega
          go_wp2_with fail
          exact bodyPost_panic ⟨HG2.out, .inl ⟨by rw [HP.out, if_neg (by omega)], rfl⟩⟩
        · have h3i : ¬ (N : Int) < 128 := by omega
          go_wp2_with fail
          go_ret
          exact ⟨HG2.out, .inr ⟨N, r.drop k, A2, _, by rw [HP.out, if_pos ⟨by first | rfl | trivial, by omega⟩], hN64, rfl, HR2.out⟩⟩
end Go.Proofs.Ytlbchefdkdngnaa
