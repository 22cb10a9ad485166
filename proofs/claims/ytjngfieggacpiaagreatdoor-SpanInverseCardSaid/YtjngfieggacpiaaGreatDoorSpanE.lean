/-
  THE WALK over the prefixes that a span is told in: the iterator.
-/
import Derived.Test.YtjngfieggacpiaaGreatDoorSpanD
import Derived.RangeFuncNested
import Derived.RangeFuncBound
import Derived.RangeFuncCalls
import Derived.RangeFuncLeaves
import Derived.Shelf.Abstract
import Derived.OwnWalkIn
import Derived.TacticsInMore
import Derived.LoopNIn
import Derived.LoopIn
namespace Go.Proofs.YtjngfieggacpiaaGreatDoor
open Go.RowKit Adr Spn
set_option linter.unusedVariables false
set_option linter.unusedSimpArgs false
attribute [local go_sem] Oper.semAt_some
/-- the iterator's own steps: new blocks, and its own one -/
structure Stp (own : Nat) (A B : World) : Prop where
  size : A.heap.size ≤ B.heap.size
  same : ∀ b, b < A.heap.size → b ≠ own → B.heap[b]? = A.heap[b]?
  ow : own ≤ A.heap.size
  bl : Below own A B
theorem Stp.refl {own : Nat} {A : World} (h : own ≤ A.heap.size) : Stp own A A := ⟨Nat.le_refl _, fun _ _ _ => rfl, h, Below.refl _ _⟩
theorem Stp.below {own : Nat} {A B C : World} (h : Stp own A B) (hb : Below B.heap.size B C) : Stp own A C :=
  ⟨Nat.le_trans h.size hb.size, fun b h1 h2 => (hb.block b (Nat.lt_of_lt_of_le h1 h.size)).trans (h.same b h1 h2), h.ow, h.bl.trans (hb.mono (Nat.le_trans h.ow h.size))⟩
theorem cell_of_heap {V V' : World} {b : Nat} (h : V'.heap[b]? = V.heap[b]?) (o : Nat) : V'.cell? ⟨b, o, none⟩ = V.cell? ⟨b, o, none⟩ := by
  simp only [World.cell?, h]
theorem frozen_of_heap {V V' : World} {b : Nat} (h : V'.heap[b]? = V.heap[b]?) (o : Nat) : V'.frozen? ⟨b, o, none⟩ = V.frozen? ⟨b, o, none⟩ := by
  simp only [World.frozen?, h]
theorem Wk5.same {N : Nat} {V V' : World} {f a b c d : Int} (t : Wk5 N V f a b c d) (h : V'.heap[N]? = V.heap[N]?) : Wk5 N V' f a b c d :=
  ⟨(cell_of_heap h 0).trans t.a0, (cell_of_heap h 1).trans t.a1, (cell_of_heap h 2).trans t.a2, (cell_of_heap h 3).trans t.a3, (cell_of_heap h 4).trans t.a4, fun j => (frozen_of_heap h j).trans (t.fz j)⟩
/-- what a round of the caller's keeps -/
structure Kps (own : Nat) (V0 V V' : World) : Prop where
  size : V.heap.size ≤ V'.heap.size
  same : ∀ b, (b = own ∨ V0.heap.size ≤ b) → b < V.heap.size → V'.heap[b]? = V.heap[b]?
/-- the address that a walk has come to -/
def fromAt (B : Nat) (w : World) : Nat :=
  match w.cell? ⟨B, 1, none⟩, w.cell? ⟨B, 2, none⟩ with
  | some (.int _ h), some (.int _ l) => (h * 18446744073709551616 + l).toNat
  | _, _ => 0
theorem fromAt_wk {B : Nat} {w : World} {f : Int} {a : Nat} {c d : Int} (h : Wk5 B w f (aH a) (aL a) c d) : fromAt B w = a := by
  unfold fromAt
  rw [h.a1, h.a2]
  unfold aH aL
  simp only
  omega
structure ItRel (f : Int) (W A0 M : Nat) (xs : List (Nat × Nat)) (J : List (Nat × Nat) → World → Prop) (own : Nat) (wr : World) : Prop where
  ex : ∃ (pre : List (Nat × Nat)) (a : Nat) (rest : List (Nat × Nat)) (V0 : World), xs = pre ++ rest ∧ A0 ≤ a ∧ a ≤ M ∧ Spn.Steps W a (M + 1 - a) rest ∧ J pre V0 ∧ Stp own V0 wr ∧ Wk5 own wr f (aH a) (aL a) (aH M) (aL M)
set_option maxRecDepth 100000 in
set_option maxHeartbeats 4000000 in
theorem iter_in {f : Int} {W : Nat} (hf : Fam f W) (l Bw : Nat) (A0 M : Nat) (hAM : A0 ≤ M) (hM : M < 2 ^ W) (xs : List (Nat × Nat)) (hxs : Spn.Steps W A0 (M + 1 - A0) xs) (J : List (Nat × Nat) → World → Prop) (W1 : World) (hw : Wk5 Bw W1 f (aH A0) (aL A0) (aH M) (aL M)) (hJ0 : J [] W1)
    (hY : ∀ pre a k V0 V, pre.length < xs.length → J pre V0 → Stp W1.heap.size V0 V → W1.heap.size < V.heap.size → YieldAt Fence.wide 2 Tryz.prog l #[.agg #[.int .u8 f, .int .u64 (aH a), .int .u64 (aL a), .int .i64 ((W - k : Nat) : Int)]] V fun e V' =>
      e = .returned (.bool true) ∧ J (pre ++ [(a, k)]) V' ∧ Kps W1.heap.size V0 V V') :
    CallsIn Fence.wide 3 Tryz.prog 80 #[.func (.yield l) #[] #[], .pointer (some ⟨Bw, 0, none⟩)] W1 fun e V => (∃ v, e = .returned v) ∧ ∃ V0, J xs V0 ∧ Stp W1.heap.size V0 V := by
  obtain ⟨q1, q2, q3, q4⟩ := hf.wid
  have HF := Lib.hid hf
  have HM := Lib.hid hM
  have HAM := Lib.hid hAM
  have HX := Lib.hid hxs
  have HY := Lib.hid hY
  have HJ := Lib.hid hJ0
  obtain ⟨a0, a1, a2, a3, a4, _⟩ := hw
  clear hf hM hAM hxs hY hJ0 q1 q2
  refine callsIn_of_wp Tryz.func80 rfl trivial ?_ rfl
  simp only [Tryz.ntmps80, List.size_toArray, List.length_cons, List.length_nil, Nat.reduceAdd, Nat.reduceSub, Array.replicate_succ, Array.replicate_zero, List.push_toArray, List.append_toArray, List.nil_append, List.cons_append]
  gi_wp2
  gi_loopw [4] (fun p wr => ItRel f W A0 M xs J W1.heap.size wr) (fun _ wr => M + 1 - fromAt W1.heap.size wr)
  case atStart =>
    refine ⟨⟨[], A0, xs, W1, rfl, Nat.le_refl _, HAM.out, HX.out, HJ.out, (Stp.refl (Nat.le_refl _)).below (below_new _ _), Wk5.new W1 _ _ _ _ _ _⟩⟩
  case round =>
    obtain ⟨pre, a, rest, V0, hpre, hA, haM, hst, hj, hstp, hwk⟩ := hrel
    have HPRE := Lib.hid hpre
    have HA := Lib.hid hA
    have HST := Lib.hid hst
    have HJ1 := Lib.hid hj
    have HSTP := Lib.hid hstp
    have HWK := Lib.hid hwk
    have HFA := Lib.hid (fromAt_wk hwk)
    obtain ⟨k, hk⟩ : ∃ k, gre W a (M + 1 - a) = k := ⟨_, rfl⟩
    have HG := Lib.hid (fun w => gre_any HF.out a M haM HM.out w)
    rw [hk] at HG
    have HK := Lib.hid hk
    obtain ⟨b0, b1, b2, b3, b4, _⟩ := hwk
    clear hpre hst hj hstp hk
    have hn1 : 1 ≤ M + 1 - a := by omega
    have hfit := gre_fits W a (M + 1 - a) hn1
    rw [HK.out] at hfit
    have hkW : k ≤ W := by rw [← HK.out]; exact gre_le _ _ _
    obtain ⟨rest', hrest, hst'⟩ := HST.out.inv hn1
    rw [HK.out] at hrest hst'
    have HREST := Lib.hid hrest
    have HST' := Lib.hid hst'
    have HL := Lib.hid (fun w => lastN_any HF.out a (W - k) (by have := HM.out; omega) (by omega) (by rw [show W - (W - k) = k by omega]; exact hfit.1) w)
    rw [show W - (W - k) = k by omega] at HL
    obtain ⟨E, hE⟩ : ∃ E, a + 2 ^ k - 1 = E := ⟨_, rfl⟩
    rw [hE] at HL
    have HE := Lib.hid hE
    have HFIT := Lib.hid hfit
    clear hrest hst' hE hfit
    gi_wp2_with fail
    refine ⟨trivial, (callsIn_wide.2 (HG.out _)).mono ?_⟩
    rintro e v1 ⟨rfl, hb1⟩
    have HSTP1 := Lib.hid (HSTP.out.below hb1)
    have HWK1 := Lib.hid (HWK.out.on hb1)
    clear hb1 b0 b1 b2 b3 b4 HSTP HWK
    gi_wp2_with fail
    obtain ⟨P, hP⟩ : ∃ P, v1.heap.size = P := ⟨_, rfl⟩
    generalize hv : World.alloc _ _ = v2
    have HP2 : RowKit.Hid (Pf4 P v2 f (aH a) (aL a) ((W - k : Nat) : Int)) := Lib.hid (by rw [← hv, ← hP]; exact Pf4.new v1 _ _ _ _ _)
    have HSTP2 := Lib.hid (show Stp W1.heap.size V0 v2 by rw [← hv]; exact HSTP1.out.below (below_new _ _))
    have HWK2 := Lib.hid (show Wk5 W1.heap.size v2 f (aH a) (aL a) (aH M) (aL M) by rw [← hv]; exact HWK1.out.on (below_new _ _))
    have hP0 : V0.heap.size ≤ P := by rw [← hP]; exact HSTP1.out.size
    clear hv HSTP1 HWK1
    try rw [hP]
    clear hP
    refine ⟨trivial, (callsIn_wide.2 (HL.out _)).mono ?_⟩
    rintro e v3 ⟨rfl, hb3⟩
    have HP3 := Lib.hid (HP2.out.on hb3)
    have HSTP3 := Lib.hid (HSTP2.out.below hb3)
    have HWK3 := Lib.hid (HWK2.out.on hb3)
    clear hb3 HP2 HSTP2 HWK2
    have hYY := HY.out pre a k V0 (v3.alloc (.cells #[.int .u64 (aH E), .int .u64 (aL E)] 24)) (by rw [HPRE.out, HREST.out]; simp) HJ1.out (HSTP3.out.below (below_new _ _)) (by have := HWK3.out.lt; simp; omega)
    obtain ⟨fn, tmps, assign, body, hy, hR⟩ := hYY
    obtain ⟨v4, hv4⟩ : ∃ v4 : World, v3.alloc (.cells #[.int .u64 (aH E), .int .u64 (aL E)] 24) = v4 := ⟨_, rfl⟩
    have HP4 := Lib.hid (show Pf4 P v4 f (aH a) (aL a) ((W - k : Nat) : Int) by rw [← hv4]; exact HP3.out.on (below_new _ _))
    obtain ⟨p0, p1, p2, p3, _, _, _, _⟩ := HP4.out
    have HRR := Lib.hid hR
    clear hR
    rw [hv4] at hy HRR
    gi_wp2_with fail
    have HD4 := Lib.hid (show Ad2 v3.heap.size v4 (aH E) (aL E) by rw [← hv4]; exact Ad2.new v3 _ _ _)
    have HWK4 := Lib.hid (show Wk5 W1.heap.size v4 f (aH a) (aL a) (aH M) (aL M) by rw [← hv4]; exact HWK3.out.on (below_new _ _))
    have hD0 : V0.heap.size ≤ v3.heap.size := HSTP3.out.size
    have HD0 := Lib.hid hD0
    clear hy p0 p1 p2 p3 HP4 HWK3 HSTP3 HP3 hv4 hD0
    refine HRR.out.mono ?_
    rintro e V ⟨rfl, hJ', hK⟩
    have HJ2 := Lib.hid hJ'
    have HWK5 := Lib.hid (HWK4.out.same (hK.same _ (Or.inl rfl) HWK4.out.lt))
    have hDD := hK.same v3.heap.size (Or.inr HD0.out) HD4.out.lt
    have d0 := (cell_of_heap hDD 0).trans HD4.out.a0
    have d1 := (cell_of_heap hDD 1).trans HD4.out.a1
    clear hDD hK hJ' HRR HD4 HWK4 HD0
    obtain ⟨b0, b1, b2, b3, b4, fz⟩ := HWK5.out
    have g1 := fz 1
    have g2 := fz 2
    have FZ := Lib.hid fz
    clear fz
    by_cases hEM : E = M
    · subst hEM
      have hr : rest' = [] := by
        have h1 := HST'.out
        have h2 := HE.out
        have hp := Nat.two_pow_pos k
        rw [show E + 1 - a - 2 ^ k = 0 by omega] at h1
        exact h1.inv0
      have HR0 := Lib.hid hr
      clear hr
      gi_wp2_with fail
      refine bodyPost_ret (results_none rfl _ _ _) rfl ?_
      refine ⟨⟨_, rfl⟩, V, ?_, Stp.refl (Nat.le_of_lt HWK5.out.lt)⟩
      rw [HPRE.out, HREST.out, HR0.out]
      exact HJ2.out
    · have hlt : E < M := by
        have h2 := HE.out
        have h3 := HFIT.out.2
        omega
      have hno : nextOk f E = true := by
        have hM := HM.out
        have h128 := HF.out.lt (show E + 1 < 2 ^ W by omega)
        unfold nextOk
        rw [HF.out.isA E (by omega), HF.out.isA (E + 1) (by omega)]
        simpa using h128
      have HNX := Lib.hid (fun w => next_yes f E w hno)
      have hE1 : E + 1 = a + 2 ^ k := by
        have h2 := HE.out
        have hp := Nat.two_pow_pos k
        omega
      have hst2 : Spn.Steps W (E + 1) (M + 1 - (E + 1)) rest' := by
        have h1 := HST'.out
        rw [show M + 1 - a - 2 ^ k = M + 1 - (E + 1) by omega, ← hE1] at h1
        exact h1
      have HS2 := Lib.hid hst2
      have HLT := Lib.hid hlt
      have HE1 := Lib.hid hE1
      clear hno hE1 hst2 hlt
      have fin : ∀ (V5 : World), Below V.heap.size V V5 → ItRel f W A0 M xs J W1.heap.size ((V5.setCell ⟨W1.heap.size, 1, none⟩ (.int .u64 (aH (E + 1)))).setCell ⟨W1.heap.size, 2, none⟩ (.int .u64 (aL (E + 1)))) ∧ fromAt W1.heap.size ((V5.setCell ⟨W1.heap.size, 1, none⟩ (.int .u64 (aH (E + 1)))).setCell ⟨W1.heap.size, 2, none⟩ (.int .u64 (aL (E + 1)))) = E + 1 := fun V5 hb => by
        have hw5 : Wk5 W1.heap.size ((V5.setCell ⟨W1.heap.size, 1, none⟩ (.int .u64 (aH (E + 1)))).setCell ⟨W1.heap.size, 2, none⟩ (.int .u64 (aL (E + 1)))) f (aH (E + 1)) (aL (E + 1)) (aH M) (aL M) := by
          obtain ⟨t0, t1, t2, t3, t4, tz⟩ := HWK5.out.on hb
          exact ⟨cset_far (cset_far t0 (by simp)) (by simp), cset_far (cset_same t1) (by simp), cset_same (cset_far t2 (by simp)), cset_far (cset_far t3 (by simp)) (by simp), cset_far (cset_far t4 (by simp)) (by simp), fun j => by simpa using tz j⟩
        refine ⟨⟨pre ++ [(a, k)], E + 1, rest', V, ?_, ?_, ?_, HS2.out, HJ2.out, ?_, hw5⟩, fromAt_wk hw5⟩
        · rw [HPRE.out, HREST.out]; simp
        · have h1 := HE1.out
          have h2 := HA.out
          have hp := Nat.two_pow_pos k
          omega
        · have := HLT.out; omega
        · have h1 : Stp W1.heap.size V V5 := (Stp.refl (Nat.le_of_lt HWK5.out.lt)).below hb
          refine ⟨by simpa using h1.size, fun b hb1 hb2 => ?_, h1.ow, (h1.bl.setCell (Nat.le_refl _) _).setCell (Nat.le_refl _) _⟩
          rw [Below.heap_setCell _ _ _ _ hb2, Below.heap_setCell _ _ _ _ hb2]
          exact h1.same b hb1 hb2
      have FIN := Lib.hid fin
      clear fin
      obtain ⟨F, hF⟩ : ∃ F, E + 1 = F := ⟨_, rfl⟩
      rw [hF] at HNX FIN
      have HF1 := Lib.hid hF
      clear hF
      have hmeas : M + 1 - F < M + 1 - a := by
        have h1 := HF1.out
        have h2 := HE.out
        have h3 := HLT.out
        have hp := Nat.two_pow_pos k
        omega
      have HMS := Lib.hid hmeas
      have hfa : fromAt W1.heap.size wr = a := HFA.out
      have HFA2 := Lib.hid hfa
      clear hmeas hfa
      by_cases hh : aH E = aH M
      all_goals
        try have hl : ¬ aL E = aL M := fun e => hEM (a_inj hh e)
        try rw [hh] at HNX
        gi_wp2_with fail
        refine ⟨trivial, (callsIn_wide.2 (HNX.out _)).mono ?_⟩
        rintro e V5 ⟨rfl, hb5⟩
        have HQ := Lib.hid (FIN.out V5 hb5)
        obtain ⟨t0, t1, t2, t3, t4, tz⟩ := HWK5.out.on hb5
        have g1' := tz 1
        have g2' := tz 2
        clear tz hb5
        gi_wp2_with fail
        refine ⟨?_, ?_⟩
        · exact HQ.out.1
        · rw [HQ.out.2, HFA2.out]
          exact HMS.out
end Go.Proofs.YtjngfieggacpiaaGreatDoor
