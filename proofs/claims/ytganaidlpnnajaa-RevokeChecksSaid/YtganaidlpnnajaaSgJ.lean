/-
  REVOKED of the reference, GREAT. Written by wip/gen-sgj.py.
-/
import Derived.Test.YtganaidlpnnajaaSgI
namespace Go.Proofs.Ytganaidlpnnajaa
namespace Sg
open Go.RowKit Sha
set_option linter.unusedVariables false
set_option linter.unusedSimpArgs false
set_option maxRecDepth 100000 in
set_option maxHeartbeats 4000000 in
theorem revoked_ref (l : Rl) (p : Mp) (t : Int) (hz : l.iss.size ≤ maxLen) (w : World) (h1 : RlAt l p w) :
    Calls Try.prog 9 #[.agg (rlC l p), .int .u64 t] w fun e w' => e = .returned (.tuple #[.bool (rvB l t), .int .i64 (rvC l)]) ∧ Below w.heap.size w w' := by
  have hB : rvB l t = (decide (rvC l = 0) && decide (t ∈ l.ser)) := rfl
  have hC0 := fun (V : World) (hb : Below w.heap.size w V) => revcheck_ref l.iss l.num l.fr l.tt p.SA l.ser p.sc l.sg.idx p.CA p.PA l.sg.cs.length p.cc l.sg.ps.length p.pc hz V (h1.ser.on hb)
  have hC : ∀ V, Below w.heap.size w V → Calls Try.prog 12 #[.agg (rlC l p)] V fun e w' => e = .returned (.int .i64 (rvC l)) ∧ Below V.heap.size V w' := hC0
  obtain ⟨c, hc⟩ : ∃ c, rvC l = c := ⟨_, rfl⟩
  obtain ⟨R, hR⟩ : ∃ R, rvB l t = R := ⟨_, rfl⟩
  rw [hc] at hB hC
  rw [hR] at hB
  rw [hc, hR]
  clear hc hR hC0
  obtain ⟨iss, num, fr, tt, xs, n, cs, ps⟩ := l
  obtain ⟨SA, sc, CA, cc, PA, pc⟩ := p
  have j1 := h1.ls
  have js := h1.ser
  unfold rlC at hC ⊢
  simp only at hB hC j1 js ⊢
  obtain ⟨nx, hn⟩ : ∃ nx, xs.length = nx := ⟨_, rfl⟩
  have HN := Lib.hid hn
  rw [hn] at hC j1
  rw [hn]
  have HC := Lib.hid hC
  have HS := Lib.hid js
  have HB0 := Lib.hid (below_new w (.cells #[.string iss, .int .u64 num, .int .i64 fr, .int .i64 tt, .slice SA nx sc, .int .i64 n, .slice CA cs.length cc, .slice PA ps.length pc] 30))
  have HR0 := Lib.hid (heap_alloc_new w (.cells #[.string iss, .int .u64 num, .int .i64 fr, .int .i64 tt, .slice SA nx sc, .int .i64 n, .slice CA cs.length cc, .slice PA ps.length pc] 30))
  have HBB := Lib.hid hB
  clear h1 hC hB hz hn js
  go_enter Try.func9, Try.ntmps9
  go_wp2_with fail
  refine (HC.out _ HB0.out).mono ?_
  rintro e w2 ⟨rfl, hb⟩
  have HB2 := Lib.hid (chain HB0.out hb)
  have HR2 := Lib.hid (row_on HR0.out hb)
  clear hb
  by_cases hcz : c = 0
  · subst hcz
    have HRR : RowKit.Hid (R = decide (t ∈ xs)) := Lib.hid (by rw [HBB.out]; rfl)
    go_wp2_with fail
    go_loopw [7] (fun i wr => ∃ k : Nat, k ≤ nx ∧ i = .int .i64 (k : Int) ∧ RowKit.Hid (wr = w2) ∧ RowKit.Hid (∀ (q : Nat) y, q < k → xs[q]? = some y → y ≠ t)) (fun i _ => nx - (intOf i).toNat)
    case atStart => exact ⟨0, Nat.zero_le _, rfl, Lib.hid rfl, Lib.hid (fun q y h => by omega)⟩
    case round =>
      obtain ⟨k, hk, rfl, HW, HQ⟩ := hrel
      obtain ⟨V, hV⟩ : ∃ V, V = wr := ⟨_, rfl⟩
      subst hV
      have HBV := Lib.hid (show Below w.heap.size w V by rw [HW.out]; exact HB2.out)
      have HRV := Lib.hid (show V.heap[w.heap.size]? = some (.cells #[.string iss, .int .u64 num, .int .i64 fr, .int .i64 tt, .slice SA nx sc, .int .i64 n, .slice CA cs.length cc, .slice PA ps.length pc] 30 (0, 0)) by rw [HW.out]; exact HR2.out)
      obtain ⟨v0, a0, a1, a2, a3, a4, a5, a6, a7⟩ := facts8 HRV.out
      by_cases hlt : k < nx
      · obtain ⟨x, hx⟩ : ∃ x, xs[k]? = some x := ⟨_, List.getElem?_eq_getElem (by rw [HN.out]; exact hlt)⟩
        obtain ⟨g1, o1, rfl, r1⟩ := HS.out.row _ x hx
        obtain ⟨_, _, e1, ca⟩ := (Nums.on ⟨fun i x h => HS.out.row i x h⟩ HBV.out).row _ x hx
        obtain ⟨rfl, rfl, _⟩ := Addr.mk.inj (Option.some.inj e1)
        have hki : (k : Int) < (nx : Int) := by omega
        have HX := Lib.hid hx
        clear r1 e1 hx
        by_cases hxt : x = t
        · have i1 : (x == t) = true := by rw [beq_iff_eq]; exact hxt
          have HRT : RowKit.Hid (R = true) := Lib.hid (by rw [HRR.out, decide_eq_true_eq, ← hxt]; exact List.mem_of_getElem? HX.out)
          clear hxt
          go_wp2_with fail
          refine bodyPost_ret (v := .tuple #[.bool true, .int .i64 0]) (by simp [results, Try.results9, go_sem]) rfl ⟨by rw [HRT.out], HBV.out⟩
        · have i1 : (x == t) = false := by rw [beq_eq_false_iff_ne]; exact hxt
          have HQ2 : RowKit.Hid (∀ (q : Nat) y, q < k + 1 → xs[q]? = some y → y ≠ t) := Lib.hid (fun q y hq hy => by
            by_cases e : q = k
            · subst e
              rw [HX.out] at hy
              rw [← Option.some.inj hy]
              exact hxt
            · exact HQ.out q y (by omega) hy)
          clear hxt
          go_wp2_with fail
          exact ⟨⟨k + 1, by omega, by go_num, HW, HQ2⟩, by simp [intOf]; omega⟩
      · have hki : ¬ (k : Int) < (nx : Int) := by omega
        have HRF : RowKit.Hid (R = false) := Lib.hid (by
          rw [HRR.out, decide_eq_false_iff_not]
          intro hm
          obtain ⟨q, hq⟩ := List.mem_iff_getElem?.1 hm
          have h1 := (List.getElem?_eq_some_iff.1 hq).1
          have h2 := HN.out
          exact HQ.out q t (by omega) hq rfl)
        go_wp2_with fail
        refine bodyPost_ret (v := .tuple #[.bool false, .int .i64 0]) (by simp [results, Try.results9, go_sem]) rfl ⟨by rw [HRF.out], HBV.out⟩
  · have hcn : (c != 0) = true := by rw [bne_iff_ne]; exact hcz
    have hce : (c == 0) = false := by rw [beq_eq_false_iff_ne]; exact hcz
    have HRR : RowKit.Hid (R = false) := Lib.hid (by rw [HBB.out, decide_eq_false hcz]; rfl)
    go_wp2_with fail
    refine bodyPost_ret (v := .tuple #[.bool false, .int .i64 c]) (by simp [results, Try.results9, go_sem]) rfl ⟨by rw [HRR.out], HB2.out⟩
def grB (l : Rl) : Bool := decide (500 < l.iss.size ∨ 520 < l.ser.length ∨ 60 < l.sg.cs.length ∨ 60 < l.sg.ps.length)
theorem greatsig_any (n : Int) (CA PA : Option Addr) (cl cc pl pc : Nat) (w : World) :
    Calls Try.prog 22 #[.agg #[.int .i64 n, .slice CA cl cc, .slice PA pl pc]] w fun e w' => e = .returned (.bool (decide (60 < cl ∨ 60 < pl))) ∧ Below w.heap.size w w' := by
  have HB0 := Lib.hid (below_new w (.cells #[.int .i64 n, .slice CA cl cc, .slice PA pl pc] 28))
  by_cases h1 : 60 < cl
  · have i1 : (60 : Int) < (cl : Int) := by omega
    rw [decide_eq_true (show 60 < cl ∨ 60 < pl from .inl h1)]
    go_enter Try.func22, Try.ntmps22
    go_wp2_with fail
    go_ret
    exact ⟨rfl, HB0.out⟩
  · have i1 : ¬ (60 : Int) < (cl : Int) := by omega
    by_cases h2 : 60 < pl
    · have i2 : (60 : Int) < (pl : Int) := by omega
      rw [decide_eq_true (show 60 < cl ∨ 60 < pl from .inr h2)]
      go_enter Try.func22, Try.ntmps22
      go_wp2_with fail
      go_ret
      exact ⟨rfl, HB0.out⟩
    · have i2 : ¬ (60 : Int) < (pl : Int) := by omega
      rw [decide_eq_false (show ¬ (60 < cl ∨ 60 < pl) by omega)]
      go_enter Try.func22, Try.ntmps22
      go_wp2_with fail
      go_ret
      exact ⟨rfl, HB0.out⟩
theorem great_any (l : Rl) (p : Mp) (w : World) :
    Calls Try.prog 6 #[.agg (rlC l p)] w fun e w' => e = .returned (.bool (grB l)) ∧ Below w.heap.size w w' := by
  obtain ⟨iss, num, fr, tt, xs, n, cs, ps⟩ := l
  obtain ⟨SA, sc, CA, cc, PA, pc⟩ := p
  unfold rlC grB
  simp only
  have HB0 := Lib.hid (below_new w (.cells #[.string iss, .int .u64 num, .int .i64 fr, .int .i64 tt, .slice SA xs.length sc, .int .i64 n, .slice CA cs.length cc, .slice PA ps.length pc] 30))
  have HR0 := Lib.hid (heap_alloc_new w (.cells #[.string iss, .int .u64 num, .int .i64 fr, .int .i64 tt, .slice SA xs.length sc, .int .i64 n, .slice CA cs.length cc, .slice PA ps.length pc] 30))
  have HG := Lib.hid (fun (V : World) => greatsig_any n CA PA cs.length cc ps.length pc V)
  obtain ⟨R, hR⟩ : ∃ R, decide (500 < iss.size ∨ 520 < xs.length ∨ 60 < cs.length ∨ 60 < ps.length) = R := ⟨_, rfl⟩
  rw [hR]
  by_cases h1 : 500 < iss.size
  · have i1 : (500 : Int) < (iss.size : Int) := by omega
    have HRT : RowKit.Hid (R = true) := Lib.hid (by rw [← hR]; exact decide_eq_true (.inl h1))
    clear hR h1
    go_enter Try.func6, Try.ntmps6
    go_wp2_with fail
    go_ret
    exact ⟨by rw [HRT.out]; rfl, HB0.out⟩
  · have i1 : ¬ (500 : Int) < (iss.size : Int) := by omega
    by_cases h2 : 520 < xs.length
    · have i2 : (520 : Int) < (xs.length : Int) := by omega
      have HRT : RowKit.Hid (R = true) := Lib.hid (by rw [← hR]; exact decide_eq_true (.inr (.inl h2)))
      clear hR h1 h2
      go_enter Try.func6, Try.ntmps6
      go_wp2_with fail
      go_ret
      exact ⟨by rw [HRT.out]; rfl, HB0.out⟩
    · have i2 : ¬ (520 : Int) < (xs.length : Int) := by omega
      have HRT : RowKit.Hid (R = decide (60 < cs.length ∨ 60 < ps.length)) := Lib.hid (by rw [← hR, decide_eq_decide]; simp only [h1, h2, false_or])
      clear hR h1 h2
      generalize decide (60 < cs.length ∨ 60 < ps.length) = E at HRT HG
      go_enter Try.func6, Try.ntmps6
      go_wp2_with fail
      refine (HG.out _).mono ?_
      rintro e w2 ⟨rfl, hb⟩
      have HB2 := Lib.hid (chain HB0.out hb)
      clear hb
      go_wp2_with fail
      go_ret
      exact ⟨by rw [HRT.out]; rfl, HB2.out⟩
end Sg
end Go.Proofs.Ytganaidlpnnajaa
