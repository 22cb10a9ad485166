/-
  THE WALK over the program's climbAll: short digests in a row.
-/
import Derived.Test.YtgnemclpopjhoaaDoorOneA
namespace Go.Proofs.YtgnemclpopjhoaaDoor
open Go.RowKit Sha Ots
set_option linter.unusedVariables false
set_option linter.unusedSimpArgs false
/-- short digests one after the other in memory -/
structure Shorts (A : Option Addr) (ls : List (List UInt8)) (w : World) : Prop where
  row : ∀ i l, ls[i]? = some l → ∃ g o, A = some ⟨g, o, none⟩ ∧ w.rangeAt g (o + 16 * i) (bvals l)
  len : ∀ l ∈ ls, l.length = 16
theorem rangeAt_below {n g o : Nat} {w V : World} {cs : List Value} (h : w.rangeAt g o cs) (hb : Below n w V) (hg : g < n) : V.rangeAt g o cs := fun j v hv => by
  rw [hb.cell (p := ⟨g, o + j, none⟩) hg]
  exact h j v hv
theorem rangeAt_lt {g o : Nat} {w : World} {cs : List Value} (h : w.rangeAt g o cs) (hne : cs ≠ []) : g < w.heap.size := by
  cases cs with
  | nil => exact absurd rfl hne
  | cons v r => exact World.block_lt_of_cell? _ _ (h 0 v rfl)
theorem rangeAt_on {g o : Nat} {w V : World} {cs : List Value} (h : w.rangeAt g o cs) (hb : Below w.heap.size w V) : V.rangeAt g o cs := fun j v hv => by
  have h1 := h j v hv
  rw [hb.cell (p := ⟨g, o + j, none⟩) (World.block_lt_of_cell? _ _ h1)]
  exact h1
theorem Shorts.on {A : Option Addr} {ls : List (List UInt8)} {w V : World} (h : Shorts A ls w) (hb : Below w.heap.size w V) : Shorts A ls V :=
  ⟨fun i l hi => by obtain ⟨g, o, e, hr⟩ := h.row i l hi; exact ⟨g, o, e, rangeAt_on hr hb⟩, h.len⟩
theorem there_below {n g o k : Nat} {w V : World} (h : w.there g o k) (hb : Below n w V) (hg : g < n) : V.there g o k := fun j hj => by
  obtain ⟨h1, h2⟩ := h j hj
  exact ⟨by rw [hb.cell (p := ⟨g, o + j, none⟩) hg]; exact h1, by rw [hb.frozen (p := ⟨g, o + j, none⟩) hg]; exact h2⟩
theorem there_lt {g o k : Nat} {w : World} (h : w.there g o k) (hk : 0 < k) : g < w.heap.size := by
  obtain ⟨u, hu⟩ := Option.isSome_iff_exists.1 (h 0 hk).1
  exact World.block_lt_of_cell? _ _ hu
theorem there_part {g o k : Nat} {w : World} (h : w.there g o k) (a n : Nat) (hn : a + n ≤ k) : w.there g (o + a) n := fun j hj => by
  have := h (a + j) (by omega)
  rw [← Nat.add_assoc] at this
  exact this
theorem below_setCells {n g : Nat} {u : World} : ∀ (vs : List Value) (o : Nat) (w : World), Below n u w → n ≤ g → Below n u (w.setCells g o vs)
  | [], _, _, h, _ => h
  | v :: r, o, w, h, hg => by
    rw [World.setCells]
    exact below_setCells r (o + 1) _ (h.trans ⟨rfl, rfl, rfl, by simp [World.setCell], fun k hk => Below.heap_setCell _ _ _ _ (by show k ≠ g; omega)⟩) hg
theorem Tryd.info_short : (Tryd.prog.info? 23).map (fun i => (i.zero, i.size, i.bytes)) = some (some (.agg (bcells (List.replicate 16 0))), 16, 16) := by kernel_rfl
theorem own_there {w : World} {b n c g : Nat} {xs : List Value} (h : w.ownsRow b 23 16 (.slice (some ⟨g, 0, none⟩) n c) n xs) : w.there g 0 (n * 16) := by
  obtain ⟨h1, ⟨e, _⟩ | ⟨g', cap, cur, e, hb, hg, hnc, hcm, hcs, ht⟩⟩ := h
  · cases e
  · injection e with e1 e2 e3
    injection e1 with e4
    injection e4 with e5
    subst e5
    intro j hj
    have hlt : j < cur.size := by rw [hcs]; exact Nat.lt_of_lt_of_le hj (Nat.mul_le_mul_right _ hnc)
    rw [Nat.zero_add]
    refine ⟨?_, frozen_of_row _ _ _ _ _ hg⟩
    rw [cell_of_row _ _ _ _ _ _ hg, Array.getElem?_eq_getElem hlt]
    rfl
/-- between two rounds -/
structure CA (w : World) (G : Nat → List UInt8) (k : Nat) (V : World) : Prop where
  bl : Below w.heap.size w V
  th : V.there w.heap.size 0 560
  rg : ∀ i, i < k → V.rangeAt w.heap.size (16 * i) (bvals (G i))
set_option maxRecDepth 100000 in
set_option maxHeartbeats 1000000 in
theorem climbAll_any (k : Nat) (caps : Array Value) (G : Nat → List UInt8) (hG : ∀ i, (G i).length = 16) (w : World) (eg : ∀ args w, (callFunc k args).run Tryd.prog w = .ok (.enter k args) w)
    (Z : List (List UInt8)) (hZ : (List.range 35).map G = Z) (hcall : ∀ i, i < 35 → ∀ V, Below w.heap.size w V → Calls Tryd.prog k (#[.int .i64 (i : Int)] ++ caps) V fun e w' => e = .returned (.agg (bcells (G i))) ∧ Below V.heap.size V w') :
    Calls Tryd.prog 47 #[.func (.func k) #[] caps] w fun e w' => e = .returned (.slice (some ⟨w.heap.size, 0, none⟩) 35 35) ∧ Shorts (some ⟨w.heap.size, 0, none⟩) Z w' ∧ Below w.heap.size w w' := by
  obtain ⟨i0, hi, hz0, hz1, hz2⟩ := info_parts Tryd.info_short
  have HI := Lib.hid hi
  have HC := Lib.hid hcall
  have HG := Lib.hid hG
  have HZ := Lib.hid hZ
  clear hcall hG hi hZ
  go_enter Tryd.func47, Tryd.ntmps47
  go_wp2_with (at_make; go_loud (refine wpList_make_full _ rfl (.const (.int .i64 35)) (.const (.int .i64 35)) 29 rfl w.heap.size 23 i0 (.agg (bcells (List.replicate 16 0))) 16 Tryd.underlying29 HI.out hz0 hz1 .i64 .i64 35 35 35 rfl rfl rfl rfl (by rw [hz2]; decide) (by decide) (Nat.le_refl _) ?_); intro w1 ho1 hb1; go_loud (have HT1 := Lib.hid (own_there ho1)); have HB1 : RowKit.Hid (Below w.heap.size w w1) := Lib.hid ⟨hb1.os, hb1.tape, hb1.output, hb1.size, fun k hk => hb1.block k hk (by simp)⟩; clear ho1 hb1)
  have hc0 : CA w G 0 w1 := ⟨HB1.out, HT1.out, fun i h => by omega⟩
  have HC0 := Lib.hid hc0
  clear hc0 HT1 HB1
  go_loopw [4, 6] (fun _ x wr => ∃ m : Nat, m ≤ 35 ∧ x = .int .i64 (m : Int) ∧ RowKit.Hid (CA w G m wr)) (fun _ x _ => 35 - (intOf x).toNat)
  case atStart => exact ⟨0, by omega, rfl, HC0⟩
  case round =>
    clear HC0
    obtain ⟨m, hm, rfl, HCA⟩ := hrel
    by_cases hlt : m < 35
    · have hmi : (m : Int) < 35 := by omega
      have hcl := HC.out m hlt
      obtain ⟨F, hF⟩ : ∃ F, G m = F := ⟨_, rfl⟩
      have hF16 : F.length = 16 := by rw [← hF]; exact HG.out _
      rw [hF] at hcl
      have HSZ := Lib.hid (sz16 F hF16)
      have HCL := Lib.hid hcl
      have HF := Lib.hid hF
      have HF16 := Lib.hid hF16
      clear hcl hF hF16
      go_wp2_with fail
      refine (HCL.out _ HCA.out.bl).mono ?_
      rintro e w2 ⟨rfl, hb2⟩
      have hlt2 := there_lt HCA.out.th (by decide)
      have hth := there_below HCA.out.th hb2 hlt2
      have HB2 := Lib.hid (HCA.out.bl.trans (hb2.mono HCA.out.bl.size))
      have hrg : ∀ i, i < m → w2.rangeAt w.heap.size (16 * i) (bvals (G i)) := fun i hi => rangeAt_below (HCA.out.rg i hi) hb2 hlt2
      have HRG := Lib.hid hrg
      have htp := there_part hth (16 * m) 16 (by omega)
      rw [Nat.zero_add, Nat.mul_comm] at htp
      have hsz : (bcells F).size = 16 := by rw [bcells_size]; exact HF16.out
      have htp2 : w2.there w.heap.size (m * 16) (bcells F).size := by rw [hsz]; exact htp
      have HTP := Lib.hid htp2
      have HTH := Lib.hid hth
      clear hb2 hlt2 hth hrg htp hsz htp2
      go_wp2_with (refine wpList_store_mid rfl 23 (.tmp 14) (.tmp 13) rfl w.heap.size (m * 16) (bcells F) rfl rfl HTP.out HSZ.out (bcells_one _) ?_)
      refine ⟨⟨m + 1, by omega, by go_num, Lib.hid ⟨below_setCells _ _ _ HB2.out (Nat.le_refl _), World.there_setCells HTH.out _ _ _, fun i hi => ?_⟩⟩, by simp [intOf]; omega⟩
      have hbl : (bcells F).toList.length = 16 := by rw [Array.length_toList, bcells_size]; exact HF16.out
      by_cases e : i = m
      · subst e
        rw [HF.out, Nat.mul_comm 16 i]
        exact World.rangeAt_setCells_same _ _ _ _ HTP.out
      · refine World.rangeAt_setCells_apart (HRG.out i (by omega)) _ _ _ (.inr (.inl ?_))
        rw [bvals_len, HG.out i]
        omega
    · have hmm : m = 35 := by omega
      subst hmm
      have hge : ¬ ((35 : Nat) : Int) < 35 := by omega
      go_wp2_with fail
      go_ret
      refine ⟨rfl, ⟨fun i l hil => ?_, fun l hl => ?_⟩, HCA.out.bl⟩
      · rw [← HZ.out, List.getElem?_map] at hil
        obtain ⟨j, hj, rfl⟩ := Option.map_eq_some_iff.1 hil
        obtain ⟨h1, h2⟩ := List.getElem?_eq_some_iff.1 hj
        simp at h1 h2
        subst h2
        refine ⟨w.heap.size, 0, rfl, ?_⟩
        rw [Nat.zero_add]
        exact HCA.out.rg i h1
      · rw [← HZ.out] at hl
        obtain ⟨j, _, rfl⟩ := List.mem_map.1 hl
        exact HG.out j
end Go.Proofs.YtgnemclpopjhoaaDoor
