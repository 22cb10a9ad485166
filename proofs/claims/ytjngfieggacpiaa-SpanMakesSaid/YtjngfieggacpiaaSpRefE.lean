/-
  THE WALKS over the reference of layer 2: the list of a span; two lists that are the same.
-/
import Derived.Test.YtjngfieggacpiaaSpRefD
namespace Go.Proofs.Ytjngfieggacpiaa
open Go.RowKit Adr Spn
set_option linter.unusedVariables false
set_option linter.unusedSimpArgs false
theorem rpfx_no (f : Int) (A M : Nat) (c : Int) (hc : schk f A M = c) (hc0 : (c != 0) = true) (w : World) :
    Calls Try.prog 7 #[.int .u8 f, .agg #[.int .u64 (aH A), .int .u64 (aL A), .int .u64 (aH M), .int .u64 (aL M)]] w fun e w' => e = .returned (.tuple #[.slice none 0 0, .int .i64 c]) ∧ Below w.heap.size w w' := by
  have HC := Lib.hid (fun w => rschk_any f A M w)
  rw [hc] at HC
  clear hc
  go_enter Try.func7, Try.ntmps7
  go_wp2_with fail
  generalize hv : World.alloc _ _ = v
  have TS : RowKit.Hid (Sp4 w.heap.size v (aH A) (aL A) (aH M) (aL M)) := Lib.hid (by rw [← hv]; exact Sp4.new w _ _ _ _ _)
  have HB := Lib.hid (show Below w.heap.size w v by rw [← hv]; exact below_new _ _)
  clear hv
  refine (HC.out v).mono ?_
  rintro e w1 ⟨rfl, hb1⟩
  have HB1 := Lib.hid (HB.out.trans (hb1.mono HB.out.size))
  have TS1 := Lib.hid (TS.out.on hb1)
  clear hb1 HB TS
  obtain ⟨s0, s1, s2, s3, _⟩ := TS1.out
  go_wp2_with fail
  refine (HC.out w1).mono ?_
  rintro e w2 ⟨rfl, hb2⟩
  have HB2 := Lib.hid (HB1.out.trans (hb2.mono HB1.out.size))
  clear hb2 HB1 TS1 s0 s1 s2 s3
  go_wp2_with fail
  go_ret2
  exact ⟨rfl, HB2.out⟩
theorem rpfx_yes {f : Int} {W : Nat} (hf : Fam f W) (A M : Nat) (hAM : A ≤ M) (hM : M < 2 ^ W) (hs : schk f A M = 0) (w : World) :
    Calls Try.prog 7 #[.int .u8 f, .agg #[.int .u64 (aH A), .int .u64 (aL A), .int .u64 (aH M), .int .u64 (aL M)]] w fun e w' => ∃ v, e = .returned (.tuple #[v, .int .i64 0]) ∧ w'.ownsRow w.heap.size 28 4 v (win A M W 0).length (pcells f W (win A M W 0)) ∧ Below w.heap.size w w' := by
  have HC := Lib.hid (fun w => rschk_any f A M w)
  rw [hs] at HC
  have hW := within_any hf hAM hM W 0 (Nat.le_refl _) (Nat.zero_mod _) (Nat.two_pow_pos _) (Or.inl rfl)
  rw [Nat.sub_self, show aH 0 = 0 from rfl, show aL 0 = 0 from rfl, show ((0 : Nat) : Int) = 0 from rfl] at hW
  obtain ⟨xs, hxs⟩ : ∃ xs, win A M W 0 = xs := ⟨_, rfl⟩
  rw [hxs] at hW ⊢
  have HW := Lib.hid hW
  clear hW hxs hs hf hAM hM
  go_enter Try.func7, Try.ntmps7
  go_wp2_with fail
  generalize hv : World.alloc _ _ = v
  have TS : RowKit.Hid (Sp4 w.heap.size v (aH A) (aL A) (aH M) (aL M)) := Lib.hid (by rw [← hv]; exact Sp4.new w _ _ _ _ _)
  have HB := Lib.hid (show Below w.heap.size w v by rw [← hv]; exact below_new _ _)
  clear hv
  refine (HC.out v).mono ?_
  rintro e w1 ⟨rfl, hb1⟩
  have HB1 := Lib.hid (HB.out.trans (hb1.mono HB.out.size))
  have TS1 := Lib.hid (TS.out.on hb1)
  clear hb1 HB TS
  obtain ⟨s0, s1, s2, s3, _⟩ := TS1.out
  go_wp2_with fail
  refine (HW.out w1).mono ?_
  rintro e w2 ⟨v, rfl, hown, hnil, hb2⟩
  have HB2 := Lib.hid (HB1.out.trans (hb2.mono HB1.out.size))
  have HO := Lib.hid (owns_mono hown HB1.out.size)
  clear hb2 HB1 TS1 s0 s1 s2 s3 hown hnil
  go_wp2_with fail
  go_ret2
  exact ⟨v, rfl, HO.out, HB2.out⟩
theorem own4 {w : World} {base : Nat} {e : TypeId} {v : Value} {n : Nat} {xs : List Value} (h : w.ownsRow base e 4 v n xs) (hn : 0 < n) :
    ∃ g cap, v = .slice (some ⟨g, 0, none⟩) n cap ∧ base ≤ g ∧ g < w.heap.size ∧ n ≤ cap ∧ cap ≤ maxLen ∧ ∀ (j : Nat) x, xs[j]? = some x → w.cell? ⟨g, j, none⟩ = some x := by
  obtain ⟨hl, h | ⟨g, cap, cur, rfl, hb, hg, hnc, hcm, hcs, ht⟩⟩ := h
  · omega
  · have hlt : g < w.heap.size := (Array.getElem?_eq_some_iff.1 hg).1
    refine ⟨g, cap, rfl, hb, hlt, hnc, hcm, fun j x hj => ?_⟩
    have hjn : j < n * 4 := by have := (List.getElem?_eq_some_iff.1 hj).1; omega
    have h1 : cur.toList[j]? = some x := by
      have h2 : (cur.toList.take (n * 4))[j]? = cur.toList[j]? := by rw [List.getElem?_take]; rw [if_pos hjn]
      rw [← h2, ht]
      exact hj
    simp only [World.cell?, hg]
    simpa using h1
/-- two lists with the same elements -/
theorem same_none (w : World) :
    Calls Try.prog 8 #[.slice none 0 0, .slice none 0 0] w fun e w' => e = .returned (.bool true) ∧ Below w.heap.size w w' := by
  go_enter Try.func8, Try.ntmps8
  go_wp2_with fail
  refine wp_loop_rounds 1 ?_
  rw [rounds_succ]
  go_wp2_with fail
  go_ret
  exact ⟨rfl, Below.refl _ _⟩
set_option maxRecDepth 100000 in
set_option maxHeartbeats 4000000 in
theorem same_yes (f : Int) (W n : Nat) (xs : List (Nat × Nat)) (hn : xs.length = n) (h0 : 0 < n) (hl : n ≤ 254) (g cg h ch : Nat) (w : World) (hg : g < w.heap.size) (hh : h < w.heap.size)
    (hcg : n ≤ cg) (hch : n ≤ ch) (hx : ∀ (j : Nat) x, (pcells f W xs)[j]? = some x → w.cell? ⟨g, j, none⟩ = some x) (hy : ∀ (j : Nat) x, (pcells f W xs)[j]? = some x → w.cell? ⟨h, j, none⟩ = some x) :
    Calls Try.prog 8 #[.slice (some ⟨g, 0, none⟩) n cg, .slice (some ⟨h, 0, none⟩) n ch] w fun e w' => e = .returned (.bool true) ∧ Below w.heap.size w w' := by
  have HC := Lib.hid (fun k p (h : xs[k]? = some p) => pcells_at f W xs k p h)
  have HX := Lib.hid hx
  have HY := Lib.hid hy
  have HN := Lib.hid hn
  clear hx hy hn
  go_enter Try.func8, Try.ntmps8
  go_wp2_with fail
  go_loopw [5] (fun i wr => ∃ k : Nat, k ≤ n ∧ i = .int .i64 (k : Int) ∧ Below w.heap.size w wr) (fun i _ => n + 1 - (intOf i).toNat)
  case atStart => exact ⟨0, Nat.zero_le _, rfl, Below.refl _ _⟩
  case round =>
    obtain ⟨k, hk, rfl, hb⟩ := hrel
    by_cases hkn : k < n
    · obtain ⟨p, hp⟩ : ∃ p, xs[k]? = some p := ⟨xs[k]'(by have := HN.out; omega), List.getElem?_eq_getElem _⟩
      obtain ⟨e0, e1, e2, e3⟩ := HC.out k p hp
      have d0 := (hb.cell (p := ⟨g, k * 4, none⟩) hg).trans (HX.out _ _ e0)
      have d1 := (hb.cell (p := ⟨g, k * 4 + 1, none⟩) hg).trans (HX.out _ _ e1)
      have d2 := (hb.cell (p := ⟨g, k * 4 + 2, none⟩) hg).trans (HX.out _ _ e2)
      have d3 := (hb.cell (p := ⟨g, k * 4 + 3, none⟩) hg).trans (HX.out _ _ e3)
      have q0 := (hb.cell (p := ⟨h, k * 4, none⟩) hh).trans (HY.out _ _ e0)
      have q1 := (hb.cell (p := ⟨h, k * 4 + 1, none⟩) hh).trans (HY.out _ _ e1)
      have q2 := (hb.cell (p := ⟨h, k * 4 + 2, none⟩) hh).trans (HY.out _ _ e2)
      have q3 := (hb.cell (p := ⟨h, k * 4 + 3, none⟩) hh).trans (HY.out _ _ e3)
      have hi : (k : Int) < (n : Int) := by omega
      have HB := Lib.hid hb
      clear e0 e1 e2 e3 hp hb
      generalize ((W - p.2 : Nat) : Int) = pn at d3 q3
      generalize aH p.1 = ph at d1 q1
      generalize aL p.1 = pl at d2 q2
      go_wp2_with fail
      go_quiet (fail)
      go_wp2_with fail
      go_roundw
      case rel => exact ⟨k + 1, by omega, by go_num, below_drewN HB.out _⟩
      case measure => simp [intOf]; omega
    · have hk2 : k = n := by omega
      subst hk2
      have HB := Lib.hid hb
      clear hb
      go_wp2_with fail
      go_ret
      exact ⟨rfl, HB.out⟩
end Go.Proofs.Ytjngfieggacpiaa
