/-
  THE WALK over SpanLeast; it is true at every input.
-/
import Derived.Test.YtikhklnjjicfgaaDoorExactWalk
namespace Go.Proofs.YtikhklnjjicfgaaDoor
open Go.RowKit Adr Spn
set_option linter.unusedVariables false
set_option linter.unusedSimpArgs false
variable {fl : Bool}
theorem steps_at {W a n : Nat} {l : List (Nat × Nat)} (h : Spn.Steps W a n l) : ∀ (k : Nat) (p : Nat × Nat), l[k]? = some p → ∃ m, Spn.Steps W p.1 m (l.drop k) ∧ p.1 + m = a + n ∧ 1 ≤ m := by
  induction h with
  | nil a => intro k p hp; simp at hp
  | cons a n l h t ih =>
    intro k p hp
    have hf := gre_fits W a n h
    cases k with
    | zero =>
      have : (a, gre W a n) = p := by simpa using hp
      subst this
      exact ⟨n, .cons a n l h t, rfl, h⟩
    | succ k =>
      obtain ⟨m, h1, h2, h3⟩ := ih k p (by simpa using hp)
      exact ⟨m, h1, by omega, h3⟩
theorem drop_at {l : List (Nat × Nat)} {k : Nat} {p : Nat × Nat} (h : l[k]? = some p) : l.drop k = p :: l.drop (k + 1) := by
  obtain ⟨hk, rfl⟩ := List.getElem?_eq_some_iff.1 h
  exact List.drop_eq_getElem_cons hk
theorem steps_next {W a n : Nat} {l : List (Nat × Nat)} (h : Spn.Steps W a n l) {k : Nat} {p q : Nat × Nat} (hp : l[k]? = some p) (hq : l[k + 1]? = some q) : q.1 = p.1 + 2 ^ p.2 ∧ p.1 + 2 ^ p.2 < a + n := by
  obtain ⟨m, h1, h2, h3⟩ := steps_at h k p hp
  rw [drop_at hp, drop_at hq] at h1
  obtain ⟨e1, e2, e3, e4, e5⟩ := steps_tail h1
  obtain ⟨f1, f2, f3, f4, f5⟩ := steps_tail e5
  exact ⟨f1, by omega⟩
theorem steps_last {W a n : Nat} {l : List (Nat × Nat)} (h : Spn.Steps W a n l) {k : Nat} {p : Nat × Nat} (hp : l[k]? = some p) (hk : l.length = k + 1) : p.1 + 2 ^ p.2 = a + n := by
  obtain ⟨m, h1, h2, h3⟩ := steps_at h k p hp
  rw [drop_at hp, List.drop_of_length_le (by omega)] at h1
  obtain ⟨e1, e2, e3, e4, e5⟩ := steps_tail h1
  have e6 : m - 2 ^ p.2 = 0 := by
    generalize m - 2 ^ p.2 = r at e5
    cases e5 with
    | nil => rfl
  omega
theorem steps_first {W a n : Nat} {l : List (Nat × Nat)} (h : Spn.Steps W a n l) {p : Nat × Nat} (hp : l[0]? = some p) : p.1 = a := by
  have h1 : l = p :: l.drop 1 := by have := drop_at hp; simpa using this
  rw [h1] at h
  exact (steps_tail h).1
/-- two neighbours of one length lie in two halves of no prefix -/
theorem cov_halves {f : Int} {W : Nat} (hf : Fam f W) {a n : Nat} {l : List (Nat × Nat)} (h : Spn.Steps W a n l) {k : Nat} {p q : Nat × Nat} (hq : l[k]? = some q) (hp : l[k + 1]? = some p) (he : p.2 = q.2) (hW : p.2 < W) (hb : Blocks W l) :
    cov f (aH (p.1 / 2 ^ (p.2 + 1) * 2 ^ (p.2 + 1))) (aL (p.1 / 2 ^ (p.2 + 1) * 2 ^ (p.2 + 1))) ((W - (p.2 + 1) : Nat) : Int) f (aH q.1) (aL q.1) ((W - q.2 : Nat) : Int) = false := by
  obtain ⟨w1, w2, w3, w4⟩ := hf.wid
  obtain ⟨e1, e2⟩ := steps_next h hq hp
  obtain ⟨m, h1, h2, h3⟩ := steps_at h k q hq
  rw [drop_at hq, drop_at hp] at h1
  have hn : ¬ q.1 % 2 ^ (q.2 + 1) = 0 := by
    have e3 : (q : Nat × Nat) = (q.1, q.2) := rfl
    have e4 : (p : Nat × Nat) = (p.1, q.2) := by rw [← he]
    rw [e3, e4] at h1
    exact no_halves h1 (by omega)
  obtain ⟨b1, b2, b3⟩ := hb q (List.mem_of_getElem? hq)
  have hne : ¬ q.1 / 2 ^ (p.2 + 1) * 2 ^ (p.2 + 1) = p.1 / 2 ^ (p.2 + 1) * 2 ^ (p.2 + 1) := by
    rw [he]
    intro hh
    have hps : 2 ^ (q.2 + 1) = 2 ^ q.2 * 2 := Nat.pow_succ 2 q.2
    have hpp := Nat.two_pow_pos (q.2 + 1)
    have hp0 := Nat.two_pow_pos q.2
    have hdiv : q.1 / 2 ^ (q.2 + 1) = p.1 / 2 ^ (q.2 + 1) := Nat.eq_of_mul_eq_mul_right hpp hh
    have hmq := Nat.div_add_mod q.1 (2 ^ (q.2 + 1))
    have hmp := Nat.div_add_mod p.1 (2 ^ (q.2 + 1))
    have hlq := Nat.mod_lt q.1 hpp
    have hlp := Nat.mod_lt p.1 hpp
    rw [← hdiv] at hmp
    have hmod : q.1 % 2 ^ (q.2 + 1) < 2 ^ q.2 := by omega
    have hz : q.1 % 2 ^ (q.2 + 1) % 2 ^ q.2 = 0 := by
      rw [Nat.mod_mod_of_dvd _ (Nat.pow_dvd_pow 2 (Nat.le_succ _))]
      exact b3
    rw [Nat.mod_eq_of_lt hmod] at hz
    exact hn hz
  have e : (clrH (aH q.1) (wid f - ((W - (p.2 + 1) : Nat) : Int)) == aH (p.1 / 2 ^ (p.2 + 1) * 2 ^ (p.2 + 1)) && clrL (aL q.1) (wid f - ((W - (p.2 + 1) : Nat) : Int)) == aL (p.1 / 2 ^ (p.2 + 1) * 2 ^ (p.2 + 1))) = false := by
    rw [w1, show ((W : Int) - (W - (p.2 + 1) : Nat)) = ((p.2 + 1 : Nat) : Int) by omega, (clr_a q.1 (p.2 + 1)).1, (clr_a q.1 (p.2 + 1)).2]
    rw [← Bool.not_eq_true]
    simp only [Bool.and_eq_true, beq_iff_eq]
    exact fun hh => hne (a_inj hh.1 hh.2)
  unfold cov
  rw [e, Bool.and_false]
set_option maxRecDepth 100000 in
set_option maxHeartbeats 4000000 in
theorem least_no (f : Int) (A M : Nat) (c : Int) (hc : schk f A M = c) (hc0 : (c != 0) = true) (w : World) (env : Env fl w) :
    Calls Tryd.prog 7 #[.int .u8 f, .agg #[.int .u64 (aH A), .int .u64 (aL A), .int .u64 (aH M), .int .u64 (aL M)]] w fun e w' => e = .returned (.bool true) ∧ Below w.heap.size w w' := by
  have hG := env.big
  have HE := Lib.hid env
  have HP := Lib.hid (fun w => pfx_no f A M c hc hc0 w)
  have HC := Lib.hid (fun w => schk_any f A M w)
  rw [hc] at HC
  clear env hc
  go_enter Tryd.func7, Tryd.ntmps7
  go_wp2_with fail
  generalize hv : World.alloc _ _ = v
  have TS : RowKit.Hid (Sp4 w.heap.size v (aH A) (aL A) (aH M) (aL M)) := Lib.hid (by rw [← hv]; exact Sp4.new w _ _ _ _ _)
  have HB := Lib.hid (show Below w.heap.size w v by rw [← hv]; exact below_new _ _)
  clear hv
  refine (alive2_any v (HE.out.below HB.out hG)).mono ?_
  rintro e w1 ⟨rfl, hb1⟩
  have HB1 := Lib.hid (HB.out.trans (hb1.mono HB.out.size))
  have TS1 := Lib.hid (TS.out.on hb1)
  clear hb1 HB TS HE
  obtain ⟨s0, s1, s2, s3, _⟩ := TS1.out
  go_wp2_with fail
  refine (HP.out w1).mono ?_
  rintro e w2 ⟨rfl, hb2⟩
  have HB2 := Lib.hid (HB1.out.trans (hb2.mono HB1.out.size))
  have TS2 := Lib.hid (TS1.out.on hb2)
  clear hb2 HB1 TS1 s0 s1 s2 s3
  obtain ⟨s0, s1, s2, s3, _⟩ := TS2.out
  go_wp2_with fail
  go_ret
  exact ⟨by simp, HB2.out⟩
theorem ad_set {B : Nat} {w : World} {x y x' y' : Int} (h : Ad2 B w x y) : Ad2 B ((w.setCell ⟨B, 0, none⟩ (.int .u64 x')).setCell ⟨B, 1, none⟩ (.int .u64 y')) x' y' := by
  obtain ⟨a0, a1, f0, f1⟩ := h
  refine ⟨?_, ?_, by simpa using f0, by simpa using f1⟩
  · exact cset_far (cset_same a0) (by simp)
  · exact cset_same (cset_far a1 (by simp))
theorem sp_off {B D : Nat} {w : World} {a b c d : Int} {v0 v1 : Value} (hn : B ≠ D) (h : Sp4 B w a b c d) : Sp4 B ((w.setCell ⟨D, 0, none⟩ v0).setCell ⟨D, 1, none⟩ v1) a b c d := by
  obtain ⟨a0, a1, a2, a3, fz⟩ := h
  have e : ∀ (i j : Nat), (⟨D, i, none⟩ : Addr) ≠ ⟨B, j, none⟩ := fun i j h => hn (by simp only [Addr.mk.injEq] at h; exact h.1.symm)
  exact ⟨cset_far (cset_far a0 (e _ _)) (e _ _), cset_far (cset_far a1 (e _ _)) (e _ _), cset_far (cset_far a2 (e _ _)) (e _ _), cset_far (cset_far a3 (e _ _)) (e _ _), fun j => by simpa using fz j⟩
set_option maxRecDepth 100000 in
set_option maxHeartbeats 20000000 in
theorem least_yes {f : Int} {W : Nat} (hf : Fam f W) (A M : Nat) (hAM : A ≤ M) (hM : M < 2 ^ W) (hs : schk f A M = 0) (w : World) (env : Env fl w) :
    Calls Tryd.prog 7 #[.int .u8 f, .agg #[.int .u64 (aH A), .int .u64 (aL A), .int .u64 (aH M), .int .u64 (aL M)]] w fun e w' => e = .returned (.bool true) ∧ Below w.heap.size w w' := by
  obtain ⟨xs, hxs⟩ := steps_ex W (M + 1 - A) A
  obtain ⟨w1, w2, w3, w4⟩ := hf.wid
  have hlen : xs.length ≤ 254 := by have := len_all W w3 A (M + 1 - A) xs (by omega) hxs; omega
  have hpos : 0 < xs.length := by
    obtain ⟨t, rfl, _⟩ := hxs.inv (by omega)
    simp
  have hbl : Blocks W xs := fun p hp => by
    obtain ⟨h1, h2, h3, h4⟩ := steps_mem hxs p hp
    have := Nat.two_pow_pos p.2
    exact ⟨by omega, h4, h2⟩
  have hG := env.big
  have HE := Lib.hid env
  have HP := Lib.hid (fun w => pfx_yes hf A M hAM hM xs hxs w)
  have HC := Lib.hid (fun w => schk_any f A M w)
  rw [hs] at HC
  have HCe := Lib.hid (fun k p (h : xs[k]? = some p) => pcells_at f W xs k p h)
  have HOf := Lib.hid (fun (k : Nat) (p : Nat × Nat) (h : xs[k]? = some p) (w : World) => by
    obtain ⟨b1, b2, b3⟩ := hbl p (List.mem_of_getElem? h)
    have h1 := of_yes hf p.1 (W - p.2) (by omega) b1 (by rw [show W - (W - p.2) = p.2 by omega]; exact b3) w
    rw [show W - (W - p.2) = p.2 by omega] at h1
    exact h1)
  have HCut := Lib.hid (fun (k : Nat) (p : Nat × Nat) (h : xs[k]? = some p) (hW : p.2 < W) (w : World) => by
    obtain ⟨b1, b2, b3⟩ := hbl p (List.mem_of_getElem? h)
    have h1 := cutN_any hf p.1 (W - (p.2 + 1)) b1 (by omega) w
    rw [show W - (W - (p.2 + 1)) = p.2 + 1 by omega] at h1
    exact h1)
  have HCov := Lib.hid (fun (k : Nat) (p q : Nat × Nat) (hq : xs[k]? = some q) (hp : xs[k + 1]? = some p) (he : p.2 = q.2) (hW : p.2 < W) (w : World) => by
    obtain ⟨b1, b2, b3⟩ := hbl p (List.mem_of_getElem? hp)
    obtain ⟨c1, c2, c3⟩ := hbl q (List.mem_of_getElem? hq)
    have hlt : p.1 / 2 ^ (p.2 + 1) * 2 ^ (p.2 + 1) < 2 ^ W := Nat.lt_of_le_of_lt (Nat.div_mul_le_self _ _) b1
    have h1 := cov_any f (aH (p.1 / 2 ^ (p.2 + 1) * 2 ^ (p.2 + 1))) (aL (p.1 / 2 ^ (p.2 + 1) * 2 ^ (p.2 + 1))) ((W - (p.2 + 1) : Nat) : Int) f (aH q.1) (aL q.1) ((W - q.2 : Nat) : Int) w (aH_u (hf.lt hlt)) (aL_u _) (aH_u (hf.lt c1)) (aL_u _)
    rw [cov_halves hf hxs hq hp he hW hbl] at h1
    exact h1)
  have HNx := Lib.hid (fun (k : Nat) (p q : Nat × Nat) (hp : xs[k]? = some p) (hq : xs[k + 1]? = some q) (w : World) => by
    obtain ⟨e1, e2⟩ := steps_next hxs hp hq
    have hpp := Nat.two_pow_pos p.2
    have h1 := next_yes f (p.1 + 2 ^ p.2 - 1) w (by
      unfold nextOk
      rw [show p.1 + 2 ^ p.2 - 1 + 1 = p.1 + 2 ^ p.2 by omega, hf.isA _ (by omega), hf.isA _ (by omega)]
      have := hf.lt (show p.1 + 2 ^ p.2 < 2 ^ W by omega)
      simp [this])
    rw [show p.1 + 2 ^ p.2 - 1 + 1 = q.1 by omega] at h1
    exact h1)
  have HNl : RowKit.Hid (∃ (x y : Int) (b : Bool), ∀ w, Calls Tryd.prog 24 #[.int .u8 f, .agg #[.int .u64 (aH M), .int .u64 (aL M)]] w fun e w' => e = .returned (.tuple #[.agg #[.int .u64 x, .int .u64 y], .bool b]) ∧ Below w.heap.size w w') := Lib.hid (by
    cases hn : nextOk f M
    · exact ⟨0, 0, false, fun w => next_no f M w (hf.lt hM) hn⟩
    · exact ⟨aH (M + 1), aL (M + 1), true, fun w => next_yes f M w hn⟩)
  have HLast := Lib.hid (fun (k : Nat) (p : Nat × Nat) (hp : xs[k]? = some p) (hk : xs.length = k + 1) => show p.1 + 2 ^ p.2 - 1 = M by
    have := steps_last hxs hp hk
    omega)
  have HFirst := Lib.hid (fun (p : Nat × Nat) (hp : xs[0]? = some p) => steps_first hxs hp)
  have HBl := Lib.hid (fun (k : Nat) (p : Nat × Nat) (h : xs[k]? = some p) => (hbl p (List.mem_of_getElem? h)).2.1)
  have hl0 : ((xs.length : Int) == 0) = false := by rw [beq_eq_false_iff_ne]; omega
  have hl1 : ¬ (254 : Int) < (xs.length : Int) := by omega
  have hW128 : W ≤ 128 := w4
  clear env hs hf hxs hbl hM hAM w1 w2 w3 w4
  go_enter Tryd.func7, Tryd.ntmps7
  go_wp2_with fail
  generalize hv : World.alloc _ _ = v
  have TS : RowKit.Hid (Sp4 w.heap.size v (aH A) (aL A) (aH M) (aL M)) := Lib.hid (by rw [← hv]; exact Sp4.new w _ _ _ _ _)
  have HB := Lib.hid (show Below w.heap.size w v by rw [← hv]; exact below_new _ _)
  clear hv
  refine (alive2_any v (HE.out.below HB.out hG)).mono ?_
  rintro e w1 ⟨rfl, hb1⟩
  have HB1 := Lib.hid (HB.out.trans (hb1.mono HB.out.size))
  have TS1 := Lib.hid (TS.out.on hb1)
  clear hb1 HB TS HE
  obtain ⟨s0, s1, s2, s3, _⟩ := TS1.out
  go_wp2_with fail
  refine (HP.out w1).mono ?_
  rintro e w2 ⟨vv, rfl, hown, hb2⟩
  obtain ⟨g, cap, rfl, hg1, hg2, hg3, hg4⟩ := own_cells hown hpos
  have HB2 := Lib.hid (HB1.out.trans (hb2.mono HB1.out.size))
  have TS2 := Lib.hid (TS1.out.on hb2)
  have HX2 := Lib.hid hg4
  clear hb2 HB1 TS1 s0 s1 s2 s3 hown hg4 HP
  obtain ⟨s0, s1, s2, s3, _⟩ := TS2.out
  go_wp2_with fail
  refine (HC.out w2).mono ?_
  rintro e w3 ⟨rfl, hb3⟩
  have HB3 := Lib.hid (HB2.out.trans (hb3.mono HB2.out.size))
  have TS3 := Lib.hid (TS2.out.on hb3)
  have HX3 := Lib.hid (fun j x hx => (hb3.cell (p := ⟨g, j, none⟩) hg2).trans (HX2.out j x hx))
  have hg3' : g < w3.heap.size := Nat.lt_of_lt_of_le hg2 hb3.size
  clear hb3 HB2 TS2 s0 s1 s2 s3 HX2 hg2 HC
  obtain ⟨s0, s1, s2, s3, _⟩ := TS3.out
  go_wp2_with fail
  have HB4 := Lib.hid (show Below w.heap.size w (w3.alloc (.cells #[.int .u64 (aH A), .int .u64 (aL A)] 27)) from HB3.out.alloc HB3.out.size _)
  have TS4 := Lib.hid (TS3.out.on (below_new w3 (.cells #[.int .u64 (aH A), .int .u64 (aL A)] 27)))
  have TA4 := Lib.hid (Ad2.new w3 (aH A) (aL A) 27)
  have HX4 := Lib.hid (fun j x hx => ((below_new w3 (.cells #[.int .u64 (aH A), .int .u64 (aL A)] 27)).cell (p := ⟨g, j, none⟩) hg3').trans (HX3.out j x hx))
  have hg4' : g < w3.heap.size + 1 := by omega
  have hATg : g ≠ w3.heap.size := by omega
  have hATs : w.heap.size ≠ w3.heap.size := by have := TS3.out.lt; omega
  have hATw : w.heap.size ≤ w3.heap.size := HB3.out.size
  obtain ⟨AT, hAT⟩ : ∃ n, w3.heap.size = n := ⟨_, rfl⟩
  have hz4 : (w3.alloc (.cells #[.int .u64 (aH A), .int .u64 (aL A)] 27)).heap.size = AT + 1 := by rw [← hAT]; simp
  rw [hAT] at TA4 hg4' hATg hATs hATw ⊢
  generalize w3.alloc (.cells #[.int .u64 (aH A), .int .u64 (aL A)] 27) = v4 at HB4 TS4 TA4 HX4 hz4 ⊢
  clear HB3 TS3 HX3 hg3' s0 s1 s2 s3 hAT
  go_loopw [9] (fun i wr => ∃ (k : Nat) (p : Nat × Nat), xs[k]? = some p ∧ i = .int .i64 (k : Int) ∧ Below w.heap.size w wr ∧ Sp4 w.heap.size wr (aH A) (aL A) (aH M) (aL M) ∧ Ad2 AT wr (aH p.1) (aL p.1) ∧ g < wr.heap.size ∧ (∀ (j : Nat) x, (pcells f W xs)[j]? = some x → wr.cell? ⟨g, j, none⟩ = some x)) (fun i _ => xs.length + 1 - (intOf i).toNat)
  case atStart =>
    have h0 : xs[0]? = some xs[0] := List.getElem?_eq_getElem hpos
    refine ⟨0, xs[0], h0, rfl, HB4.out, TS4.out, ?_, by omega, HX4.out⟩
    rw [HFirst.out _ h0]
    exact TA4.out
  case round =>
    obtain ⟨k, p, hp, rfl, hb, hsp, hat, hgz, hcells⟩ := hrel
    have hk : k < xs.length := (List.getElem?_eq_some_iff.1 hp).1
    have HB0 := Lib.hid hb
    have TS0 := Lib.hid hsp
    have TA0 := Lib.hid hat
    have HX0 := Lib.hid hcells
    clear hb hsp hat hcells HB4 TS4 TA4 HX4
    have hi : (k : Int) < (xs.length : Int) := by omega
    obtain ⟨e0, e1, e2, e3⟩ := HCe.out k p hp
    have d0 := HX0.out _ _ e0
    have d1 := HX0.out _ _ e1
    have d2 := HX0.out _ _ e2
    have d3 := HX0.out _ _ e3
    have K1 := Lib.hid (HOf.out k p hp)
    clear e0 e1 e2 e3
    go_wp2_with fail
    refine (K1.out wr).mono ?_
    rintro e w5 ⟨rfl, hb5⟩
    have HB5 := Lib.hid (HB0.out.trans (hb5.mono HB0.out.size))
    have TS5 := Lib.hid (TS0.out.on hb5)
    have TA5 := Lib.hid (TA0.out.on hb5)
    have HX5 := Lib.hid (fun j x hx => (hb5.cell (p := ⟨g, j, none⟩) hgz).trans (HX0.out j x hx))
    have hg5 : g < w5.heap.size := Nat.lt_of_lt_of_le hgz hb5.size
    clear hb5 HB0 TS0 TA0 HX0 d0 d1 d2 d3 hgz K1
    go_upto_region 12 with fail
    obtain ⟨X, hX⟩ : ∃ n, w5.heap.size = n := ⟨_, rfl⟩
    generalize hv : World.alloc _ _ = v6
    have TX6 : RowKit.Hid (Sp4 X v6 (aH p.1) (aL p.1) (aH (p.1 + 2 ^ p.2 - 1)) (aL (p.1 + 2 ^ p.2 - 1))) := Lib.hid (by rw [← hv, ← hX]; exact Sp4.new w5 _ _ _ _ _)
    have TS6 : RowKit.Hid (Sp4 w.heap.size v6 (aH A) (aL A) (aH M) (aL M)) := Lib.hid (by rw [← hv]; exact TS5.out.on (below_new _ _))
    have TA6 : RowKit.Hid (Ad2 AT v6 (aH p.1) (aL p.1)) := Lib.hid (by rw [← hv]; exact TA5.out.on (below_new _ _))
    have HB6 := Lib.hid (show Below w.heap.size w v6 by rw [← hv]; exact HB5.out.alloc HB5.out.size _)
    have hB56 : Below w5.heap.size w5 v6 := by rw [← hv]; exact below_new _ _
    have HX6 := Lib.hid (fun j x hx => (hB56.cell (p := ⟨g, j, none⟩) hg5).trans (HX5.out j x hx))
    have hg6 : g < v6.heap.size := Nat.lt_of_lt_of_le hg5 hB56.size
    clear hv HB5 TS5 TA5 HX5 hB56 hg5
    try rw [hX]
    clear hX
    obtain ⟨e0, e1, e2, e3⟩ := HCe.out k p hp
    have d0 := HX6.out _ _ e0
    have d1 := HX6.out _ _ e1
    have d2 := HX6.out _ _ e2
    have d3 := HX6.out _ _ e3
    clear e0 e1 e2 e3
    obtain ⟨x0, x1, x2, x3, _⟩ := TX6.out
    obtain ⟨a0, a1, _, _⟩ := TA6.out
    go_wp2_with fail
    clear x0 x1 x2 x3 a0 a1
    have hpW := HBl.out k p hp
    obtain ⟨np, hnp0⟩ : ∃ n : Int, ((W - p.2 : Nat) : Int) = n := ⟨_, rfl⟩
    rw [hnp0] at d3
    have HN0 := Lib.hid hnp0
    clear hnp0
    by_cases hk0 : k = 0
    · have hd : decide ((0 : Int) < (k : Int)) = false := decide_eq_false (by omega)
      go_quiet (fail)
      generalize hv : World.drewN v6 _ = v7
      have hB67 : Below v6.heap.size v6 v7 := by rw [← hv]; exact below_drewN (Below.refl _ _) _
      have HB7 := Lib.hid (HB6.out.trans (hB67.mono HB6.out.size))
      have TX7 := Lib.hid (TX6.out.on hB67)
      have TS7 := Lib.hid (TS6.out.on hB67)
      have TA7 := Lib.hid (TA6.out.on hB67)
      have HX7 := Lib.hid (fun j x hx => (hB67.cell (p := ⟨g, j, none⟩) hg6).trans (HX6.out j x hx))
      have hg7 : g < v7.heap.size := Nat.lt_of_lt_of_le hg6 hB67.size
      clear hv hB67 HB6 TX6 TS6 TA6 HX6 hg6
      clear d0 d1 d2 d3 hd
      obtain ⟨x0, x1, x2, x3, _⟩ := TX7.out
      by_cases hlast : xs.length = k + 1
      · have hE := HLast.out _ p hp hlast
        obtain ⟨nx, ny, nb, hN⟩ := HNl.out
        have HN := Lib.hid hN
        rw [hE] at x2 x3
        have e9 : IntKind.i64.wrap ((xs.length : Int) - 1) = ((k : Nat) : Int) := by rw [show (xs.length : Int) - 1 = ((k : Nat) : Int) by omega]; exact IntWalk.i64_in _ (by omega)
        have zx := TX7.out.lt
        clear hN hE
        go_wp2_with fail
        refine (HN.out v7).mono ?_
        rintro e w8 ⟨rfl, hb8⟩
        have HB8 := Lib.hid (HB7.out.trans (hb8.mono HB7.out.size))
        have y2 := (hb8.cell (p := ⟨X, 2, none⟩) zx).trans x2
        have y3 := (hb8.cell (p := ⟨X, 3, none⟩) zx).trans x3
        have TS8 := Lib.hid (TS7.out.on hb8)
        clear hb8 HB7 x0 x1 x2 x3 TX7 TA7 HX7 TS7
        obtain ⟨s0, s1, s2, s3, _⟩ := TS8.out
        have zs := TS8.out.lt
        have zy := World.block_lt_of_cell? _ _ y2
        go_wp2_with fail
        go_ret
        exact ⟨by simp, HB8.out.alloc HB8.out.size _⟩
      · obtain ⟨q', hq'⟩ : ∃ q', xs[k + 1]? = some q' := ⟨xs[k + 1], List.getElem?_eq_getElem (by omega)⟩
        have HN := Lib.hid (HNx.out _ p q' hp hq')
        have e9 : IntKind.i64.wrap ((xs.length : Int) - 1) = (xs.length : Int) - 1 := IntWalk.i64_in _ (by omega)
        have e8 : (((k : Nat) : Int) == (xs.length : Int) - 1) = false := by rw [beq_eq_false_iff_ne]; omega
        have e7 : IntKind.i64.wrap (((k : Nat) : Int) + 1) = ((k + 1 : Nat) : Int) := by rw [show ((k : Nat) : Int) + 1 = ((k + 1 : Nat) : Int) by omega]; exact IntWalk.i64_in _ (by omega)
        go_wp2_with fail
        refine (HN.out v7).mono ?_
        rintro e w8 ⟨rfl, hb8⟩
        have HB8 := Lib.hid (HB7.out.trans (hb8.mono HB7.out.size))
        have TS8 := Lib.hid (TS7.out.on hb8)
        have TA8 := Lib.hid (TA7.out.on hb8)
        have HX8 := Lib.hid (fun j x hx => (hb8.cell (p := ⟨g, j, none⟩) hg7).trans (HX7.out j x hx))
        have hg8 : g < w8.heap.size := Nat.lt_of_lt_of_le hg7 hb8.size
        clear hb8 HB7 x0 x1 x2 x3 TX7 TS7 TA7 HX7 hg7
        go_upto_region 19 with fail
        obtain ⟨Z, hZ⟩ : ∃ n, w8.heap.size = n := ⟨_, rfl⟩
        generalize hv : World.alloc _ _ = v9
        have TZ9 : RowKit.Hid (Ad2 Z v9 (aH q'.1) (aL q'.1)) := Lib.hid (by rw [← hv, ← hZ]; exact Ad2.new w8 _ _ _)
        have TS9 : RowKit.Hid (Sp4 w.heap.size v9 (aH A) (aL A) (aH M) (aL M)) := Lib.hid (by rw [← hv]; exact TS8.out.on (below_new _ _))
        have TA9 : RowKit.Hid (Ad2 AT v9 (aH p.1) (aL p.1)) := Lib.hid (by rw [← hv]; exact TA8.out.on (below_new _ _))
        have HB9 := Lib.hid (show Below w.heap.size w v9 by rw [← hv]; exact HB8.out.alloc HB8.out.size _)
        have hB89 : Below w8.heap.size w8 v9 := by rw [← hv]; exact below_new _ _
        have HX9 := Lib.hid (fun j x hx => (hB89.cell (p := ⟨g, j, none⟩) hg8).trans (HX8.out j x hx))
        have hg9 : g < v9.heap.size := Nat.lt_of_lt_of_le hg8 hB89.size
        clear hv HB8 TS8 TA8 HX8 hB89 hg8
        try rw [hZ]
        clear hZ
        obtain ⟨z0, z1, _, _⟩ := TZ9.out
        obtain ⟨a0, a1, af0, af1⟩ := TA9.out
        go_wp2_with fail
        refine ⟨⟨k + 1, q', hq', by first | rfl | rw [e7] | go_num, (HB9.out.setCell (by simpa using hATw) _).setCell (by simpa using hATw) _, sp_off hATs TS9.out, ad_set TA9.out, by simpa using hg9, fun j x hx => cset_far (cset_far (HX9.out j x hx) (fun h => hATg (by simp only [Addr.mk.injEq] at h; exact h.1.symm))) (fun h => hATg (by simp only [Addr.mk.injEq] at h; exact h.1.symm))⟩, by simp [intOf]; omega⟩
    · obtain ⟨j, hkj⟩ : ∃ j, k = j + 1 := ⟨k - 1, by omega⟩
      obtain ⟨q, hq⟩ : ∃ q, xs[j]? = some q := ⟨xs[j], List.getElem?_eq_getElem (by omega)⟩
      obtain ⟨e0, e1, e2, e3⟩ := HCe.out j q hq
      have q0 := HX6.out _ _ e0
      have q1 := HX6.out _ _ e1
      have q2 := HX6.out _ _ e2
      have q3 := HX6.out _ _ e3
      clear e0 e1 e2 e3
      have hd : decide ((0 : Int) < (k : Int)) = true := decide_eq_true (by omega)
      have hd2 : 0 < k := by omega
      have hd3 : (0 : Int) < (k : Int) := by omega
      have hj0 : (0 : Int) ≤ (j : Int) := by omega
      have hjt : (j : Int).toNat = j := by omega
      have ew : IntKind.i64.wrap ((k : Int) - 1) = (j : Int) := by rw [show (k : Int) - 1 = (j : Int) by omega]; exact IntWalk.i64_in _ (by omega)
      have hj : (j : Int) < (xs.length : Int) := by omega
      have HKJ := Lib.hid hkj
      clear hkj
      by_cases hl : p.2 = q.2
      · by_cases hl2 : p.2 < W
        · rw [← hl, HN0.out] at q3
          have hpos1 : (0 : Int) < np := by have := HN0.out; omega
          have hpos : decide ((0 : Int) < np) = true := decide_eq_true hpos1
          have KC := Lib.hid (HCut.out _ p hp hl2)
          have KV := Lib.hid (HCov.out j p q hq (HKJ.out ▸ hp) hl hl2)
          rw [← hl, HN0.out] at KV
          obtain ⟨nc, hnc⟩ : ∃ n : Int, ((W - (p.2 + 1) : Nat) : Int) = n := ⟨_, rfl⟩
          have enc : IntKind.i64.wrap (np - 1) = nc := by
            have h0 := HN0.out
            rw [show np - 1 = nc by omega]
            exact IntWalk.i64_in _ (by omega)
          rw [hnc] at KC KV
          have ENC := Lib.hid enc
          have HQ := Lib.hid (show ((W - q.2 : Nat) : Int) = np by rw [← hl]; exact HN0.out)
          clear hl hl2 hnc enc
          go_quiet (fail)
          generalize hv : World.drewN v6 _ = v7
          have hB67 : Below v6.heap.size v6 v7 := by rw [← hv]; exact below_drewN (Below.refl _ _) _
          have HB7 := Lib.hid (HB6.out.trans (hB67.mono HB6.out.size))
          have TX7 := Lib.hid (TX6.out.on hB67)
          have TS7 := Lib.hid (TS6.out.on hB67)
          have TA7 := Lib.hid (TA6.out.on hB67)
          have HX7 := Lib.hid (fun j x hx => (hB67.cell (p := ⟨g, j, none⟩) hg6).trans (HX6.out j x hx))
          have hg7 : g < v7.heap.size := Nat.lt_of_lt_of_le hg6 hB67.size
          clear hv hB67 HB6 TX6 TS6 TA6 HX6 hg6 d0 d1 d2 d3 q0 q1 q2 q3
          obtain ⟨e0, e1, e2, e3⟩ := HCe.out k p hp
          have d0 := HX7.out _ _ e0
          have d1 := HX7.out _ _ e1
          have d2 := HX7.out _ _ e2
          have d3 := HX7.out _ _ e3
          clear e0 e1 e2 e3
          rw [HN0.out] at d3
          have enc := ENC.out
          go_upto_region 15 with fail
          obtain ⟨C, hC⟩ : ∃ C, p.1 / 2 ^ (p.2 + 1) * 2 ^ (p.2 + 1) = C := ⟨_, rfl⟩
          rw [hC] at KC KV
          clear hC
          go_cut [12, 13] from 55 to 159 (fun s12 s13 wx => ∃ Z : Nat, s12 = .pointer (some ⟨Z, 0, none⟩) ∧ s13 = .int .i64 0 ∧ Pf4 Z wx f (aH C) (aL C) nc ∧ Below v7.heap.size v7 wx)
          case first =>
            go_region_with (go_at_call 14; refine (KC.out _).mono ?_; rintro e w8 ⟨rfl, hb8⟩; obtain ⟨hc8, hf8⟩ := bcellD hb8; have zg8 : g < w8.heap.size := (by (have := hb8.size; (try simp at this); omega)); have zv8 : v7.heap.size ≤ w8.heap.size := (by (have := hb8.size; (try simp at this); omega)))
            all_goals
              clear hc8 hf8 enc
              first
                | (have HB78 : RowKit.Hid (Below v7.heap.size v7 w8) := Lib.hid (((Below.refl v7.heap.size v7).drew).trans hb8)
                   clear hb8
                   go_wp2_with fail
                   go_meet
                   first
                     | exact ⟨_, rfl, rfl, Pf4.new w8 _ _ _ _ _, HB78.out.alloc HB78.out.size _⟩
                     | exact ⟨_, rfl, rfl, (Pf4.new w8 _ _ _ _ _).on ((Below.refl _ _).drew), (HB78.out.alloc HB78.out.size _).drew⟩)
                | (have HZ : RowKit.Hid (Pf4 v7.heap.size w8 0 0 0 0) := Lib.hid ((Pf4.new v7 0 0 0 0 34).on (((Below.refl _ _).drew).trans hb8))
                   have HB78 : RowKit.Hid (Below v7.heap.size v7 w8) := Lib.hid (((below_new v7 (.cells #[.int .u8 0, .int .u64 0, .int .u64 0, .int .i64 0] 34)).drew).trans (hb8.mono (by simp)))
                   clear hb8
                   obtain ⟨b0, b1, b2, b3, g0, g1, g2, g3⟩ := HZ.out
                   go_wp2_with fail
                   go_meet
                   first
                     | exact ⟨_, rfl, rfl, pf_set HZ.out, pf_below HB78.out (Nat.le_refl _)⟩
                     | exact ⟨_, rfl, rfl, (pf_set HZ.out).on ((Below.refl _ _).drew), (pf_below HB78.out (Nat.le_refl _)).drew⟩)
          case rest =>
            obtain ⟨Z, rfl, rfl, hpz, hb9⟩ := hcut
            have HC9 := Lib.hid hb9
            have zz := hpz.lt
            obtain ⟨z0, z1, z2, z3, _, _, _, _⟩ := hpz
            obtain ⟨e0, e1, e2, e3⟩ := HCe.out j q hq
            have q0 := (HC9.out.cell (p := ⟨g, j * 4, none⟩) hg7).trans (HX7.out _ _ e0)
            have q1 := (HC9.out.cell (p := ⟨g, j * 4 + 1, none⟩) hg7).trans (HX7.out _ _ e1)
            have q2 := (HC9.out.cell (p := ⟨g, j * 4 + 2, none⟩) hg7).trans (HX7.out _ _ e2)
            have q3 := (HC9.out.cell (p := ⟨g, j * 4 + 3, none⟩) hg7).trans (HX7.out _ _ e3)
            clear e0 e1 e2 e3 hb9 d0 d1 d2 d3 enc
            rw [show ((W - q.2 : Nat) : Int) = np from HQ.out] at q3
            go_wp2_with fail
            go_still_tail 9, (by kernel_rfl)
            change wpList _ _ _ _ _ wc.drew
            go_wp2_with fail
            refine (KV.out _).mono ?_
            rintro e w10 ⟨rfl, hb10⟩
            have hB710 : Below v7.heap.size v7 w10 := HC9.out.trans (((Below.refl wc.heap.size wc).drew.trans hb10).mono HC9.out.size)
            have HB10 := Lib.hid (HB7.out.trans (hB710.mono HB7.out.size))
            have TX10 := Lib.hid (TX7.out.on hB710)
            have TS10 := Lib.hid (TS7.out.on hB710)
            have TA10 := Lib.hid (TA7.out.on hB710)
            have HX10 := Lib.hid (fun j x hx => (hB710.cell (p := ⟨g, j, none⟩) hg7).trans (HX7.out j x hx))
            have hg10 : g < w10.heap.size := Nat.lt_of_lt_of_le hg7 hB710.size
            clear hB710 hb10 HB7 TX7 TS7 TA7 HX7 hg7 q0 q1 q2 q3 z0 z1 z2 z3 zz hd hd2 hd3 hj0 hjt ew hpos hpos1
            obtain ⟨x0, x1, x2, x3, _⟩ := TX10.out
            by_cases hlast : xs.length = k + 1
            · have hE := HLast.out _ p hp hlast
              obtain ⟨nx, ny, nb, hN⟩ := HNl.out
              have HN := Lib.hid hN
              rw [hE] at x2 x3
              have e9 : IntKind.i64.wrap ((xs.length : Int) - 1) = (k : Int) := by rw [show (xs.length : Int) - 1 = (k : Int) by omega]; exact IntWalk.i64_in _ (by omega)
              have zx := TX10.out.lt
              clear hN hE
              go_wp2_with fail
              refine (HN.out w10).mono ?_
              rintro e w8 ⟨rfl, hb8⟩
              have HB8 := Lib.hid (HB10.out.trans (hb8.mono HB10.out.size))
              have y2 := (hb8.cell (p := ⟨X, 2, none⟩) zx).trans x2
              have y3 := (hb8.cell (p := ⟨X, 3, none⟩) zx).trans x3
              have TS8 := Lib.hid (TS10.out.on hb8)
              clear hb8 HB10 x0 x1 x2 x3 TX10 TA10 HX10 TS10
              obtain ⟨s0, s1, s2, s3, _⟩ := TS8.out
              have zs := TS8.out.lt
              have zy := World.block_lt_of_cell? _ _ y2
              go_wp2_with fail
              go_ret
              exact ⟨by simp, HB8.out.alloc HB8.out.size _⟩
            · obtain ⟨q', hq'⟩ : ∃ q', xs[k + 1]? = some q' := ⟨xs[k + 1], List.getElem?_eq_getElem (by omega)⟩
              have HN := Lib.hid (HNx.out _ p q' hp hq')
              have e9 : IntKind.i64.wrap ((xs.length : Int) - 1) = (xs.length : Int) - 1 := IntWalk.i64_in _ (by omega)
              have e8 : ((k : Int) == (xs.length : Int) - 1) = false := by rw [beq_eq_false_iff_ne]; omega
              have e7 : IntKind.i64.wrap ((k : Int) + 1) = ((k + 1 : Nat) : Int) := by rw [show (k : Int) + 1 = ((k + 1 : Nat) : Int) by omega]; exact IntWalk.i64_in _ (by omega)
              go_wp2_with fail
              refine (HN.out w10).mono ?_
              rintro e w8 ⟨rfl, hb8⟩
              have HB8 := Lib.hid (HB10.out.trans (hb8.mono HB10.out.size))
              have TS8 := Lib.hid (TS10.out.on hb8)
              have TA8 := Lib.hid (TA10.out.on hb8)
              have HX8 := Lib.hid (fun j x hx => (hb8.cell (p := ⟨g, j, none⟩) hg10).trans (HX10.out j x hx))
              have hg8 : g < w8.heap.size := Nat.lt_of_lt_of_le hg10 hb8.size
              clear hb8 HB10 x0 x1 x2 x3 TX10 TS10 TA10 HX10 hg10
              go_upto_region 19 with fail
              obtain ⟨Z, hZ⟩ : ∃ n, w8.heap.size = n := ⟨_, rfl⟩
              generalize hv : World.alloc _ _ = v9
              have TZ9 : RowKit.Hid (Ad2 Z v9 (aH q'.1) (aL q'.1)) := Lib.hid (by rw [← hv, ← hZ]; exact Ad2.new w8 _ _ _)
              have TS9 : RowKit.Hid (Sp4 w.heap.size v9 (aH A) (aL A) (aH M) (aL M)) := Lib.hid (by rw [← hv]; exact TS8.out.on (below_new _ _))
              have TA9 : RowKit.Hid (Ad2 AT v9 (aH p.1) (aL p.1)) := Lib.hid (by rw [← hv]; exact TA8.out.on (below_new _ _))
              have HB9 := Lib.hid (show Below w.heap.size w v9 by rw [← hv]; exact HB8.out.alloc HB8.out.size _)
              have hB89 : Below w8.heap.size w8 v9 := by rw [← hv]; exact below_new _ _
              have HX9 := Lib.hid (fun j x hx => (hB89.cell (p := ⟨g, j, none⟩) hg8).trans (HX8.out j x hx))
              have hg9 : g < v9.heap.size := Nat.lt_of_lt_of_le hg8 hB89.size
              clear hv HB8 TS8 TA8 HX8 hB89 hg8
              try rw [hZ]
              clear hZ
              obtain ⟨z0, z1, _, _⟩ := TZ9.out
              obtain ⟨a0, a1, af0, af1⟩ := TA9.out
              go_wp2_with fail
              go_roundw
              case rel => exact ⟨k + 1, q', hq', by first | rfl | rw [e7] | go_num, (HB9.out.setCell (by simpa using hATw) _).setCell (by simpa using hATw) _, sp_off hATs TS9.out, ad_set TA9.out, by simpa using hg9, fun j x hx => cset_far (cset_far (HX9.out j x hx) (fun h => hATg (by simp only [Addr.mk.injEq] at h; exact h.1.symm))) (fun h => hATg (by simp only [Addr.mk.injEq] at h; exact h.1.symm))⟩
              case measure => simp [intOf]; omega
        · rw [← hl, HN0.out] at q3
          have hpos1 : ¬ (0 : Int) < np := by have := HN0.out; omega
          have hpos : decide ((0 : Int) < np) = false := decide_eq_false hpos1
          clear hl hl2
          go_quiet (fail)
          generalize hv : World.drewN v6 _ = v7
          have hB67 : Below v6.heap.size v6 v7 := by rw [← hv]; exact below_drewN (Below.refl _ _) _
          have HB7 := Lib.hid (HB6.out.trans (hB67.mono HB6.out.size))
          have TX7 := Lib.hid (TX6.out.on hB67)
          have TS7 := Lib.hid (TS6.out.on hB67)
          have TA7 := Lib.hid (TA6.out.on hB67)
          have HX7 := Lib.hid (fun j x hx => (hB67.cell (p := ⟨g, j, none⟩) hg6).trans (HX6.out j x hx))
          have hg7 : g < v7.heap.size := Nat.lt_of_lt_of_le hg6 hB67.size
          clear hv hB67 HB6 TX6 TS6 TA6 HX6 hg6
          clear d0 d1 d2 d3 q0 q1 q2 q3 hd hd2 hd3 hj0 hjt ew hpos hpos1
          obtain ⟨x0, x1, x2, x3, _⟩ := TX7.out
          by_cases hlast : xs.length = k + 1
          · have hE := HLast.out _ p hp hlast
            obtain ⟨nx, ny, nb, hN⟩ := HNl.out
            have HN := Lib.hid hN
            rw [hE] at x2 x3
            have e9 : IntKind.i64.wrap ((xs.length : Int) - 1) = (k : Int) := by rw [show (xs.length : Int) - 1 = (k : Int) by omega]; exact IntWalk.i64_in _ (by omega)
            have zx := TX7.out.lt
            clear hN hE
            go_wp2_with fail
            refine (HN.out v7).mono ?_
            rintro e w8 ⟨rfl, hb8⟩
            have HB8 := Lib.hid (HB7.out.trans (hb8.mono HB7.out.size))
            have y2 := (hb8.cell (p := ⟨X, 2, none⟩) zx).trans x2
            have y3 := (hb8.cell (p := ⟨X, 3, none⟩) zx).trans x3
            have TS8 := Lib.hid (TS7.out.on hb8)
            clear hb8 HB7 x0 x1 x2 x3 TX7 TA7 HX7 TS7
            obtain ⟨s0, s1, s2, s3, _⟩ := TS8.out
            have zs := TS8.out.lt
            have zy := World.block_lt_of_cell? _ _ y2
            go_wp2_with fail
            go_ret
            exact ⟨by simp, HB8.out.alloc HB8.out.size _⟩
          · obtain ⟨q', hq'⟩ : ∃ q', xs[k + 1]? = some q' := ⟨xs[k + 1], List.getElem?_eq_getElem (by omega)⟩
            have HN := Lib.hid (HNx.out _ p q' hp hq')
            have e9 : IntKind.i64.wrap ((xs.length : Int) - 1) = (xs.length : Int) - 1 := IntWalk.i64_in _ (by omega)
            have e8 : ((k : Int) == (xs.length : Int) - 1) = false := by rw [beq_eq_false_iff_ne]; omega
            have e7 : IntKind.i64.wrap ((k : Int) + 1) = ((k + 1 : Nat) : Int) := by rw [show (k : Int) + 1 = ((k + 1 : Nat) : Int) by omega]; exact IntWalk.i64_in _ (by omega)
            go_wp2_with fail
            refine (HN.out v7).mono ?_
            rintro e w8 ⟨rfl, hb8⟩
            have HB8 := Lib.hid (HB7.out.trans (hb8.mono HB7.out.size))
            have TS8 := Lib.hid (TS7.out.on hb8)
            have TA8 := Lib.hid (TA7.out.on hb8)
            have HX8 := Lib.hid (fun j x hx => (hb8.cell (p := ⟨g, j, none⟩) hg7).trans (HX7.out j x hx))
            have hg8 : g < w8.heap.size := Nat.lt_of_lt_of_le hg7 hb8.size
            clear hb8 HB7 x0 x1 x2 x3 TX7 TS7 TA7 HX7 hg7
            go_upto_region 19 with fail
            obtain ⟨Z, hZ⟩ : ∃ n, w8.heap.size = n := ⟨_, rfl⟩
            generalize hv : World.alloc _ _ = v9
            have TZ9 : RowKit.Hid (Ad2 Z v9 (aH q'.1) (aL q'.1)) := Lib.hid (by rw [← hv, ← hZ]; exact Ad2.new w8 _ _ _)
            have TS9 : RowKit.Hid (Sp4 w.heap.size v9 (aH A) (aL A) (aH M) (aL M)) := Lib.hid (by rw [← hv]; exact TS8.out.on (below_new _ _))
            have TA9 : RowKit.Hid (Ad2 AT v9 (aH p.1) (aL p.1)) := Lib.hid (by rw [← hv]; exact TA8.out.on (below_new _ _))
            have HB9 := Lib.hid (show Below w.heap.size w v9 by rw [← hv]; exact HB8.out.alloc HB8.out.size _)
            have hB89 : Below w8.heap.size w8 v9 := by rw [← hv]; exact below_new _ _
            have HX9 := Lib.hid (fun j x hx => (hB89.cell (p := ⟨g, j, none⟩) hg8).trans (HX8.out j x hx))
            have hg9 : g < v9.heap.size := Nat.lt_of_lt_of_le hg8 hB89.size
            clear hv HB8 TS8 TA8 HX8 hB89 hg8
            try rw [hZ]
            clear hZ
            obtain ⟨z0, z1, _, _⟩ := TZ9.out
            obtain ⟨a0, a1, af0, af1⟩ := TA9.out
            go_wp2_with fail
            refine ⟨⟨k + 1, q', hq', by first | rfl | rw [e7] | go_num, (HB9.out.setCell (by simpa using hATw) _).setCell (by simpa using hATw) _, sp_off hATs TS9.out, ad_set TA9.out, by simpa using hg9, fun j x hx => cset_far (cset_far (HX9.out j x hx) (fun h => hATg (by simp only [Addr.mk.injEq] at h; exact h.1.symm))) (fun h => hATg (by simp only [Addr.mk.injEq] at h; exact h.1.symm))⟩, by simp [intOf]; omega⟩
      · obtain ⟨nq, hnq0⟩ : ∃ n : Int, ((W - q.2 : Nat) : Int) = n := ⟨_, rfl⟩
        rw [hnq0] at q3
        have hnp : (np == nq) = false := by
          rw [beq_eq_false_iff_ne, ← HN0.out, ← hnq0]
          have := HBl.out _ _ hq
          omega
        clear hl hnq0
        go_quiet (fail)
        generalize hv : World.drewN v6 _ = v7
        have hB67 : Below v6.heap.size v6 v7 := by rw [← hv]; exact below_drewN (Below.refl _ _) _
        have HB7 := Lib.hid (HB6.out.trans (hB67.mono HB6.out.size))
        have TX7 := Lib.hid (TX6.out.on hB67)
        have TS7 := Lib.hid (TS6.out.on hB67)
        have TA7 := Lib.hid (TA6.out.on hB67)
        have HX7 := Lib.hid (fun j x hx => (hB67.cell (p := ⟨g, j, none⟩) hg6).trans (HX6.out j x hx))
        have hg7 : g < v7.heap.size := Nat.lt_of_lt_of_le hg6 hB67.size
        clear hv hB67 HB6 TX6 TS6 TA6 HX6 hg6
        clear d0 d1 d2 d3 q0 q1 q2 q3 hd hd2 hd3 hj0 hjt ew hnp
        obtain ⟨x0, x1, x2, x3, _⟩ := TX7.out
        by_cases hlast : xs.length = k + 1
        · have hE := HLast.out _ p hp hlast
          obtain ⟨nx, ny, nb, hN⟩ := HNl.out
          have HN := Lib.hid hN
          rw [hE] at x2 x3
          have e9 : IntKind.i64.wrap ((xs.length : Int) - 1) = (k : Int) := by rw [show (xs.length : Int) - 1 = (k : Int) by omega]; exact IntWalk.i64_in _ (by omega)
          have zx := TX7.out.lt
          clear hN hE
          go_wp2_with fail
          refine (HN.out v7).mono ?_
          rintro e w8 ⟨rfl, hb8⟩
          have HB8 := Lib.hid (HB7.out.trans (hb8.mono HB7.out.size))
          have y2 := (hb8.cell (p := ⟨X, 2, none⟩) zx).trans x2
          have y3 := (hb8.cell (p := ⟨X, 3, none⟩) zx).trans x3
          have TS8 := Lib.hid (TS7.out.on hb8)
          clear hb8 HB7 x0 x1 x2 x3 TX7 TA7 HX7 TS7
          obtain ⟨s0, s1, s2, s3, _⟩ := TS8.out
          have zs := TS8.out.lt
          have zy := World.block_lt_of_cell? _ _ y2
          go_wp2_with fail
          go_ret
          exact ⟨by simp, HB8.out.alloc HB8.out.size _⟩
        · obtain ⟨q', hq'⟩ : ∃ q', xs[k + 1]? = some q' := ⟨xs[k + 1], List.getElem?_eq_getElem (by omega)⟩
          have HN := Lib.hid (HNx.out _ p q' hp hq')
          have e9 : IntKind.i64.wrap ((xs.length : Int) - 1) = (xs.length : Int) - 1 := IntWalk.i64_in _ (by omega)
          have e8 : ((k : Int) == (xs.length : Int) - 1) = false := by rw [beq_eq_false_iff_ne]; omega
          have e7 : IntKind.i64.wrap ((k : Int) + 1) = ((k + 1 : Nat) : Int) := by rw [show (k : Int) + 1 = ((k + 1 : Nat) : Int) by omega]; exact IntWalk.i64_in _ (by omega)
          go_wp2_with fail
          refine (HN.out v7).mono ?_
          rintro e w8 ⟨rfl, hb8⟩
          have HB8 := Lib.hid (HB7.out.trans (hb8.mono HB7.out.size))
          have TS8 := Lib.hid (TS7.out.on hb8)
          have TA8 := Lib.hid (TA7.out.on hb8)
          have HX8 := Lib.hid (fun j x hx => (hb8.cell (p := ⟨g, j, none⟩) hg7).trans (HX7.out j x hx))
          have hg8 : g < w8.heap.size := Nat.lt_of_lt_of_le hg7 hb8.size
          clear hb8 HB7 x0 x1 x2 x3 TX7 TS7 TA7 HX7 hg7
          go_upto_region 19 with fail
          obtain ⟨Z, hZ⟩ : ∃ n, w8.heap.size = n := ⟨_, rfl⟩
          generalize hv : World.alloc _ _ = v9
          have TZ9 : RowKit.Hid (Ad2 Z v9 (aH q'.1) (aL q'.1)) := Lib.hid (by rw [← hv, ← hZ]; exact Ad2.new w8 _ _ _)
          have TS9 : RowKit.Hid (Sp4 w.heap.size v9 (aH A) (aL A) (aH M) (aL M)) := Lib.hid (by rw [← hv]; exact TS8.out.on (below_new _ _))
          have TA9 : RowKit.Hid (Ad2 AT v9 (aH p.1) (aL p.1)) := Lib.hid (by rw [← hv]; exact TA8.out.on (below_new _ _))
          have HB9 := Lib.hid (show Below w.heap.size w v9 by rw [← hv]; exact HB8.out.alloc HB8.out.size _)
          have hB89 : Below w8.heap.size w8 v9 := by rw [← hv]; exact below_new _ _
          have HX9 := Lib.hid (fun j x hx => (hB89.cell (p := ⟨g, j, none⟩) hg8).trans (HX8.out j x hx))
          have hg9 : g < v9.heap.size := Nat.lt_of_lt_of_le hg8 hB89.size
          clear hv HB8 TS8 TA8 HX8 hB89 hg8
          try rw [hZ]
          clear hZ
          obtain ⟨z0, z1, _, _⟩ := TZ9.out
          obtain ⟨a0, a1, af0, af1⟩ := TA9.out
          go_wp2_with fail
          refine ⟨⟨k + 1, q', hq', by first | rfl | rw [e7] | go_num, (HB9.out.setCell (by simpa using hATw) _).setCell (by simpa using hATw) _, sp_off hATs TS9.out, ad_set TA9.out, by simpa using hg9, fun j x hx => cset_far (cset_far (HX9.out j x hx) (fun h => hATg (by simp only [Addr.mk.injEq] at h; exact h.1.symm))) (fun h => hATg (by simp only [Addr.mk.injEq] at h; exact h.1.symm))⟩, by simp [intOf]; omega⟩
theorem least_true (f a b c d : Int) (w : World) (env : Env fl w) (ua : U64 a) (ub : U64 b) (uc : U64 c) (ud : U64 d) :
    Calls Tryd.prog 7 #[.int .u8 f, .agg #[.int .u64 a, .int .u64 b, .int .u64 c, .int .u64 d]] w fun e w' => e = .returned (.bool true) ∧ Below w.heap.size w w' := by
  obtain ⟨A, hA, rfl, rfl⟩ := a_of ua ub
  obtain ⟨M, hM, rfl, rfl⟩ := a_of uc ud
  by_cases hs : schk f A M = 0
  · obtain ⟨W, hf, hAM, hMW⟩ := schk_fam hM hs
    exact least_yes hf A M hAM hMW hs w env
  · exact least_no f A M _ rfl (by rw [bne_iff_ne]; exact hs) w env
end Go.Proofs.YtikhklnjjicfgaaDoor
