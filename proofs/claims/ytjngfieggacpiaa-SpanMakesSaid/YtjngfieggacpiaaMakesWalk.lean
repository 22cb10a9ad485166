/-
  THE WALK over SpanMakes; it is true at every input.
-/
import Derived.Test.YtjngfieggacpiaaSpRefE
import Derived.Deep.DeepCutAuto
namespace Go.Proofs.Ytjngfieggacpiaa
open Go.RowKit Adr Spn
set_option linter.unusedVariables false
set_option linter.unusedSimpArgs false
/-- a list of prefixes, as it was given back -/
def Lst (f : Int) (W : Nat) (xs : List (Nat × Nat)) (w : World) (v : Value) : Prop :=
  (v = .slice none 0 0 ∧ xs = []) ∨ (xs ≠ [] ∧ ∃ g cap, v = .slice (some ⟨g, 0, none⟩) xs.length cap ∧ g < w.heap.size ∧ xs.length ≤ cap ∧ ∀ (j : Nat) x, (pcells f W xs)[j]? = some x → w.cell? ⟨g, j, none⟩ = some x)
theorem Lst.on {f : Int} {W : Nat} {xs : List (Nat × Nat)} {w w' : World} {v : Value} (h : Lst f W xs w v) (hb : Below w.heap.size w w') : Lst f W xs w' v := by
  rcases h with h | ⟨h0, g, cap, h1, h2, h3, h4⟩
  · exact .inl h
  · exact .inr ⟨h0, g, cap, h1, Nat.lt_of_lt_of_le h2 hb.size, h3, fun j x hx => (hb.cell (p := ⟨g, j, none⟩) h2).trans (h4 j x hx)⟩
theorem Lst.of {f : Int} {W : Nat} {xs : List (Nat × Nat)} {w : World} {v : Value} {base : Nat} {t : TypeId} (h : w.ownsRow base t 4 v xs.length (pcells f W xs)) (h0 : xs ≠ []) : Lst f W xs w v := by
  obtain ⟨g, cap, h1, h2, h3, h4, h5, h6⟩ := own4 h (List.length_pos_iff.2 h0)
  exact .inr ⟨h0, g, cap, h1, h3, h4, h6⟩
theorem same_any (f : Int) (W : Nat) (xs : List (Nat × Nat)) (hl : xs.length ≤ 254) (v u : Value) (w : World) (hv : Lst f W xs w v) (hu : Lst f W xs w u) :
    Calls Try.prog 8 #[v, u] w fun e w' => e = .returned (.bool true) ∧ Below w.heap.size w w' := by
  rcases hv with ⟨rfl, rfl⟩ | ⟨h0, g, cg, rfl, hg, hcg, hx⟩
  · rcases hu with ⟨rfl, _⟩ | ⟨h0, _⟩
    · exact same_none w
    · exact absurd rfl h0
  · rcases hu with ⟨_, rfl⟩ | ⟨_, h, ch, rfl, hh, hch, hy⟩
    · exact absurd rfl h0
    · exact same_yes f W xs.length xs rfl (List.length_pos_iff.2 h0) hl g cg h ch w hg hh hcg hch hx hy
set_option maxRecDepth 100000 in
set_option maxHeartbeats 8000000 in
theorem makes_core (f a b c d x y pf ph pl pn : Int) (w : World) (za zb zc zd oe : Int)
    (h1 : ∀ w, Calls Try.prog 4 #[.agg #[.int .u8 pf, .int .u64 ph, .int .u64 pl, .int .i64 pn]] w fun e w' => e = .returned (.tuple #[.agg #[.int .u64 za, .int .u64 zb, .int .u64 zc, .int .u64 zd], .int .i64 oe]) ∧ Below w.heap.size w w')
    (h2 : ∀ w, Calls Try.prog 5 #[.agg #[.int .u8 pf, .int .u64 ph, .int .u64 pl, .int .i64 pn]] w fun e w' => e = .returned (.tuple #[.agg #[.int .u64 za, .int .u64 zb, .int .u64 zc, .int .u64 zd], .int .i64 oe]) ∧ Below w.heap.size w w')
    (W : Nat) (xs : List (Nat × Nat)) (hl : xs.length ≤ 254) (ge : Int)
    (h3 : ∀ w, Calls Try.prog 6 #[.int .u8 f, .agg #[.int .u64 a, .int .u64 b, .int .u64 c, .int .u64 d]] w fun e w' => ∃ v, e = .returned (.tuple #[v, .int .i64 ge]) ∧ Lst f W xs w' v ∧ Below w.heap.size w w')
    (h4 : ∀ w, Calls Try.prog 7 #[.int .u8 f, .agg #[.int .u64 a, .int .u64 b, .int .u64 c, .int .u64 d]] w fun e w' => ∃ v, e = .returned (.tuple #[v, .int .i64 ge]) ∧ Lst f W xs w' v ∧ Below w.heap.size w w')
    (na nb : Int) (nt : Bool)
    (h5 : ∀ w, Calls Try.prog 9 #[.int .u8 f, .agg #[.int .u64 x, .int .u64 y]] w fun e w' => e = .returned (.tuple #[.agg #[.int .u64 na, .int .u64 nb], .bool nt]) ∧ Below w.heap.size w w')
    (h6 : ∀ w, Calls Try.prog 10 #[.int .u8 f, .agg #[.int .u64 x, .int .u64 y]] w fun e w' => e = .returned (.tuple #[.agg #[.int .u64 na, .int .u64 nb], .bool nt]) ∧ Below w.heap.size w w')
    (va vb : Int) (vt : Bool)
    (h7 : ∀ w, Calls Try.prog 11 #[.agg #[.int .u64 x, .int .u64 y]] w fun e w' => e = .returned (.tuple #[.agg #[.int .u64 va, .int .u64 vb], .bool vt]) ∧ Below w.heap.size w w')
    (h8 : ∀ w, Calls Try.prog 12 #[.agg #[.int .u64 x, .int .u64 y]] w fun e w' => e = .returned (.tuple #[.agg #[.int .u64 va, .int .u64 vb], .bool vt]) ∧ Below w.heap.size w w')
    (ck : Int)
    (h9 : ∀ w, Calls Try.prog 13 #[.int .u8 f, .agg #[.int .u64 a, .int .u64 b, .int .u64 c, .int .u64 d]] w fun e w' => e = .returned (.int .i64 ck) ∧ Below w.heap.size w w')
    (h10 : ∀ w, Calls Try.prog 14 #[.int .u8 f, .agg #[.int .u64 a, .int .u64 b, .int .u64 c, .int .u64 d]] w fun e w' => e = .returned (.int .i64 ck) ∧ Below w.heap.size w w') :
    Calls Try.prog 3 #[.int .u8 f, .agg #[.int .u64 a, .int .u64 b, .int .u64 c, .int .u64 d], .agg #[.int .u64 x, .int .u64 y], .agg #[.int .u8 pf, .int .u64 ph, .int .u64 pl, .int .i64 pn]] w fun e w' => e = .returned (.bool true) ∧ Below w.heap.size w w' := by
  have H1 := Lib.hid h1
  have H2 := Lib.hid h2
  have H3 := Lib.hid h3
  have H4 := Lib.hid h4
  have H5 := Lib.hid h5
  have H6 := Lib.hid h6
  have H7 := Lib.hid h7
  have H8 := Lib.hid h8
  have H9 := Lib.hid h9
  have H10 := Lib.hid h10
  have HL := Lib.hid hl
  clear hl h1 h2 h3 h4 h5 h6 h7 h8 h9 h10
  go_enter Try.func3, Try.ntmps3
  go_wp2_with fail
  generalize hv : World.alloc (World.alloc (World.alloc _ _) _) _ = v0
  obtain ⟨N, hN⟩ : ∃ N, w.heap.size = N := ⟨_, rfl⟩
  have TS_0 : RowKit.Hid (Sp4 N v0 a b c d) := Lib.hid (by rw [← hv, ← hN]; exact ((Sp4.new w a b c d _).on (below_new _ _)).on (below_new _ _))
  have TA_0 : RowKit.Hid (Ad2 (N + 1) v0 x y) := Lib.hid (by
    rw [← hv, ← hN]
    have := (Ad2.new (w.alloc (.cells #[.int .u64 a, .int .u64 b, .int .u64 c, .int .u64 d] 26)) x y 24)
    simp only [World.size_alloc] at this
    exact this.on (below_new _ _))
  have TP_0 : RowKit.Hid (Pf4 (N + 1 + 1) v0 pf ph pl pn) := Lib.hid (by
    rw [← hv, ← hN]
    have := Pf4.new ((w.alloc (.cells #[.int .u64 a, .int .u64 b, .int .u64 c, .int .u64 d] 26)).alloc (.cells #[.int .u64 x, .int .u64 y] 24)) pf ph pl pn 28
    simp only [World.size_alloc] at this
    exact this)
  have HB_0 := Lib.hid (show Below N w v0 by rw [← hv, ← hN]; exact (((Below.refl _ _).alloc (Nat.le_refl _) _).alloc (by simp) _).alloc (by simp; omega) _)
  have HNW := Lib.hid hN
  try rw [hN]
  clear hv hN
  obtain ⟨tp0, tp1, tp2, tp3, _, _, _, _⟩ := TP_0.out
  go_wp2_with fail
  refine (H1.out _).mono ?_
  rintro e w1 ⟨rfl, hb⟩
  have HB_1 := Lib.hid (HB_0.out.trans (hb.mono (show N ≤ _ from Nat.le_trans (by have := HNW.out; omega) HB_0.out.size)))
  clear HB_0
  have TS_1 := Lib.hid (TS_0.out.on hb)
  clear TS_0
  have TA_1 := Lib.hid (TA_0.out.on hb)
  clear TA_0
  have TP_1 := Lib.hid (TP_0.out.on hb)
  clear TP_0
  clear tp0 tp1 tp2 tp3
  clear hb
  go_upto_region 2 with fail
  obtain ⟨TXN, hTXN⟩ : ∃ M, w1.heap.size = M := ⟨_, rfl⟩
  generalize hv : World.alloc _ _ = v2
  have hb : Below w1.heap.size w1 v2 := by rw [← hv]; exact below_new _ _
  have HB_2 := Lib.hid (HB_1.out.trans (hb.mono (show N ≤ _ from Nat.le_trans (by have := HNW.out; omega) HB_1.out.size)))
  clear HB_1
  have TS_2 := Lib.hid (TS_1.out.on hb)
  clear TS_1
  have TA_2 := Lib.hid (TA_1.out.on hb)
  clear TA_1
  have TP_2 := Lib.hid (TP_1.out.on hb)
  clear TP_1
  have TX_2 : RowKit.Hid (Sp4 TXN v2 za zb zc zd) := Lib.hid (by rw [← hv, ← hTXN]; exact Sp4.new w1 za zb zc zd _)
  try rw [hTXN]
  clear hb hv hTXN
  obtain ⟨tp0, tp1, tp2, tp3, _, _, _, _⟩ := TP_2.out
  go_wp2_with fail
  refine (H2.out _).mono ?_
  rintro e w3 ⟨rfl, hb⟩
  have HB_3 := Lib.hid (HB_2.out.trans (hb.mono (show N ≤ _ from Nat.le_trans (by have := HNW.out; omega) HB_2.out.size)))
  clear HB_2
  have TS_3 := Lib.hid (TS_2.out.on hb)
  clear TS_2
  have TA_3 := Lib.hid (TA_2.out.on hb)
  clear TA_2
  have TP_3 := Lib.hid (TP_2.out.on hb)
  clear TP_2
  have TX_3 := Lib.hid (TX_2.out.on hb)
  clear TX_2
  clear tp0 tp1 tp2 tp3
  clear hb
  go_upto_region 3 with fail
  obtain ⟨TYN, hTYN⟩ : ∃ M, w3.heap.size = M := ⟨_, rfl⟩
  generalize hv : World.alloc _ _ = v4
  have hb : Below w3.heap.size w3 v4 := by rw [← hv]; exact below_new _ _
  have HB_4 := Lib.hid (HB_3.out.trans (hb.mono (show N ≤ _ from Nat.le_trans (by have := HNW.out; omega) HB_3.out.size)))
  clear HB_3
  have TS_4 := Lib.hid (TS_3.out.on hb)
  clear TS_3
  have TA_4 := Lib.hid (TA_3.out.on hb)
  clear TA_3
  have TP_4 := Lib.hid (TP_3.out.on hb)
  clear TP_3
  have TX_4 := Lib.hid (TX_3.out.on hb)
  clear TX_3
  have TY_4 : RowKit.Hid (Sp4 TYN v4 za zb zc zd) := Lib.hid (by rw [← hv, ← hTYN]; exact Sp4.new w3 za zb zc zd _)
  try rw [hTYN]
  clear hb hv hTYN
  obtain ⟨ts0, ts1, ts2, ts3, _⟩ := TS_4.out
  go_wp2_with fail
  refine (H3.out _).mono ?_
  rintro e w5 ⟨l5, rfl, hlst, hb⟩
  have HB_5 := Lib.hid (HB_4.out.trans (hb.mono (show N ≤ _ from Nat.le_trans (by have := HNW.out; omega) HB_4.out.size)))
  clear HB_4
  have TS_5 := Lib.hid (TS_4.out.on hb)
  clear TS_4
  have TA_5 := Lib.hid (TA_4.out.on hb)
  clear TA_4
  have TP_5 := Lib.hid (TP_4.out.on hb)
  clear TP_4
  have TX_5 := Lib.hid (TX_4.out.on hb)
  clear TX_4
  have TY_5 := Lib.hid (TY_4.out.on hb)
  clear TY_4
  clear ts0 ts1 ts2 ts3
  clear hb
  have L5_5 := Lib.hid hlst
  clear hlst
  go_upto_region 4 with fail
  obtain ⟨ts0, ts1, ts2, ts3, _⟩ := TS_5.out
  go_wp2_with fail
  refine (H4.out _).mono ?_
  rintro e w6 ⟨l6, rfl, hlst, hb⟩
  have HB_6 := Lib.hid (HB_5.out.trans (hb.mono (show N ≤ _ from Nat.le_trans (by have := HNW.out; omega) HB_5.out.size)))
  clear HB_5
  have TS_6 := Lib.hid (TS_5.out.on hb)
  clear TS_5
  have TA_6 := Lib.hid (TA_5.out.on hb)
  clear TA_5
  have TP_6 := Lib.hid (TP_5.out.on hb)
  clear TP_5
  have TX_6 := Lib.hid (TX_5.out.on hb)
  clear TX_5
  have TY_6 := Lib.hid (TY_5.out.on hb)
  clear TY_5
  have L5_6 := Lib.hid (L5_5.out.on hb)
  clear L5_5
  clear ts0 ts1 ts2 ts3
  clear hb
  have L6_6 := Lib.hid hlst
  clear hlst
  go_upto_region 5 with fail
  obtain ⟨tx0, tx1, tx2, tx3, _⟩ := TX_6.out
  obtain ⟨ty0, ty1, ty2, ty3, _⟩ := TY_6.out
  go_wp2_with fail
  refine (same_any f W xs HL.out l5 l6 _ L5_6.out L6_6.out).mono ?_
  rintro e w7 ⟨rfl, hb⟩
  have HB_7 := Lib.hid (HB_6.out.trans (hb.mono (show N ≤ _ from Nat.le_trans (by have := HNW.out; omega) HB_6.out.size)))
  clear HB_6
  have TS_7 := Lib.hid (TS_6.out.on hb)
  clear TS_6
  have TA_7 := Lib.hid (TA_6.out.on hb)
  clear TA_6
  have TP_7 := Lib.hid (TP_6.out.on hb)
  clear TP_6
  have TX_7 := Lib.hid (TX_6.out.on hb)
  clear TX_6
  have TY_7 := Lib.hid (TY_6.out.on hb)
  clear TY_6
  have L5_7 := Lib.hid (L5_6.out.on hb)
  clear L5_6
  have L6_7 := Lib.hid (L6_6.out.on hb)
  clear L6_6
  clear tx0 tx1 tx2 tx3 ty0 ty1 ty2 ty3
  clear hb
  clear TX_7
  clear TY_7
  clear L5_7
  clear L6_7
  obtain ⟨ta0, ta1, _, _⟩ := TA_7.out
  go_wp2_with fail
  refine (H5.out _).mono ?_
  rintro e w8 ⟨rfl, hb⟩
  have HB_8 := Lib.hid (HB_7.out.trans (hb.mono (show N ≤ _ from Nat.le_trans (by have := HNW.out; omega) HB_7.out.size)))
  clear HB_7
  have TS_8 := Lib.hid (TS_7.out.on hb)
  clear TS_7
  have TA_8 := Lib.hid (TA_7.out.on hb)
  clear TA_7
  have TP_8 := Lib.hid (TP_7.out.on hb)
  clear TP_7
  clear ta0 ta1
  clear hb
  go_upto_region 8 with fail
  obtain ⟨TBN, hTBN⟩ : ∃ M, w8.heap.size = M := ⟨_, rfl⟩
  generalize hv : World.alloc _ _ = v9
  have hb : Below w8.heap.size w8 v9 := by rw [← hv]; exact below_new _ _
  have HB_9 := Lib.hid (HB_8.out.trans (hb.mono (show N ≤ _ from Nat.le_trans (by have := HNW.out; omega) HB_8.out.size)))
  clear HB_8
  have TS_9 := Lib.hid (TS_8.out.on hb)
  clear TS_8
  have TA_9 := Lib.hid (TA_8.out.on hb)
  clear TA_8
  have TP_9 := Lib.hid (TP_8.out.on hb)
  clear TP_8
  have TB_9 : RowKit.Hid (Ad2 TBN v9 na nb) := Lib.hid (by rw [← hv, ← hTBN]; exact Ad2.new w8 na nb _)
  try rw [hTBN]
  clear hb hv hTBN
  obtain ⟨ta0, ta1, _, _⟩ := TA_9.out
  go_wp2_with fail
  refine (H6.out _).mono ?_
  rintro e w10 ⟨rfl, hb⟩
  have HB_10 := Lib.hid (HB_9.out.trans (hb.mono (show N ≤ _ from Nat.le_trans (by have := HNW.out; omega) HB_9.out.size)))
  clear HB_9
  have TS_10 := Lib.hid (TS_9.out.on hb)
  clear TS_9
  have TA_10 := Lib.hid (TA_9.out.on hb)
  clear TA_9
  have TP_10 := Lib.hid (TP_9.out.on hb)
  clear TP_9
  have TB_10 := Lib.hid (TB_9.out.on hb)
  clear TB_9
  clear ta0 ta1
  clear hb
  go_upto_region 9 with fail
  obtain ⟨TCN, hTCN⟩ : ∃ M, w10.heap.size = M := ⟨_, rfl⟩
  generalize hv : World.alloc _ _ = v11
  have hb : Below w10.heap.size w10 v11 := by rw [← hv]; exact below_new _ _
  have HB_11 := Lib.hid (HB_10.out.trans (hb.mono (show N ≤ _ from Nat.le_trans (by have := HNW.out; omega) HB_10.out.size)))
  clear HB_10
  have TS_11 := Lib.hid (TS_10.out.on hb)
  clear TS_10
  have TA_11 := Lib.hid (TA_10.out.on hb)
  clear TA_10
  have TP_11 := Lib.hid (TP_10.out.on hb)
  clear TP_10
  have TB_11 := Lib.hid (TB_10.out.on hb)
  clear TB_10
  have TC_11 : RowKit.Hid (Ad2 TCN v11 na nb) := Lib.hid (by rw [← hv, ← hTCN]; exact Ad2.new w10 na nb _)
  try rw [hTCN]
  clear hb hv hTCN
  obtain ⟨ta0, ta1, _, _⟩ := TA_11.out
  go_wp2_with fail
  refine (H7.out _).mono ?_
  rintro e w12 ⟨rfl, hb⟩
  have HB_12 := Lib.hid (HB_11.out.trans (hb.mono (show N ≤ _ from Nat.le_trans (by have := HNW.out; omega) HB_11.out.size)))
  clear HB_11
  have TS_12 := Lib.hid (TS_11.out.on hb)
  clear TS_11
  have TA_12 := Lib.hid (TA_11.out.on hb)
  clear TA_11
  have TP_12 := Lib.hid (TP_11.out.on hb)
  clear TP_11
  have TB_12 := Lib.hid (TB_11.out.on hb)
  clear TB_11
  have TC_12 := Lib.hid (TC_11.out.on hb)
  clear TC_11
  clear ta0 ta1
  clear hb
  go_upto_region 10 with fail
  obtain ⟨TDN, hTDN⟩ : ∃ M, w12.heap.size = M := ⟨_, rfl⟩
  generalize hv : World.alloc _ _ = v13
  have hb : Below w12.heap.size w12 v13 := by rw [← hv]; exact below_new _ _
  have HB_13 := Lib.hid (HB_12.out.trans (hb.mono (show N ≤ _ from Nat.le_trans (by have := HNW.out; omega) HB_12.out.size)))
  clear HB_12
  have TS_13 := Lib.hid (TS_12.out.on hb)
  clear TS_12
  have TA_13 := Lib.hid (TA_12.out.on hb)
  clear TA_12
  have TP_13 := Lib.hid (TP_12.out.on hb)
  clear TP_12
  have TB_13 := Lib.hid (TB_12.out.on hb)
  clear TB_12
  have TC_13 := Lib.hid (TC_12.out.on hb)
  clear TC_12
  have TD_13 : RowKit.Hid (Ad2 TDN v13 va vb) := Lib.hid (by rw [← hv, ← hTDN]; exact Ad2.new w12 va vb _)
  try rw [hTDN]
  clear hb hv hTDN
  obtain ⟨ta0, ta1, _, _⟩ := TA_13.out
  go_wp2_with fail
  refine (H8.out _).mono ?_
  rintro e w14 ⟨rfl, hb⟩
  have HB_14 := Lib.hid (HB_13.out.trans (hb.mono (show N ≤ _ from Nat.le_trans (by have := HNW.out; omega) HB_13.out.size)))
  clear HB_13
  have TS_14 := Lib.hid (TS_13.out.on hb)
  clear TS_13
  have TA_14 := Lib.hid (TA_13.out.on hb)
  clear TA_13
  have TP_14 := Lib.hid (TP_13.out.on hb)
  clear TP_13
  have TB_14 := Lib.hid (TB_13.out.on hb)
  clear TB_13
  have TC_14 := Lib.hid (TC_13.out.on hb)
  clear TC_13
  have TD_14 := Lib.hid (TD_13.out.on hb)
  clear TD_13
  clear ta0 ta1
  clear hb
  go_upto_region 11 with fail
  obtain ⟨TUN, hTUN⟩ : ∃ M, w14.heap.size = M := ⟨_, rfl⟩
  generalize hv : World.alloc _ _ = v15
  have hb : Below w14.heap.size w14 v15 := by rw [← hv]; exact below_new _ _
  have HB_15 := Lib.hid (HB_14.out.trans (hb.mono (show N ≤ _ from Nat.le_trans (by have := HNW.out; omega) HB_14.out.size)))
  clear HB_14
  have TS_15 := Lib.hid (TS_14.out.on hb)
  clear TS_14
  have TA_15 := Lib.hid (TA_14.out.on hb)
  clear TA_14
  have TP_15 := Lib.hid (TP_14.out.on hb)
  clear TP_14
  have TB_15 := Lib.hid (TB_14.out.on hb)
  clear TB_14
  have TC_15 := Lib.hid (TC_14.out.on hb)
  clear TC_14
  have TD_15 := Lib.hid (TD_14.out.on hb)
  clear TD_14
  have TU_15 : RowKit.Hid (Ad2 TUN v15 va vb) := Lib.hid (by rw [← hv, ← hTUN]; exact Ad2.new w14 va vb _)
  try rw [hTUN]
  clear hb hv hTUN
  obtain ⟨tb0, tb1, _, _⟩ := TB_15.out
  obtain ⟨tc0, tc1, _, _⟩ := TC_15.out
  obtain ⟨td0, td1, _, _⟩ := TD_15.out
  obtain ⟨tu0, tu1, _, _⟩ := TU_15.out
  obtain ⟨ts0, ts1, ts2, ts3, _⟩ := TS_15.out
  have zTB := TB_15.out.lt
  have zTC := TC_15.out.lt
  have zTD := TD_15.out.lt
  have zTU := TU_15.out.lt
  have zTS := TS_15.out.lt
  go_region_held3 (fun z => z.cell? ⟨TBN, 0, none⟩ = some (.int .u64 na) ∧ z.cell? ⟨TBN, 1, none⟩ = some (.int .u64 nb) ∧ z.cell? ⟨TCN, 0, none⟩ = some (.int .u64 na) ∧ z.cell? ⟨TCN, 1, none⟩ = some (.int .u64 nb) ∧ z.cell? ⟨TDN, 0, none⟩ = some (.int .u64 va) ∧ z.cell? ⟨TDN, 1, none⟩ = some (.int .u64 vb) ∧ z.cell? ⟨TUN, 0, none⟩ = some (.int .u64 va) ∧ z.cell? ⟨TUN, 1, none⟩ = some (.int .u64 vb) ∧ z.cell? ⟨N, 0, none⟩ = some (.int .u64 a) ∧ z.cell? ⟨N, 1, none⟩ = some (.int .u64 b) ∧ z.cell? ⟨N, 2, none⟩ = some (.int .u64 c) ∧ z.cell? ⟨N, 3, none⟩ = some (.int .u64 d))
    (first | exact ⟨tb0, tb1, tc0, tc1, td0, td1, tu0, tu1, ts0, ts1, ts2, ts3⟩ | exact ⟨(hcp _ _ zTB).trans tb0, (hcp _ _ zTB).trans tb1, (hcp _ _ zTC).trans tc0, (hcp _ _ zTC).trans tc1, (hcp _ _ zTD).trans td0, (hcp _ _ zTD).trans td1, (hcp _ _ zTU).trans tu0, (hcp _ _ zTU).trans tu1, (hcp _ _ zTS).trans ts0, (hcp _ _ zTS).trans ts1, (hcp _ _ zTS).trans ts2, (hcp _ _ zTS).trans ts3⟩ | exact ⟨(hcq _ _ yTB).trans ((hcp _ _ zTB).trans tb0), (hcq _ _ yTB).trans ((hcp _ _ zTB).trans tb1), (hcq _ _ yTC).trans ((hcp _ _ zTC).trans tc0), (hcq _ _ yTC).trans ((hcp _ _ zTC).trans tc1), (hcq _ _ yTD).trans ((hcp _ _ zTD).trans td0), (hcq _ _ yTD).trans ((hcp _ _ zTD).trans td1), (hcq _ _ yTU).trans ((hcp _ _ zTU).trans tu0), (hcq _ _ yTU).trans ((hcp _ _ zTU).trans tu1), (hcq _ _ yTS).trans ((hcp _ _ zTS).trans ts0), (hcq _ _ yTS).trans ((hcp _ _ zTS).trans ts1), (hcq _ _ yTS).trans ((hcp _ _ zTS).trans ts2), (hcq _ _ yTS).trans ((hcp _ _ zTS).trans ts3)⟩)
    (first | (go_at_call 13; refine (H9.out _).mono ?_; rintro e wp ⟨rfl, hbwp⟩; obtain ⟨hcp, hfp⟩ := bcellD hbwp; have yTB : TBN < wp.heap.size := (by (have := hbwp.size; (try simp at this); omega)); have yTC : TCN < wp.heap.size := (by (have := hbwp.size; (try simp at this); omega)); have yTD : TDN < wp.heap.size := (by (have := hbwp.size; (try simp at this); omega)); have yTU : TUN < wp.heap.size := (by (have := hbwp.size; (try simp at this); omega)); have yTS : N < wp.heap.size := (by (have := hbwp.size; (try simp at this); omega))) | (go_at_call 14; refine (H10.out _).mono ?_; rintro e wq ⟨rfl, hbwq⟩; obtain ⟨hcq, hfq⟩ := bcell hbwq))
  have HV := Lib.hid ((((Below.refl v15.heap.size v15).drew).trans hbwp).trans (hbwq.mono (show v15.heap.size ≤ wp.heap.size by have := hbwp.size; simpa using this)))
  clear hcp hcq hfp hfq hbwp hbwq yTB yTC yTD yTU yTS
  go_wp2_with fail
  go_ret
  have hfin := HB_15.out.trans (HV.out.mono (show N ≤ v15.heap.size from Nat.le_trans (by have := HNW.out; omega) HB_15.out.size))
  rw [← HNW.out] at hfin
  exact ⟨rfl, hfin⟩
end Go.Proofs.Ytjngfieggacpiaa
