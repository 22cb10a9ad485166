/-
  THE WALK over the reference of layer 9: Parse.
-/
import Derived.Test.YthagoafcphaadaaDoorLocRG
import Derived.Test.YthagoafcphaadaaDoorLocRN
import Derived.StillTailTactics
import Derived.IntWalk
namespace Go.Proofs.YthagoafcphaadaaDoor
open Go.RowKit Lo
set_option linter.unusedVariables false
set_option linter.unusedSimpArgs false
/-- the blocks of the reference's Parse: its result, and the locator in the making behind it -/
structure PB (w : World) (N S : Nat) (H : List UInt8) (p : Int) (P : List (List UInt8)) (d : Bool) (v : Value) (V : World) : Prop where
  bl : Below N w V
  hN : V.heap[N]? = some (.cells zeroL 24 (0, 0))
  mm : V.heap[N + 1]? = some (.cells #[.int .u8 S, .string (str H), .int .i64 p, v, .bool d] 24 (0, 0))
  own : V.ownsRow (N + 2) 9 1 v P.length (strsV P)
  sz : N + 2 ≤ V.heap.size
section
variable {w V V' : World} {N S : Nat} {H : List UInt8} {p : Int} {P : List (List UInt8)} {d : Bool} {v : Value}
theorem PB.on (h : PB w N S H p P d v V) (hb : Below V.heap.size V V') : PB w N S H p P d v V' := ⟨h.bl.trans (hb.mono (by have := h.sz; omega)), row_on h.hN hb, row_on h.mm hb, own_on h.own hb, Nat.le_trans h.sz hb.size⟩
theorem PB.set0 (h : PB w N S H p P d v V) (x : Nat) : PB w N x H p P d v (V.setCell ⟨N + 1, 0, none⟩ (.int .u8 x)) :=
  ⟨h.bl.setCell (Nat.le_succ _) _, row_far h.hN (by omega), heap_setCell_same _ _ _ _ _ _ h.mm, own_set (by omega) h.own _ _, by have := h.sz; simpa [World.setCell] using this⟩
theorem PB.set1 (h : PB w N S H p P d v V) (x : List UInt8) : PB w N S x p P d v (V.setCell ⟨N + 1, 1, none⟩ (.string (str x))) :=
  ⟨h.bl.setCell (Nat.le_succ _) _, row_far h.hN (by omega), heap_setCell_same _ _ _ _ _ _ h.mm, own_set (by omega) h.own _ _, by have := h.sz; simpa [World.setCell] using this⟩
theorem PB.set2 (h : PB w N S H p P d v V) (x : Int) : PB w N S H x P d v (V.setCell ⟨N + 1, 2, none⟩ (.int .i64 x)) :=
  ⟨h.bl.setCell (Nat.le_succ _) _, row_far h.hN (by omega), heap_setCell_same _ _ _ _ _ _ h.mm, own_set (by omega) h.own _ _, by have := h.sz; simpa [World.setCell] using this⟩
theorem PB.set4 (h : PB w N S H p P d v V) (x : Bool) : PB w N S H p P x v (V.setCell ⟨N + 1, 4, none⟩ (.bool x)) :=
  ⟨h.bl.setCell (Nat.le_succ _) _, row_far h.hN (by omega), heap_setCell_same _ _ _ _ _ _ h.mm, own_set (by omega) h.own _ _, by have := h.sz; simpa [World.setCell] using this⟩
/-- an element appended; the list put back -/
theorem PB.grown {v7 : Value} {cc : List UInt8} (h : PB w N S H p P d v V) (o : V'.ownsRow (N + 2) 9 1 v7 (P.length + 1) (strsV P ++ [.string (str cc)])) (g : V.grownBy V' v.ownBlock) :
    V'.heap[N + 1]? = some (.cells #[.int .u8 S, .string (str H), .int .i64 p, v, .bool d] 24 (0, 0)) ∧ PB w N S H p (P ++ [cc]) d v7 (V'.setCell ⟨N + 1, 3, none⟩ v7) := by
  have lo : ∀ k, v.ownBlock = some k → N + 2 ≤ k := fun k hk => (own_blk h.own hk).1
  have hM : V'.heap[N + 1]? = some (.cells #[.int .u8 S, .string (str H), .int .i64 p, v, .bool d] 24 (0, 0)) := (g.block (N + 1) (row_lt h.mm) (fun e => by have := lo _ e.symm; omega)).trans h.mm
  have hN2 : V'.heap[N]? = _ := (g.block N (row_lt h.hN) (fun e => by have := lo _ e.symm; omega)).trans h.hN
  have o2 : V'.ownsRow (N + 2) 9 1 v7 (P ++ [cc]).length (strsV (P ++ [cc])) := by rw [strsV_snoc, List.length_append]; exact o
  have hsz := h.sz
  refine ⟨hM, (h.bl.grown g (by omega) (fun k hk => by have := lo k hk; omega)).setCell (Nat.le_succ _) _, row_far hN2 (by omega), heap_setCell_same _ _ _ _ _ _ hM, own_set (by omega) o2 _ _, ?_⟩
  have h2 := g.size
  have h3 : (V'.setCell ⟨N + 1, 3, none⟩ v7).heap.size = V'.heap.size := by simp [World.setCell]
  omega
end
theorem pb_new (w : World) : PB w w.heap.size 0 [] 0 [] false (.slice none 0 0) ((w.alloc (.cells zeroL 24)).alloc (.cells zeroL 24)) := by
  obtain ⟨h1, h2, h3⟩ := box_and w (.int .u8 0) (.string ⟨#[]⟩) (.int .i64 0) (.slice none 0 0) (.bool false) (.int .u8 0) (.string ⟨#[]⟩) (.int .i64 0) (.slice none 0 0) (.bool false)
  exact ⟨h1, h2, h3, World.ownsRow_nil _ _ _ _, by simp⟩
set_option maxRecDepth 100000 in
set_option maxHeartbeats 16000000 in
theorem rparse_else (s : List UInt8) (w : World) (h9 : 9 ≤ s.length) (h200 : s.length ≤ 200) (hp1 : s.take 8 ≠ pre 1) (hp2 : s.take 8 ≠ pre 2) :
    Calls Tryd.prog 17 #[.string (str s)] w (PPost s w) := by
  have HF : RowKit.Hid (∀ l, parseL s = some l → Fnd s (un 58 47 s 8) (un 47 47 s (un 58 47 s 8)) l) := Lib.hid (fun l hl => fnd_of hl)
  have HNO0 : RowKit.Hid ((∀ l, parseL s = some l → False) → parseL s = none) := Lib.hid (fun h => by
    cases hq : parseL s with
    | none => rfl
    | some l => exact absurd (h l hq) id)
  have HAT : RowKit.Hid (∀ k, (h : k < (str s).size) → s[k]? = some ((str s)[k]'h)) := Lib.hid (fun k h => by
    have h2 : k < s.length := by rw [str_size] at h; exact h
    rw [List.getElem?_eq_getElem h2]
    rfl)
  have hpb := pb_new w
  go_enter Tryd.func17, Tryd.ntmps17
  go_upto_region 2 with (fail)
  generalize hv2 : World.alloc (World.alloc w _) _ = v2
  have HB2 := Lib.hid (show PB w w.heap.size 0 [] 0 [] false (.slice none 0 0) v2 by rw [← hv2]; exact hpb)
  clear hv2 hpb
  obtain ⟨N, hN⟩ : ∃ N, w.heap.size = N := ⟨_, rfl⟩
  have HNN := Lib.hid hN
  rw [hN] at HB2
  try simp only [hN]
  clear hN
  have i9 : ¬ ((str s).size : Int) < 9 := by rw [str_size]; omega
  have i200 : ¬ ((str s).size : Int) > 200 := by rw [str_size]; omega
  have h8 : (8 : Int) ≤ ((str s).size : Int) := by rw [str_size]; omega
  have HPN : RowKit.Hid (parseL s = none) := Lib.hid (HNO0.out (fun l hl => by
    rcases (HF.out l hl).sch with h | h
    · exact hp1 h.2
    · exact hp2 h.2))
  have heq : ∀ z : List UInt8, ((str (s.take 8)).toList == z) = decide (s.take 8 = z) := fun z => by rw [eqS, str_dat]
  have HEX0 : RowKit.Hid ((str s).extract 0 8 = str (s.take 8)) := Lib.hid (by rw [ext_str9]; rfl)
  have j1 := (heq [114, 115, 121, 110, 99, 58, 47, 47]).trans (decide_eq_false hp1)
  have j2 := (heq [104, 116, 116, 112, 115, 58, 47, 47]).trans (decide_eq_false hp2)
  generalize s.take 8 = X at HEX0 j1 j2
  clear heq hp1 hp2
  go_upto_region 6 with (fail)
  rw [HEX0.out]
  obtain ⟨gz, g0, g1, g2, g3, g4, k0, k1, k2, k3, k4⟩ := locfacts (a := .int .u8 0) (b := .string ⟨#[]⟩) (c := .int .i64 0) (d := .slice none 0 0) (e := .bool false) HB2.out.hN
  go_wp2_with fail
  have B := five_row (v0 := .int .u8 0) (v1 := .string ⟨#[]⟩) (v2 := .int .i64 0) (v3 := .slice none 0 0) (v4 := .bool false) (a := .int .u8 0) (b := .string ⟨#[]⟩) (c := .int .i64 0) (d := .slice none 0 0) (e := .bool false) HB2.out.hN
  have HBX := Lib.hid (below_at5 HB2.out.bl (Nat.le_refl _) (.int .u8 0) (.string ⟨#[]⟩) (.int .i64 0) (.slice none 0 0) (.bool false))
  generalize hfin : World.setCell (World.setCell (World.setCell (World.setCell (World.setCell _ _ _) _ _) _ _) _ _) _ _ = fin at B HBX ⊢
  clear hfin
  obtain ⟨-, b0, b1, b2, b3, b4, -, -, -, -, -⟩ := locfacts B
  refine bodyPost_ret (v := .tuple #[.agg #[.int .u8 0, .string ⟨#[]⟩, .int .i64 0, .slice none 0 0, .bool false], .int .i64 12]) (by simp [results, Tryd.results17, go_sem, b0, b1, b2, b3, b4]) rfl (bad_post HPN.out (by rw [HNN.out]; exact HBX.out))
set_option maxRecDepth 100000 in
set_option maxHeartbeats 16000000 in
theorem rparse_long (s : List UInt8) (w : World) (h200 : ¬ s.length ≤ 200) (hs : s.length < 4294967281) :
    Calls Tryd.prog 17 #[.string (str s)] w (PPost s w) := by
  have HF : RowKit.Hid (∀ l, parseL s = some l → Fnd s (un 58 47 s 8) (un 47 47 s (un 58 47 s 8)) l) := Lib.hid (fun l hl => fnd_of hl)
  have HNO0 : RowKit.Hid ((∀ l, parseL s = some l → False) → parseL s = none) := Lib.hid (fun h => by
    cases hq : parseL s with
    | none => rfl
    | some l => exact absurd (h l hq) id)
  have HAT : RowKit.Hid (∀ k, (h : k < (str s).size) → s[k]? = some ((str s)[k]'h)) := Lib.hid (fun k h => by
    have h2 : k < s.length := by rw [str_size] at h; exact h
    rw [List.getElem?_eq_getElem h2]
    rfl)
  have hpb := pb_new w
  go_enter Tryd.func17, Tryd.ntmps17
  go_upto_region 2 with (fail)
  generalize hv2 : World.alloc (World.alloc w _) _ = v2
  have HB2 := Lib.hid (show PB w w.heap.size 0 [] 0 [] false (.slice none 0 0) v2 by rw [← hv2]; exact hpb)
  clear hv2 hpb
  obtain ⟨N, hN⟩ : ∃ N, w.heap.size = N := ⟨_, rfl⟩
  have HNN := Lib.hid hN
  rw [hN] at HB2
  try simp only [hN]
  clear hN
  have i9 : ¬ ((str s).size : Int) < 9 := by rw [str_size]; omega
  have i200 : ((str s).size : Int) > 200 := by rw [str_size]; omega
  have HPN : RowKit.Hid (parseL s = none) := Lib.hid (HNO0.out (fun l hl => h200 (HF.out l hl).l200))
  obtain ⟨hz, m0, m1, m2, m3, m4, -, -, -, -, -⟩ := locfacts (b := .string ⟨#[]⟩) HB2.out.mm
  obtain ⟨gz, g0, g1, g2, g3, g4, k0, k1, k2, k3, k4⟩ := locfacts (a := .int .u8 0) (b := .string ⟨#[]⟩) (c := .int .i64 0) (d := .slice none 0 0) (e := .bool false) HB2.out.hN
  go_wp2_with fail
  have B := five_row (v0 := .int .u8 0) (v1 := .string ⟨#[]⟩) (v2 := .int .i64 0) (v3 := .slice none 0 0) (v4 := .bool false) (a := .int .u8 0) (b := .string ⟨#[]⟩) (c := .int .i64 0) (d := .slice none 0 0) (e := .bool false) HB2.out.hN
  have HBX := Lib.hid (below_at5 HB2.out.bl (Nat.le_refl _) (.int .u8 0) (.string ⟨#[]⟩) (.int .i64 0) (.slice none 0 0) (.bool false))
  generalize hfin : World.setCell (World.setCell (World.setCell (World.setCell (World.setCell _ _ _) _ _) _ _) _ _) _ _ = fin at B HBX ⊢
  clear hfin
  obtain ⟨-, b0, b1, b2, b3, b4, -, -, -, -, -⟩ := locfacts B
  refine bodyPost_ret (v := .tuple #[.agg #[.int .u8 0, .string ⟨#[]⟩, .int .i64 0, .slice none 0 0, .bool false], .int .i64 12]) (by simp [results, Tryd.results17, go_sem, b0, b1, b2, b3, b4]) rfl (bad_post HPN.out (by rw [HNN.out]; exact HBX.out))
set_option maxRecDepth 100000 in
set_option maxHeartbeats 16000000 in
theorem rparse_short (s : List UInt8) (w : World) (h9 : ¬ 9 ≤ s.length) :
    Calls Tryd.prog 17 #[.string (str s)] w (PPost s w) := by
  have HF : RowKit.Hid (∀ l, parseL s = some l → Fnd s (un 58 47 s 8) (un 47 47 s (un 58 47 s 8)) l) := Lib.hid (fun l hl => fnd_of hl)
  have HNO0 : RowKit.Hid ((∀ l, parseL s = some l → False) → parseL s = none) := Lib.hid (fun h => by
    cases hq : parseL s with
    | none => rfl
    | some l => exact absurd (h l hq) id)
  have HAT : RowKit.Hid (∀ k, (h : k < (str s).size) → s[k]? = some ((str s)[k]'h)) := Lib.hid (fun k h => by
    have h2 : k < s.length := by rw [str_size] at h; exact h
    rw [List.getElem?_eq_getElem h2]
    rfl)
  have hpb := pb_new w
  go_enter Tryd.func17, Tryd.ntmps17
  go_upto_region 2 with (fail)
  generalize hv2 : World.alloc (World.alloc w _) _ = v2
  have HB2 := Lib.hid (show PB w w.heap.size 0 [] 0 [] false (.slice none 0 0) v2 by rw [← hv2]; exact hpb)
  clear hv2 hpb
  obtain ⟨N, hN⟩ : ∃ N, w.heap.size = N := ⟨_, rfl⟩
  have HNN := Lib.hid hN
  rw [hN] at HB2
  try simp only [hN]
  clear hN
  have i9 : ((str s).size : Int) < 9 := by rw [str_size]; omega
  have HPN : RowKit.Hid (parseL s = none) := Lib.hid (HNO0.out (fun l hl => h9 (HF.out l hl).l9))
  obtain ⟨hz, m0, m1, m2, m3, m4, -, -, -, -, -⟩ := locfacts (b := .string ⟨#[]⟩) HB2.out.mm
  obtain ⟨gz, g0, g1, g2, g3, g4, k0, k1, k2, k3, k4⟩ := locfacts (a := .int .u8 0) (b := .string ⟨#[]⟩) (c := .int .i64 0) (d := .slice none 0 0) (e := .bool false) HB2.out.hN
  go_wp2_with fail
  have B := five_row (v0 := .int .u8 0) (v1 := .string ⟨#[]⟩) (v2 := .int .i64 0) (v3 := .slice none 0 0) (v4 := .bool false) (a := .int .u8 0) (b := .string ⟨#[]⟩) (c := .int .i64 0) (d := .slice none 0 0) (e := .bool false) HB2.out.hN
  have HBX := Lib.hid (below_at5 HB2.out.bl (Nat.le_refl _) (.int .u8 0) (.string ⟨#[]⟩) (.int .i64 0) (.slice none 0 0) (.bool false))
  generalize hfin : World.setCell (World.setCell (World.setCell (World.setCell (World.setCell _ _ _) _ _) _ _) _ _) _ _ = fin at B HBX ⊢
  clear hfin
  obtain ⟨-, b0, b1, b2, b3, b4, -, -, -, -, -⟩ := locfacts B
  refine bodyPost_ret (v := .tuple #[.agg #[.int .u8 0, .string ⟨#[]⟩, .int .i64 0, .slice none 0 0, .bool false], .int .i64 12]) (by simp [results, Tryd.results17, go_sem, b0, b1, b2, b3, b4]) rfl (bad_post HPN.out (by rw [HNN.out]; exact HBX.out))
end Go.Proofs.YthagoafcphaadaaDoor
