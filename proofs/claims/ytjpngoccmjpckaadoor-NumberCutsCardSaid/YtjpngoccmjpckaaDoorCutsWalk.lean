/-
  THE WALK over NumberCuts.
-/
import Derived.Test.YtjpngoccmjpckaaDoorOrderWalk
import Derived.Test.YtjpngoccmjpckaaDoorCutsMath
namespace Go.Proofs.YtjpngoccmjpckaaDoor
open Go.RowKit Adr
set_option linter.unusedVariables false
theorem u64_cut {f h l n : Int} (uh : U64 h) (ul : U64 l) : U64 (clrH h (wid f - n)) ∧ U64 (clrL l (wid f - n)) := by
  constructor
  · unfold clrH
    split
    · exact clr_le h _ uh
    · exact uh
  · unfold clrL
    split
    · exact ⟨by omega, by omega⟩
    · exact clr_le l _ ul
set_option maxRecDepth 100000 in
set_option maxHeartbeats 2000000 in
theorem cuts_no (f h l n o : Int) (w : World) (env : Env w) (uh : U64 h) (ul : U64 l) (c : cutOk f h l n = false) :
    Calls Tryd.prog 6 #[.int .u8 f, .agg #[.int .u64 h, .int .u64 l], .int .i64 n, .int .i64 o] w fun e w' => e = .returned (.bool true) ∧ Below w.heap.size w w' := by
  have hG := env.big
  have HE := Lib.hid env
  have Ul := Lib.hid ul
  have Hc := Lib.hid c
  clear env uh ul c
  go_enter Tryd.func6, Tryd.ntmps6
  go_wp2_with fail
  generalize hv : World.alloc _ _ = v
  have a0 : v.cell? ⟨w.heap.size, 0, none⟩ = some (.int .u64 h) := by rw [← hv]; exact (World.cell?_alloc_at _ _ _ _ rfl).trans rfl
  have a1 : v.cell? ⟨w.heap.size, 1, none⟩ = some (.int .u64 l) := by rw [← hv]; exact (World.cell?_alloc_at _ _ _ _ rfl).trans rfl
  have HB := Lib.hid (show Below w.heap.size w v by rw [← hv]; exact (Below.refl _ _).alloc (Nat.le_refl _) _)
  clear hv
  refine (alive_any v (HE.out.below HB.out hG)).mono ?_
  rintro e w1 ⟨rfl, hb1⟩
  have az := World.block_lt_of_cell? _ _ a0
  have HB1 := Lib.hid (HB.out.trans (hb1.mono HB.out.size))
  have b0 := (hb1.cell (p := ⟨w.heap.size, 0, none⟩) az).trans a0
  have b1 := (hb1.cell (p := ⟨w.heap.size, 1, none⟩) az).trans a1
  clear hb1 a0 a1 az HB
  go_wp2_with fail
  refine (cut_no _ _ _ _ _ Ul.out Hc.out).mono ?_
  rintro e w2 ⟨rfl, hb2⟩
  have HB2 := Lib.hid (HB1.out.trans (hb2.mono HB1.out.size))
  clear hb2 b0 b1 HB1
  go_wp2_with fail
  go_ret
  exact ⟨rfl, HB2.out.trans (((Below.refl _ _).alloc (Nat.le_refl _) _).mono HB2.out.size)⟩
/-- the address and its cut lie in two blocks -/
structure Two (N B : Nat) (W : World) (h l f ph pl n : Int) : Prop where
  a0 : W.cell? ⟨N, 0, none⟩ = some (.int .u64 h)
  a1 : W.cell? ⟨N, 1, none⟩ = some (.int .u64 l)
  c0 : W.cell? ⟨B, 0, none⟩ = some (.int .u8 f)
  c1 : W.cell? ⟨B, 1, none⟩ = some (.int .u64 ph)
  c2 : W.cell? ⟨B, 2, none⟩ = some (.int .u64 pl)
  c3 : W.cell? ⟨B, 3, none⟩ = some (.int .i64 n)
theorem Two.on {N B : Nat} {W W' : World} {h l f ph pl n : Int} (t : Two N B W h l f ph pl n) (hb : Below W.heap.size W W') : Two N B W' h l f ph pl n := by
  have z0 := World.block_lt_of_cell? _ _ t.a0
  have z1 := World.block_lt_of_cell? _ _ t.c0
  exact ⟨(hb.cell (p := ⟨N, 0, none⟩) z0).trans t.a0, (hb.cell (p := ⟨N, 1, none⟩) z0).trans t.a1, (hb.cell (p := ⟨B, 0, none⟩) z1).trans t.c0, (hb.cell (p := ⟨B, 1, none⟩) z1).trans t.c1, (hb.cell (p := ⟨B, 2, none⟩) z1).trans t.c2, (hb.cell (p := ⟨B, 3, none⟩) z1).trans t.c3⟩
/-- a prefix lies in a block -/
structure One (D : Nat) (W : World) (f h l n : Int) : Prop where
  e0 : W.cell? ⟨D, 0, none⟩ = some (.int .u8 f)
  e1 : W.cell? ⟨D, 1, none⟩ = some (.int .u64 h)
  e2 : W.cell? ⟨D, 2, none⟩ = some (.int .u64 l)
  e3 : W.cell? ⟨D, 3, none⟩ = some (.int .i64 n)
theorem One.on {D : Nat} {W W' : World} {f h l n : Int} (t : One D W f h l n) (hb : Below W.heap.size W W') : One D W' f h l n := by
  have z0 := World.block_lt_of_cell? _ _ t.e0
  exact ⟨(hb.cell (p := ⟨D, 0, none⟩) z0).trans t.e0, (hb.cell (p := ⟨D, 1, none⟩) z0).trans t.e1, (hb.cell (p := ⟨D, 2, none⟩) z0).trans t.e2, (hb.cell (p := ⟨D, 3, none⟩) z0).trans t.e3⟩
/-- a fresh block: nothing that was there has turned -/
theorem below_alloc (W : World) (o : Obj) : Below W.heap.size W (W.alloc o) := (Below.refl _ _).alloc (Nat.le_refl _) _
abbrev ad (h l : Int) : Value := .agg #[.int .u64 h, .int .u64 l]
set_option maxRecDepth 100000 in
set_option maxHeartbeats 4000000 in
theorem cuts_core (f h l n o ph pl qf qh ql qn eo Wi : Int) (W : Nat) (x y : Nat → Int) (w : World) (env : Env w) (hf : (f = 4 ∧ W = 32 ∧ Wi = 32) ∨ (f = 6 ∧ W = 128 ∧ Wi = 128))
    (h1 : ∀ w, Calls Tryd.prog 12 #[.int .u8 f, ad h l, .int .i64 n] w fun e w' => e = .returned (.tuple #[pv f ph pl n, .int .i64 0]) ∧ Below w.heap.size w w')
    (h2 : ∀ w, Calls Tryd.prog 12 #[.int .u8 f, ad h l, .int .i64 Wi] w fun e w' => e = .returned (.tuple #[pv f h l Wi, .int .i64 0]) ∧ Below w.heap.size w w')
    (h3 : ∀ w, Calls Tryd.prog 12 #[.int .u8 f, ad h l, .int .i64 o] w fun e w' => e = .returned (.tuple #[pv qf qh ql qn, .int .i64 eo]) ∧ Below w.heap.size w w')
    (h4 : Says 13 #[pv f ph pl n] 0)
    (h5 : Tells 16 #[pv f ph pl n, pv f h l Wi] true)
    (h6 : eo = 0 → Tells 16 #[pv f ph pl n, pv qf qh ql qn] (decide (n ≤ o)))
    (h7 : ∀ k : Nat, k < W → ∀ w, Calls Tryd.prog 11 #[.int .u8 f, ad h l, .int .i64 k] w fun e w' => e = .returned (.tuple #[.int .i64 (x k), .int .i64 0]) ∧ Below w.heap.size w w')
    (h8 : ∀ k : Nat, k < W → ∀ w, Calls Tryd.prog 11 #[.int .u8 f, ad ph pl, .int .i64 k] w fun e w' => e = .returned (.tuple #[.int .i64 (y k), .int .i64 0]) ∧ Below w.heap.size w w')
    (hx : ∀ k : Nat, k < W → x k = 0 ∨ x k = 1) (hy : ∀ k : Nat, k < W → y k = if (k : Int) < n then x k else 0) :
    Calls Tryd.prog 6 #[.int .u8 f, ad h l, .int .i64 n, .int .i64 o] w fun e w' => e = .returned (.bool true) ∧ Below w.heap.size w w' := by
  have hG := env.big
  have HE := Lib.hid env
  have H1 := Lib.hid h1
  have H2 := Lib.hid h2
  have H3 := Lib.hid h3
  have H4 := Lib.hid h4
  have H5 := Lib.hid h5
  have H6 := Lib.hid h6
  have H7 := Lib.hid h7
  have H8 := Lib.hid h8
  have HX := Lib.hid hx
  have HY := Lib.hid hy
  clear env h1 h2 h3 h4 h5 h6 h7 h8 hx hy
  rcases hf with ⟨rfl, rfl, rfl⟩ | ⟨rfl, rfl, rfl⟩
  · go_enter Tryd.func6, Tryd.ntmps6
    go_wp2_with fail
    generalize hv : World.alloc _ _ = v
    have a0 : v.cell? ⟨w.heap.size, 0, none⟩ = some (.int .u64 h) := by rw [← hv]; exact (World.cell?_alloc_at _ _ _ _ rfl).trans rfl
    have a1 : v.cell? ⟨w.heap.size, 1, none⟩ = some (.int .u64 l) := by rw [← hv]; exact (World.cell?_alloc_at _ _ _ _ rfl).trans rfl
    have HB := Lib.hid (show Below w.heap.size w v by rw [← hv]; exact (Below.refl _ _).alloc (Nat.le_refl _) _)
    clear hv
    refine (alive_any v (HE.out.below HB.out hG)).mono ?_
    rintro e w1 ⟨rfl, hb1⟩
    have az := World.block_lt_of_cell? _ _ a0
    have HB1 := Lib.hid (HB.out.trans (hb1.mono HB.out.size))
    have b0 := (hb1.cell (p := ⟨w.heap.size, 0, none⟩) az).trans a0
    have b1 := (hb1.cell (p := ⟨w.heap.size, 1, none⟩) az).trans a1
    clear hb1 a0 a1 az HB
    go_wp2_with fail
    with_reducible refine (H1.out _).mono ?_
    rintro e w2 ⟨rfl, hb2⟩
    have bz := World.block_lt_of_cell? _ _ b0
    have HB2 := Lib.hid (HB1.out.trans (hb2.mono HB1.out.size))
    have d0 := (hb2.cell (p := ⟨w.heap.size, 0, none⟩) bz).trans b0
    have d1 := (hb2.cell (p := ⟨w.heap.size, 1, none⟩) bz).trans b1
    have dz := World.block_lt_of_cell? _ _ d0
    clear hb2 b0 b1 bz HB1
    go_wp2_with fail
    obtain ⟨B, hB⟩ : ∃ B, w2.heap.size = B := ⟨_, rfl⟩
    generalize hv : World.alloc _ _ = v2
    have HT : RowKit.Hid (Two w.heap.size B v2 h l 4 ph pl n) := Lib.hid (by
      rw [← hv]
      exact ⟨Lib.cell?_alloc_some _ d0, Lib.cell?_alloc_some _ d1, (World.cell?_alloc_at _ _ _ _ hB.symm).trans rfl, (World.cell?_alloc_at _ _ _ _ hB.symm).trans rfl, (World.cell?_alloc_at _ _ _ _ hB.symm).trans rfl, (World.cell?_alloc_at _ _ _ _ hB.symm).trans rfl⟩)
    have HB := Lib.hid (show Below w.heap.size w v2 by rw [← hv]; exact HB2.out.trans ((below_alloc _ _).mono HB2.out.size))
    clear hv d0 d1 dz HB2
    try rw [hB]
    clear hB
    with_reducible refine (H2.out _).mono ?_
    rintro e w3 ⟨rfl, hb3⟩
    have HT3 := Lib.hid (HT.out.on hb3)
    have HB3 := Lib.hid (HB.out.trans (hb3.mono HB.out.size))
    clear HT HB hb3
    obtain ⟨a0, a1, c0, c1, c2, c3⟩ := HT3.out
    have z0 := World.block_lt_of_cell? _ _ a0
    have z1 := World.block_lt_of_cell? _ _ c0
    go_wp2_with fail
    obtain ⟨D, hD⟩ : ∃ D, w3.heap.size = D := ⟨_, rfl⟩
    generalize hv : World.alloc _ _ = v4
    have HT : RowKit.Hid (Two w.heap.size B v4 h l 4 ph pl n) := Lib.hid (by
      rw [← hv]
      exact HT3.out.on (below_alloc _ _))
    have HU : RowKit.Hid (One D v4 4 h l 32) := Lib.hid (by
      rw [← hv]
      exact ⟨(World.cell?_alloc_at _ _ _ _ hD.symm).trans rfl, (World.cell?_alloc_at _ _ _ _ hD.symm).trans rfl, (World.cell?_alloc_at _ _ _ _ hD.symm).trans rfl, (World.cell?_alloc_at _ _ _ _ hD.symm).trans rfl⟩)
    have HB := Lib.hid (show Below w.heap.size w v4 by rw [← hv]; exact HB3.out.trans ((below_alloc _ _).mono HB3.out.size))
    clear hv HT3 HB3 a0 a1 c0 c1 c2 c3 z0 z1
    try rw [hD]
    clear hD
    with_reducible refine (H4.out _).mono ?_
    rintro e w5 ⟨rfl, hb5⟩
    have HT5 := Lib.hid (HT.out.on hb5)
    have HU5 := Lib.hid (HU.out.on hb5)
    have HB5 := Lib.hid (HB.out.trans (hb5.mono HB.out.size))
    clear HT HU HB hb5
    obtain ⟨a0, a1, c0, c1, c2, c3⟩ := HT5.out
    obtain ⟨e0, e1, e2, e3⟩ := HU5.out
    go_wp2_with fail
    with_reducible refine (H5.out _).mono ?_
    rintro e w6 ⟨rfl, hb6⟩
    have HT := Lib.hid (HT5.out.on hb6)
    have HB := Lib.hid (HB5.out.trans (hb6.mono HB5.out.size))
    clear HT5 HU5 HB5 hb6 a0 a1 c0 c1 c2 c3 e0 e1 e2 e3
    obtain ⟨a0, a1, c0, c1, c2, c3⟩ := HT.out
    go_wp2_with fail
    clear a0 a1 c0 c1 c2 c3 H1 H2 H4 H5
    go_loopw [15] (fun i wr => ∃ k : Nat, k ≤ 32 ∧ i = .int .i64 k ∧ Below w.heap.size w wr ∧ Two w.heap.size B wr h l 4 ph pl n) (fun i _ => 32 - (intOf i).toNat)
    case atStart => exact ⟨0, by omega, rfl, HB.out, HT.out⟩
    case round =>
      obtain ⟨k, hk, rfl, hbel, htwo⟩ := hrel
      clear HT HB
      have HT := Lib.hid htwo
      have HB := Lib.hid hbel
      clear hbel htwo
      obtain ⟨a0, a1, c0, c1, c2, c3⟩ := HT.out
      by_cases hlt : k < 32
      · have hlt' : (k : Int) < 32 := by omega
        have hy := HY.out k hlt
        have H7k := Lib.hid (H7.out k hlt)
        have H8k := Lib.hid (H8.out k hlt)
        have hx := HX.out k hlt
        by_cases hkn : (k : Int) < n
        · rw [if_pos hkn] at hy
          rw [hy] at H8k
          have hkn' : ¬ n ≤ (k : Int) := by omega
          clear hy
          rcases hx with hx | hx
          all_goals (
            rw [hx] at H7k H8k
            clear hx
            go_wp2_with fail
            with_reducible refine (H7k.out _).mono ?_
            rintro e w7 ⟨rfl, hb7⟩
            have HT7 := Lib.hid (HT.out.on hb7)
            have HB7 := Lib.hid (HB.out.trans (hb7.mono HB.out.size))
            clear HT HB hb7 a0 a1 c0 c1 c2 c3
            obtain ⟨a0, a1, c0, c1, c2, c3⟩ := HT7.out
            go_wp2_with fail
            with_reducible refine (H8k.out _).mono ?_
            rintro e w8 ⟨rfl, hb8⟩
            have HT8 := Lib.hid (HT7.out.on hb8)
            have HB8 := Lib.hid (HB7.out.trans (hb8.mono HB7.out.size))
            clear HT7 HB7 hb8 a0 a1 c0 c1 c2 c3
            go_wp2_with fail
            go_roundw
            case rel => exact ⟨k + 1, by omega, by go_num, HB8.out, HT8.out⟩
            case measure => simp [intOf]; omega)
        · rw [if_neg hkn] at hy
          rw [hy] at H8k
          have hkn' : n ≤ (k : Int) := by omega
          clear hy
          rcases hx with hx | hx
          all_goals (
            rw [hx] at H7k
            clear hx
            go_wp2_with fail
            with_reducible refine (H7k.out _).mono ?_
            rintro e w7 ⟨rfl, hb7⟩
            have HT7 := Lib.hid (HT.out.on hb7)
            have HB7 := Lib.hid (HB.out.trans (hb7.mono HB.out.size))
            clear HT HB hb7 a0 a1 c0 c1 c2 c3
            obtain ⟨a0, a1, c0, c1, c2, c3⟩ := HT7.out
            go_wp2_with fail
            with_reducible refine (H8k.out _).mono ?_
            rintro e w8 ⟨rfl, hb8⟩
            have HT8 := Lib.hid (HT7.out.on hb8)
            have HB8 := Lib.hid (HB7.out.trans (hb8.mono HB7.out.size))
            clear HT7 HB7 hb8 a0 a1 c0 c1 c2 c3
            go_wp2_with fail
            go_roundw
            case rel => exact ⟨k + 1, by omega, by go_num, HB8.out, HT8.out⟩
            case measure => simp [intOf]; omega)
      · have e : k = 32 := by omega
        subst e
        go_wp2_with fail
        with_reducible refine (H3.out _).mono ?_
        rintro e w7 ⟨rfl, hb7⟩
        have HT7 := Lib.hid (HT.out.on hb7)
        have HB7 := Lib.hid (HB.out.trans (hb7.mono HB.out.size))
        clear HT HB hb7 a0 a1 c0 c1 c2 c3
        obtain ⟨a0, a1, c0, c1, c2, c3⟩ := HT7.out
        have z0 := World.block_lt_of_cell? _ _ a0
        have z1 := World.block_lt_of_cell? _ _ c0
        by_cases h0 : eo = 0
        · have h0' : (eo != 0) = false := by simp [h0]
          have H6o := Lib.hid (H6.out h0)
          by_cases hno : n ≤ o
          · rw [decide_eq_true hno] at H6o
            go_wp2_with fail
            with_reducible refine (H6o.out _).mono ?_
            rintro e w9 ⟨rfl, hb9⟩
            go_wp2_with fail
            go_ret
            exact ⟨rfl, (HB7.out.trans ((below_alloc _ _).mono HB7.out.size)).trans (hb9.mono (by have := HB7.out.size; simp; omega))⟩
          · rw [decide_eq_false hno] at H6o
            go_wp2_with fail
            with_reducible refine (H6o.out _).mono ?_
            rintro e w9 ⟨rfl, hb9⟩
            go_wp2_with fail
            go_ret
            exact ⟨by show Ending.returned (Value.bool (!decide (n ≤ o))) = _; rw [decide_eq_false (show ¬ n ≤ o by omega)]; rfl, (HB7.out.trans ((below_alloc _ _).mono HB7.out.size)).trans (hb9.mono (by have := HB7.out.size; simp; omega))⟩
        · have h0' : (eo != 0) = true := by simp [h0]
          go_wp2_with fail
          go_ret
          exact ⟨rfl, HB7.out.trans ((below_alloc _ _).mono HB7.out.size)⟩
  · go_enter Tryd.func6, Tryd.ntmps6
    go_wp2_with fail
    generalize hv : World.alloc _ _ = v
    have a0 : v.cell? ⟨w.heap.size, 0, none⟩ = some (.int .u64 h) := by rw [← hv]; exact (World.cell?_alloc_at _ _ _ _ rfl).trans rfl
    have a1 : v.cell? ⟨w.heap.size, 1, none⟩ = some (.int .u64 l) := by rw [← hv]; exact (World.cell?_alloc_at _ _ _ _ rfl).trans rfl
    have HB := Lib.hid (show Below w.heap.size w v by rw [← hv]; exact (Below.refl _ _).alloc (Nat.le_refl _) _)
    clear hv
    refine (alive_any v (HE.out.below HB.out hG)).mono ?_
    rintro e w1 ⟨rfl, hb1⟩
    have az := World.block_lt_of_cell? _ _ a0
    have HB1 := Lib.hid (HB.out.trans (hb1.mono HB.out.size))
    have b0 := (hb1.cell (p := ⟨w.heap.size, 0, none⟩) az).trans a0
    have b1 := (hb1.cell (p := ⟨w.heap.size, 1, none⟩) az).trans a1
    clear hb1 a0 a1 az HB
    go_wp2_with fail
    with_reducible refine (H1.out _).mono ?_
    rintro e w2 ⟨rfl, hb2⟩
    have bz := World.block_lt_of_cell? _ _ b0
    have HB2 := Lib.hid (HB1.out.trans (hb2.mono HB1.out.size))
    have d0 := (hb2.cell (p := ⟨w.heap.size, 0, none⟩) bz).trans b0
    have d1 := (hb2.cell (p := ⟨w.heap.size, 1, none⟩) bz).trans b1
    have dz := World.block_lt_of_cell? _ _ d0
    clear hb2 b0 b1 bz HB1
    go_wp2_with fail
    obtain ⟨B, hB⟩ : ∃ B, w2.heap.size = B := ⟨_, rfl⟩
    generalize hv : World.alloc _ _ = v2
    have HT : RowKit.Hid (Two w.heap.size B v2 h l 6 ph pl n) := Lib.hid (by
      rw [← hv]
      exact ⟨Lib.cell?_alloc_some _ d0, Lib.cell?_alloc_some _ d1, (World.cell?_alloc_at _ _ _ _ hB.symm).trans rfl, (World.cell?_alloc_at _ _ _ _ hB.symm).trans rfl, (World.cell?_alloc_at _ _ _ _ hB.symm).trans rfl, (World.cell?_alloc_at _ _ _ _ hB.symm).trans rfl⟩)
    have HB := Lib.hid (show Below w.heap.size w v2 by rw [← hv]; exact HB2.out.trans ((below_alloc _ _).mono HB2.out.size))
    clear hv d0 d1 dz HB2
    try rw [hB]
    clear hB
    with_reducible refine (H2.out _).mono ?_
    rintro e w3 ⟨rfl, hb3⟩
    have HT3 := Lib.hid (HT.out.on hb3)
    have HB3 := Lib.hid (HB.out.trans (hb3.mono HB.out.size))
    clear HT HB hb3
    obtain ⟨a0, a1, c0, c1, c2, c3⟩ := HT3.out
    have z0 := World.block_lt_of_cell? _ _ a0
    have z1 := World.block_lt_of_cell? _ _ c0
    go_wp2_with fail
    obtain ⟨D, hD⟩ : ∃ D, w3.heap.size = D := ⟨_, rfl⟩
    generalize hv : World.alloc _ _ = v4
    have HT : RowKit.Hid (Two w.heap.size B v4 h l 6 ph pl n) := Lib.hid (by
      rw [← hv]
      exact HT3.out.on (below_alloc _ _))
    have HU : RowKit.Hid (One D v4 6 h l 128) := Lib.hid (by
      rw [← hv]
      exact ⟨(World.cell?_alloc_at _ _ _ _ hD.symm).trans rfl, (World.cell?_alloc_at _ _ _ _ hD.symm).trans rfl, (World.cell?_alloc_at _ _ _ _ hD.symm).trans rfl, (World.cell?_alloc_at _ _ _ _ hD.symm).trans rfl⟩)
    have HB := Lib.hid (show Below w.heap.size w v4 by rw [← hv]; exact HB3.out.trans ((below_alloc _ _).mono HB3.out.size))
    clear hv HT3 HB3 a0 a1 c0 c1 c2 c3 z0 z1
    try rw [hD]
    clear hD
    with_reducible refine (H4.out _).mono ?_
    rintro e w5 ⟨rfl, hb5⟩
    have HT5 := Lib.hid (HT.out.on hb5)
    have HU5 := Lib.hid (HU.out.on hb5)
    have HB5 := Lib.hid (HB.out.trans (hb5.mono HB.out.size))
    clear HT HU HB hb5
    obtain ⟨a0, a1, c0, c1, c2, c3⟩ := HT5.out
    obtain ⟨e0, e1, e2, e3⟩ := HU5.out
    go_wp2_with fail
    with_reducible refine (H5.out _).mono ?_
    rintro e w6 ⟨rfl, hb6⟩
    have HT := Lib.hid (HT5.out.on hb6)
    have HB := Lib.hid (HB5.out.trans (hb6.mono HB5.out.size))
    clear HT5 HU5 HB5 hb6 a0 a1 c0 c1 c2 c3 e0 e1 e2 e3
    obtain ⟨a0, a1, c0, c1, c2, c3⟩ := HT.out
    go_wp2_with fail
    clear a0 a1 c0 c1 c2 c3 H1 H2 H4 H5
    go_loopw [15] (fun i wr => ∃ k : Nat, k ≤ 128 ∧ i = .int .i64 k ∧ Below w.heap.size w wr ∧ Two w.heap.size B wr h l 6 ph pl n) (fun i _ => 128 - (intOf i).toNat)
    case atStart => exact ⟨0, by omega, rfl, HB.out, HT.out⟩
    case round =>
      obtain ⟨k, hk, rfl, hbel, htwo⟩ := hrel
      clear HT HB
      have HT := Lib.hid htwo
      have HB := Lib.hid hbel
      clear hbel htwo
      obtain ⟨a0, a1, c0, c1, c2, c3⟩ := HT.out
      by_cases hlt : k < 128
      · have hlt' : (k : Int) < 128 := by omega
        have hy := HY.out k hlt
        have H7k := Lib.hid (H7.out k hlt)
        have H8k := Lib.hid (H8.out k hlt)
        have hx := HX.out k hlt
        by_cases hkn : (k : Int) < n
        · rw [if_pos hkn] at hy
          rw [hy] at H8k
          have hkn' : ¬ n ≤ (k : Int) := by omega
          clear hy
          rcases hx with hx | hx
          all_goals (
            rw [hx] at H7k H8k
            clear hx
            go_wp2_with fail
            with_reducible refine (H7k.out _).mono ?_
            rintro e w7 ⟨rfl, hb7⟩
            have HT7 := Lib.hid (HT.out.on hb7)
            have HB7 := Lib.hid (HB.out.trans (hb7.mono HB.out.size))
            clear HT HB hb7 a0 a1 c0 c1 c2 c3
            obtain ⟨a0, a1, c0, c1, c2, c3⟩ := HT7.out
            go_wp2_with fail
            with_reducible refine (H8k.out _).mono ?_
            rintro e w8 ⟨rfl, hb8⟩
            have HT8 := Lib.hid (HT7.out.on hb8)
            have HB8 := Lib.hid (HB7.out.trans (hb8.mono HB7.out.size))
            clear HT7 HB7 hb8 a0 a1 c0 c1 c2 c3
            go_wp2_with fail
            go_roundw
            case rel => exact ⟨k + 1, by omega, by go_num, HB8.out, HT8.out⟩
            case measure => simp [intOf]; omega)
        · rw [if_neg hkn] at hy
          rw [hy] at H8k
          have hkn' : n ≤ (k : Int) := by omega
          clear hy
          rcases hx with hx | hx
          all_goals (
            rw [hx] at H7k
            clear hx
            go_wp2_with fail
            with_reducible refine (H7k.out _).mono ?_
            rintro e w7 ⟨rfl, hb7⟩
            have HT7 := Lib.hid (HT.out.on hb7)
            have HB7 := Lib.hid (HB.out.trans (hb7.mono HB.out.size))
            clear HT HB hb7 a0 a1 c0 c1 c2 c3
            obtain ⟨a0, a1, c0, c1, c2, c3⟩ := HT7.out
            go_wp2_with fail
            with_reducible refine (H8k.out _).mono ?_
            rintro e w8 ⟨rfl, hb8⟩
            have HT8 := Lib.hid (HT7.out.on hb8)
            have HB8 := Lib.hid (HB7.out.trans (hb8.mono HB7.out.size))
            clear HT7 HB7 hb8 a0 a1 c0 c1 c2 c3
            go_wp2_with fail
            go_roundw
            case rel => exact ⟨k + 1, by omega, by go_num, HB8.out, HT8.out⟩
            case measure => simp [intOf]; omega)
      · have e : k = 128 := by omega
        subst e
        go_wp2_with fail
        with_reducible refine (H3.out _).mono ?_
        rintro e w7 ⟨rfl, hb7⟩
        have HT7 := Lib.hid (HT.out.on hb7)
        have HB7 := Lib.hid (HB.out.trans (hb7.mono HB.out.size))
        clear HT HB hb7 a0 a1 c0 c1 c2 c3
        obtain ⟨a0, a1, c0, c1, c2, c3⟩ := HT7.out
        have z0 := World.block_lt_of_cell? _ _ a0
        have z1 := World.block_lt_of_cell? _ _ c0
        by_cases h0 : eo = 0
        · have h0' : (eo != 0) = false := by simp [h0]
          have H6o := Lib.hid (H6.out h0)
          by_cases hno : n ≤ o
          · rw [decide_eq_true hno] at H6o
            go_wp2_with fail
            with_reducible refine (H6o.out _).mono ?_
            rintro e w9 ⟨rfl, hb9⟩
            go_wp2_with fail
            go_ret
            exact ⟨rfl, (HB7.out.trans ((below_alloc _ _).mono HB7.out.size)).trans (hb9.mono (by have := HB7.out.size; simp; omega))⟩
          · rw [decide_eq_false hno] at H6o
            go_wp2_with fail
            with_reducible refine (H6o.out _).mono ?_
            rintro e w9 ⟨rfl, hb9⟩
            go_wp2_with fail
            go_ret
            exact ⟨by show Ending.returned (Value.bool (!decide (n ≤ o))) = _; rw [decide_eq_false (show ¬ n ≤ o by omega)]; rfl, (HB7.out.trans ((below_alloc _ _).mono HB7.out.size)).trans (hb9.mono (by have := HB7.out.size; simp; omega))⟩
        · have h0' : (eo != 0) = true := by simp [h0]
          go_wp2_with fail
          go_ret
          exact ⟨rfl, HB7.out.trans ((below_alloc _ _).mono HB7.out.size)⟩
end Go.Proofs.YtjpngoccmjpckaaDoor
