/-
  THE WALK over NumberCompare.
-/
import Derived.Test.YtjpngoccmjpckabDoorAlive
import Derived.Test.YtjpngoccmjpckabDoorCompareMath
import Derived.Test.YtjpngoccmjpckabDoorNumCmp
import Derived.Deep.RegionHeld3
namespace Go.Proofs.YtjpngoccmjpckabDoor
open Go.RowKit Adr
set_option linter.unusedVariables false
abbrev ad (h l : Int) : Value := .agg #[.int .u64 h, .int .u64 l]
/-- two addresses lie in two blocks -/
structure Four (N : Nat) (W : World) (h l h' l' : Int) : Prop where
  a0 : W.cell? ⟨N, 0, none⟩ = some (.int .u64 h)
  a1 : W.cell? ⟨N, 1, none⟩ = some (.int .u64 l)
  b0 : W.cell? ⟨N + 1, 0, none⟩ = some (.int .u64 h')
  b1 : W.cell? ⟨N + 1, 1, none⟩ = some (.int .u64 l')
def Pair (N : Nat) (w W : World) (h l h' l' : Int) : Prop := Four N W h l h' l' ∧ Below w.heap.size w W
theorem Pair.on {N : Nat} {w W W' : World} {h l h' l' : Int} (t : Pair N w W h l h' l') (hb : Below W.heap.size W W') : Pair N w W' h l h' l' := by
  obtain ⟨t, b⟩ := t
  have z0 := World.block_lt_of_cell? _ _ t.a0
  have z1 := World.block_lt_of_cell? _ _ t.b0
  exact ⟨⟨(hb.cell (p := ⟨N, 0, none⟩) z0).trans t.a0, (hb.cell (p := ⟨N, 1, none⟩) z0).trans t.a1, (hb.cell (p := ⟨N + 1, 0, none⟩) z1).trans t.b0, (hb.cell (p := ⟨N + 1, 1, none⟩) z1).trans t.b1⟩, b.trans (hb.mono b.size)⟩
theorem Pair.drew {N : Nat} {w W : World} {h l h' l' : Int} (t : Pair N w W h l h' l') : Pair N w W.drew h l h' l' := ⟨⟨t.1.a0, t.1.a1, t.1.b0, t.1.b1⟩, t.2.drew⟩

set_option maxRecDepth 100000 in
set_option maxHeartbeats 8000000 in
theorem compare_same (h l c d : Int) (x y : Nat → Int) (w : World) (env : Env w) (hcd : c = 0 ∧ d = 0)
    (h1 : ∀ w, Calls Tryd.prog 5 #[ad h l, ad h l] w fun e w' => e = .returned (.int .i64 c) ∧ Below w.heap.size w w')
    (h2 : ∀ w, Calls Tryd.prog 5 #[ad h l, ad h l] w fun e w' => e = .returned (.int .i64 d) ∧ Below w.heap.size w w')
    (h3 : ∀ k : Nat, k < 128 → ∀ w, Calls Tryd.prog 6 #[.int .u8 6, ad h l, .int .i64 k] w fun e w' => e = .returned (.tuple #[.int .i64 (x k), .int .i64 0]) ∧ Below w.heap.size w w')
    (h4 : ∀ k : Nat, k < 128 → ∀ w, Calls Tryd.prog 6 #[.int .u8 6, ad h l, .int .i64 k] w fun e w' => e = .returned (.tuple #[.int .i64 (y k), .int .i64 0]) ∧ Below w.heap.size w w')
    (hx : ∀ k : Nat, k < 128 → x k = 0 ∨ x k = 1) (hy : ∀ k : Nat, k < 128 → y k = 0 ∨ y k = 1)
    (hd : ∀ k : Nat, k < 128 → (∀ j, j < k → x j = y j) → x k ≠ y k → x k - y k = c) (he : (∀ j, j < 128 → x j = y j) → c = 0) :
    Calls Tryd.prog 3 #[ad h l, ad h l] w fun e w' => e = .returned (.bool true) ∧ Below w.heap.size w w' := by
  have hG := env.big
  have HE := Lib.hid env
  have H1 := Lib.hid h1
  have H2x := Lib.hid h2
  have H3 := Lib.hid h3
  have H4 := Lib.hid h4
  have HX := Lib.hid hx
  have HY := Lib.hid hy
  have HD := Lib.hid hd
  have HZ := Lib.hid he
  clear env h1 h2 h3 h4 hx hy hd he
  obtain ⟨rfl, rfl⟩ := hcd
  all_goals (
    go_enter Tryd.func3, Tryd.ntmps3
    go_wp2_with fail
    generalize hv : World.alloc _ _ = v
    have HP : RowKit.Hid (Pair w.heap.size w v h l h l) := Lib.hid (by
      rw [← hv]
      exact ⟨⟨Lib.cell?_alloc_some _ ((World.cell?_alloc_at _ _ _ _ rfl).trans rfl), Lib.cell?_alloc_some _ ((World.cell?_alloc_at _ _ _ _ rfl).trans rfl), (World.cell?_alloc_at _ _ _ _ (by simp)).trans rfl, (World.cell?_alloc_at _ _ _ _ (by simp)).trans rfl⟩, ((Below.refl _ _).alloc (Nat.le_refl _) _).alloc (by simp) _⟩)
    clear hv
    refine (alive_any v (HE.out.below HP.out.2 hG)).mono ?_
    rintro e w1 ⟨rfl, hb1⟩
    have HP1 := Lib.hid (HP.out.on hb1)
    clear hb1 HP
    have P0 := HP1.out.drew
    have R0 := HP1.out
    clear HP1
    go_upto_region 2 with fail
    go_region_held3 (fun z => z.cell? ⟨w.heap.size, 0, none⟩ = some (.int .u64 h) ∧ z.cell? ⟨w.heap.size, 1, none⟩ = some (.int .u64 l) ∧ z.cell? ⟨w.heap.size + 1, 0, none⟩ = some (.int .u64 h) ∧ z.cell? ⟨w.heap.size + 1, 1, none⟩ = some (.int .u64 l))
      (first | exact ⟨P0.1.a0, P0.1.a1, P0.1.b0, P0.1.b1⟩ | exact ⟨R0.1.a0, R0.1.a1, R0.1.b0, R0.1.b1⟩ | exact ⟨P1.1.a0, P1.1.a1, P1.1.b0, P1.1.b1⟩ | exact ⟨P2.1.a0, P2.1.a1, P2.1.b0, P2.1.b1⟩)
      (first | (go_at_call 5; with_reducible refine (H1.out _).mono ?_; rintro e w2 ⟨rfl, hb2⟩; have P1 := P0.on hb2) | (go_at_call 5; with_reducible refine (H2x.out _).mono ?_; rintro e w3 ⟨rfl, hb3⟩; have P2 := P1.on hb3))
    have HP := Lib.hid P2
    clear P0 R0 P1 P2 hb2 hb3 H1 H2x
    obtain ⟨a0, a1, b0, b1⟩ := HP.out.1
    go_wp2_with fail
    clear a0 a1 b0 b1
    go_loopw [8] (fun i wr => ∃ k : Nat, k ≤ 128 ∧ i = .int .i64 k ∧ Pair w.heap.size w wr h l h l ∧ ∀ j : Nat, j < k → x j = y j) (fun i _ => 128 - (intOf i).toNat)
    case atStart => exact ⟨0, by omega, rfl, HP.out, fun j hj => by omega⟩
    case round =>
      obtain ⟨k, hk, rfl, hpr, hpre⟩ := hrel
      clear HP
      have HP := Lib.hid hpr
      have HJ := Lib.hid hpre
      clear hpr hpre
      obtain ⟨a0, a1, b0, b1⟩ := HP.out.1
      by_cases hlt : k < 128
      · have hlt' : (k : Int) < 128 := by omega
        have H3k := Lib.hid (H3.out k hlt)
        have H4k := Lib.hid (H4.out k hlt)
        have hx := HX.out k hlt
        have hy := HY.out k hlt
        have hd := HD.out k hlt HJ.out
        rcases hx with hx | hx <;> rcases hy with hy | hy
        all_goals (
          rw [hx] at H3k
          rw [hy] at H4k
          rw [hx, hy] at hd
          have HXk := Lib.hid hx
          have HYk := Lib.hid hy
          clear hx hy
          first
            | (exfalso; have hd1 := hd (by omega); omega)
            | (clear hd
               go_wp2_with fail
               with_reducible refine (H3k.out _).mono ?_
               rintro e w7 ⟨rfl, hb7⟩
               have HP7 := Lib.hid (HP.out.on hb7)
               clear HP hb7 a0 a1 b0 b1
               obtain ⟨a0, a1, b0, b1⟩ := HP7.out.1
               go_wp2_with fail
               with_reducible refine (H4k.out _).mono ?_
               rintro e w8 ⟨rfl, hb8⟩
               have HP8 := Lib.hid (HP7.out.on hb8)
               clear HP7 hb8 a0 a1 b0 b1
               go_wp2_with fail
               first
                 | (go_ret
                    exact ⟨rfl, HP8.out.2⟩)
                 | (go_roundw
                    case rel =>
                      refine ⟨k + 1, by omega, by go_num, HP8.out, fun j hj => ?_⟩
                      by_cases hjk : j = k
                      · subst hjk
                        have q1 := HXk.out
                        have q2 := HYk.out
                        omega
                      · exact HJ.out j (by omega)
                    case measure => simp [intOf]; omega)))
      · have e : k = 128 := by omega
        subst e
        have hz := HZ.out HJ.out
        first
          | (exfalso; omega)
          | (clear hz
             go_wp2_with fail
             go_ret
             exact ⟨rfl, HP.out.2⟩))

set_option maxRecDepth 100000 in
set_option maxHeartbeats 8000000 in
theorem compare_low (h l l' c d : Int) (x y : Nat → Int) (w : World) (env : Env w) (q : ¬ l = l') (hcd : (c = -1 ∧ d = 1) ∨ (c = 1 ∧ d = -1))
    (h1 : ∀ w, Calls Tryd.prog 5 #[ad h l, ad h l'] w fun e w' => e = .returned (.int .i64 c) ∧ Below w.heap.size w w')
    (h2 : ∀ w, Calls Tryd.prog 5 #[ad h l', ad h l] w fun e w' => e = .returned (.int .i64 d) ∧ Below w.heap.size w w')
    (h3 : ∀ k : Nat, k < 128 → ∀ w, Calls Tryd.prog 6 #[.int .u8 6, ad h l, .int .i64 k] w fun e w' => e = .returned (.tuple #[.int .i64 (x k), .int .i64 0]) ∧ Below w.heap.size w w')
    (h4 : ∀ k : Nat, k < 128 → ∀ w, Calls Tryd.prog 6 #[.int .u8 6, ad h l', .int .i64 k] w fun e w' => e = .returned (.tuple #[.int .i64 (y k), .int .i64 0]) ∧ Below w.heap.size w w')
    (hx : ∀ k : Nat, k < 128 → x k = 0 ∨ x k = 1) (hy : ∀ k : Nat, k < 128 → y k = 0 ∨ y k = 1)
    (hd : ∀ k : Nat, k < 128 → (∀ j, j < k → x j = y j) → x k ≠ y k → x k - y k = c) (he : (∀ j, j < 128 → x j = y j) → c = 0) :
    Calls Tryd.prog 3 #[ad h l, ad h l'] w fun e w' => e = .returned (.bool true) ∧ Below w.heap.size w w' := by
  have hG := env.big
  have HE := Lib.hid env
  have H1 := Lib.hid h1
  have H2x := Lib.hid h2
  have H3 := Lib.hid h3
  have H4 := Lib.hid h4
  have HX := Lib.hid hx
  have HY := Lib.hid hy
  have HD := Lib.hid hd
  have HZ := Lib.hid he
  clear env h1 h2 h3 h4 hx hy hd he
  rcases hcd with ⟨rfl, rfl⟩ | ⟨rfl, rfl⟩
  all_goals (
    go_enter Tryd.func3, Tryd.ntmps3
    go_wp2_with fail
    generalize hv : World.alloc _ _ = v
    have HP : RowKit.Hid (Pair w.heap.size w v h l h l') := Lib.hid (by
      rw [← hv]
      exact ⟨⟨Lib.cell?_alloc_some _ ((World.cell?_alloc_at _ _ _ _ rfl).trans rfl), Lib.cell?_alloc_some _ ((World.cell?_alloc_at _ _ _ _ rfl).trans rfl), (World.cell?_alloc_at _ _ _ _ (by simp)).trans rfl, (World.cell?_alloc_at _ _ _ _ (by simp)).trans rfl⟩, ((Below.refl _ _).alloc (Nat.le_refl _) _).alloc (by simp) _⟩)
    clear hv
    refine (alive_any v (HE.out.below HP.out.2 hG)).mono ?_
    rintro e w1 ⟨rfl, hb1⟩
    have HP1 := Lib.hid (HP.out.on hb1)
    clear hb1 HP
    have P0 := HP1.out.drew
    have R0 := HP1.out
    clear HP1
    go_upto_region 2 with fail
    go_region_held3 (fun z => z.cell? ⟨w.heap.size, 0, none⟩ = some (.int .u64 h) ∧ z.cell? ⟨w.heap.size, 1, none⟩ = some (.int .u64 l) ∧ z.cell? ⟨w.heap.size + 1, 0, none⟩ = some (.int .u64 h) ∧ z.cell? ⟨w.heap.size + 1, 1, none⟩ = some (.int .u64 l'))
      (first | exact ⟨P0.1.a0, P0.1.a1, P0.1.b0, P0.1.b1⟩ | exact ⟨R0.1.a0, R0.1.a1, R0.1.b0, R0.1.b1⟩ | exact ⟨P1.1.a0, P1.1.a1, P1.1.b0, P1.1.b1⟩ | exact ⟨P2.1.a0, P2.1.a1, P2.1.b0, P2.1.b1⟩)
      (first | (go_at_call 5; with_reducible refine (H1.out _).mono ?_; rintro e w2 ⟨rfl, hb2⟩; have P1 := P0.on hb2) | (go_at_call 5; with_reducible refine (H2x.out _).mono ?_; rintro e w3 ⟨rfl, hb3⟩; have P2 := P1.on hb3))
    have HP := Lib.hid P2
    clear P0 R0 P1 P2 hb2 hb3 H1 H2x
    obtain ⟨a0, a1, b0, b1⟩ := HP.out.1
    go_wp2_with fail
    clear a0 a1 b0 b1
    go_loopw [8] (fun i wr => ∃ k : Nat, k ≤ 128 ∧ i = .int .i64 k ∧ Pair w.heap.size w wr h l h l' ∧ ∀ j : Nat, j < k → x j = y j) (fun i _ => 128 - (intOf i).toNat)
    case atStart => exact ⟨0, by omega, rfl, HP.out, fun j hj => by omega⟩
    case round =>
      obtain ⟨k, hk, rfl, hpr, hpre⟩ := hrel
      clear HP
      have HP := Lib.hid hpr
      have HJ := Lib.hid hpre
      clear hpr hpre
      obtain ⟨a0, a1, b0, b1⟩ := HP.out.1
      by_cases hlt : k < 128
      · have hlt' : (k : Int) < 128 := by omega
        have H3k := Lib.hid (H3.out k hlt)
        have H4k := Lib.hid (H4.out k hlt)
        have hx := HX.out k hlt
        have hy := HY.out k hlt
        have hd := HD.out k hlt HJ.out
        rcases hx with hx | hx <;> rcases hy with hy | hy
        all_goals (
          rw [hx] at H3k
          rw [hy] at H4k
          rw [hx, hy] at hd
          have HXk := Lib.hid hx
          have HYk := Lib.hid hy
          clear hx hy
          first
            | (exfalso; have hd1 := hd (by omega); omega)
            | (clear hd
               go_wp2_with fail
               with_reducible refine (H3k.out _).mono ?_
               rintro e w7 ⟨rfl, hb7⟩
               have HP7 := Lib.hid (HP.out.on hb7)
               clear HP hb7 a0 a1 b0 b1
               obtain ⟨a0, a1, b0, b1⟩ := HP7.out.1
               go_wp2_with fail
               with_reducible refine (H4k.out _).mono ?_
               rintro e w8 ⟨rfl, hb8⟩
               have HP8 := Lib.hid (HP7.out.on hb8)
               clear HP7 hb8 a0 a1 b0 b1
               go_wp2_with fail
               first
                 | (go_ret
                    exact ⟨rfl, HP8.out.2⟩)
                 | (go_roundw
                    case rel =>
                      refine ⟨k + 1, by omega, by go_num, HP8.out, fun j hj => ?_⟩
                      by_cases hjk : j = k
                      · subst hjk
                        have q1 := HXk.out
                        have q2 := HYk.out
                        omega
                      · exact HJ.out j (by omega)
                    case measure => simp [intOf]; omega)))
      · have e : k = 128 := by omega
        subst e
        have hz := HZ.out HJ.out
        first
          | (exfalso; omega)
          | (clear hz
             go_wp2_with fail
             go_ret
             exact ⟨rfl, HP.out.2⟩))

set_option maxRecDepth 100000 in
set_option maxHeartbeats 8000000 in
theorem compare_high (h l h' l' c d : Int) (x y : Nat → Int) (w : World) (env : Env w) (q : ¬ h = h') (hcd : (c = -1 ∧ d = 1) ∨ (c = 1 ∧ d = -1))
    (h1 : ∀ w, Calls Tryd.prog 5 #[ad h l, ad h' l'] w fun e w' => e = .returned (.int .i64 c) ∧ Below w.heap.size w w')
    (h2 : ∀ w, Calls Tryd.prog 5 #[ad h' l', ad h l] w fun e w' => e = .returned (.int .i64 d) ∧ Below w.heap.size w w')
    (h3 : ∀ k : Nat, k < 128 → ∀ w, Calls Tryd.prog 6 #[.int .u8 6, ad h l, .int .i64 k] w fun e w' => e = .returned (.tuple #[.int .i64 (x k), .int .i64 0]) ∧ Below w.heap.size w w')
    (h4 : ∀ k : Nat, k < 128 → ∀ w, Calls Tryd.prog 6 #[.int .u8 6, ad h' l', .int .i64 k] w fun e w' => e = .returned (.tuple #[.int .i64 (y k), .int .i64 0]) ∧ Below w.heap.size w w')
    (hx : ∀ k : Nat, k < 128 → x k = 0 ∨ x k = 1) (hy : ∀ k : Nat, k < 128 → y k = 0 ∨ y k = 1)
    (hd : ∀ k : Nat, k < 128 → (∀ j, j < k → x j = y j) → x k ≠ y k → x k - y k = c) (he : (∀ j, j < 128 → x j = y j) → c = 0) :
    Calls Tryd.prog 3 #[ad h l, ad h' l'] w fun e w' => e = .returned (.bool true) ∧ Below w.heap.size w w' := by
  have hG := env.big
  have HE := Lib.hid env
  have H1 := Lib.hid h1
  have H2x := Lib.hid h2
  have H3 := Lib.hid h3
  have H4 := Lib.hid h4
  have HX := Lib.hid hx
  have HY := Lib.hid hy
  have HD := Lib.hid hd
  have HZ := Lib.hid he
  clear env h1 h2 h3 h4 hx hy hd he
  rcases hcd with ⟨rfl, rfl⟩ | ⟨rfl, rfl⟩
  all_goals (
    go_enter Tryd.func3, Tryd.ntmps3
    go_wp2_with fail
    generalize hv : World.alloc _ _ = v
    have HP : RowKit.Hid (Pair w.heap.size w v h l h' l') := Lib.hid (by
      rw [← hv]
      exact ⟨⟨Lib.cell?_alloc_some _ ((World.cell?_alloc_at _ _ _ _ rfl).trans rfl), Lib.cell?_alloc_some _ ((World.cell?_alloc_at _ _ _ _ rfl).trans rfl), (World.cell?_alloc_at _ _ _ _ (by simp)).trans rfl, (World.cell?_alloc_at _ _ _ _ (by simp)).trans rfl⟩, ((Below.refl _ _).alloc (Nat.le_refl _) _).alloc (by simp) _⟩)
    clear hv
    refine (alive_any v (HE.out.below HP.out.2 hG)).mono ?_
    rintro e w1 ⟨rfl, hb1⟩
    have HP1 := Lib.hid (HP.out.on hb1)
    clear hb1 HP
    have P0 := HP1.out.drew
    have R0 := HP1.out
    clear HP1
    go_upto_region 2 with fail
    go_region_held3 (fun z => z.cell? ⟨w.heap.size, 0, none⟩ = some (.int .u64 h) ∧ z.cell? ⟨w.heap.size, 1, none⟩ = some (.int .u64 l) ∧ z.cell? ⟨w.heap.size + 1, 0, none⟩ = some (.int .u64 h') ∧ z.cell? ⟨w.heap.size + 1, 1, none⟩ = some (.int .u64 l'))
      (first | exact ⟨P0.1.a0, P0.1.a1, P0.1.b0, P0.1.b1⟩ | exact ⟨R0.1.a0, R0.1.a1, R0.1.b0, R0.1.b1⟩ | exact ⟨P1.1.a0, P1.1.a1, P1.1.b0, P1.1.b1⟩ | exact ⟨P2.1.a0, P2.1.a1, P2.1.b0, P2.1.b1⟩)
      (first | (go_at_call 5; with_reducible refine (H1.out _).mono ?_; rintro e w2 ⟨rfl, hb2⟩; have P1 := P0.on hb2) | (go_at_call 5; with_reducible refine (H2x.out _).mono ?_; rintro e w3 ⟨rfl, hb3⟩; have P2 := P1.on hb3))
    have HP := Lib.hid P2
    clear P0 R0 P1 P2 hb2 hb3 H1 H2x
    obtain ⟨a0, a1, b0, b1⟩ := HP.out.1
    go_wp2_with fail
    clear a0 a1 b0 b1
    go_loopw [8] (fun i wr => ∃ k : Nat, k ≤ 128 ∧ i = .int .i64 k ∧ Pair w.heap.size w wr h l h' l' ∧ ∀ j : Nat, j < k → x j = y j) (fun i _ => 128 - (intOf i).toNat)
    case atStart => exact ⟨0, by omega, rfl, HP.out, fun j hj => by omega⟩
    case round =>
      obtain ⟨k, hk, rfl, hpr, hpre⟩ := hrel
      clear HP
      have HP := Lib.hid hpr
      have HJ := Lib.hid hpre
      clear hpr hpre
      obtain ⟨a0, a1, b0, b1⟩ := HP.out.1
      by_cases hlt : k < 128
      · have hlt' : (k : Int) < 128 := by omega
        have H3k := Lib.hid (H3.out k hlt)
        have H4k := Lib.hid (H4.out k hlt)
        have hx := HX.out k hlt
        have hy := HY.out k hlt
        have hd := HD.out k hlt HJ.out
        rcases hx with hx | hx <;> rcases hy with hy | hy
        all_goals (
          rw [hx] at H3k
          rw [hy] at H4k
          rw [hx, hy] at hd
          have HXk := Lib.hid hx
          have HYk := Lib.hid hy
          clear hx hy
          first
            | (exfalso; have hd1 := hd (by omega); omega)
            | (clear hd
               go_wp2_with fail
               with_reducible refine (H3k.out _).mono ?_
               rintro e w7 ⟨rfl, hb7⟩
               have HP7 := Lib.hid (HP.out.on hb7)
               clear HP hb7 a0 a1 b0 b1
               obtain ⟨a0, a1, b0, b1⟩ := HP7.out.1
               go_wp2_with fail
               with_reducible refine (H4k.out _).mono ?_
               rintro e w8 ⟨rfl, hb8⟩
               have HP8 := Lib.hid (HP7.out.on hb8)
               clear HP7 hb8 a0 a1 b0 b1
               go_wp2_with fail
               first
                 | (go_ret
                    exact ⟨rfl, HP8.out.2⟩)
                 | (go_roundw
                    case rel =>
                      refine ⟨k + 1, by omega, by go_num, HP8.out, fun j hj => ?_⟩
                      by_cases hjk : j = k
                      · subst hjk
                        have q1 := HXk.out
                        have q2 := HYk.out
                        omega
                      · exact HJ.out j (by omega)
                    case measure => simp [intOf]; omega)))
      · have e : k = 128 := by omega
        subst e
        have hz := HZ.out HJ.out
        first
          | (exfalso; omega)
          | (clear hz
             go_wp2_with fail
             go_ret
             exact ⟨rfl, HP.out.2⟩))
end Go.Proofs.YtjpngoccmjpckabDoor
