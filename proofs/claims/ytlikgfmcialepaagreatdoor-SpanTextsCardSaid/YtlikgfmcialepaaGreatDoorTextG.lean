/-
  THE WALKS over the strings of package number: an address without colons.
-/
import Derived.Test.YtlikgfmcialepaaGreatDoorTextF
namespace Go.Proofs.YtlikgfmcialepaaGreatDoor
open Go.RowKit Adr
set_option linter.unusedVariables false
def addr4 (s : ByteArray) : Option Nat :=
  match fourR s with
  | some L => if fourS L = s.data.toList then some L else none
  | none => none
theorem addr4_some {s : ByteArray} {L : Nat} (h : fourR s = some L) : addr4 s = if fourS L = s.data.toList then some L else none := by unfold addr4; rw [h]
theorem addr4_none {s : ByteArray} (h : fourR s = none) : addr4 s = none := by unfold addr4; rw [h]
theorem rfold_lt : ∀ (ps : List ByteArray) (a k : Nat) (L : Nat), a < 256 ^ k → rfold ps a = some L → L < 256 ^ (k + ps.length)
  | [], a, k, L, ha, h => by
    have : a = L := by simpa [rfold] using h
    simpa [this] using ha
  | p :: ps, a, k, L, ha, h => by
    cases hr : rdec 8 p.data.toList with
    | none => rw [rfold_none hr] at h; cases h
    | some n =>
      rw [rfold_some hr] at h
      have hn : n < 256 := by simpa using rdec_le hr
      have ih := rfold_lt ps (a * 256 + n) (k + 1) L (by rw [Nat.pow_succ]; omega) h
      rw [show k + (p :: ps).length = k + 1 + ps.length by simp; omega]
      exact ih
theorem fourR_lt {s : ByteArray} {L : Nat} (h : fourR s = some L) : L < 4294967296 := by
  unfold fourR at h
  split at h
  · rename_i hl
    have := rfold_lt _ 0 0 L (by simp) h
    rw [hl] at this
    simpa using this
  · cases h
theorem ca4 (L : Nat) (h : L < 4294967296) : ca 4 ((0 : Nat) : Int) (L : Int) = true := by
  unfold ca
  rw [if_pos rfl]
  simp
  omega
theorem two_set {w : World} {b : Nat} {v0 v1 u0 u1 : Value} (c0 : w.cell? ⟨b, 0, none⟩ = some u0) (c1 : w.cell? ⟨b, 1, none⟩ = some u1) :
    ((w.setCell ⟨b, 0, none⟩ v0).setCell ⟨b, 1, none⟩ v1).cell? ⟨b, 0, none⟩ = some v0 ∧ ((w.setCell ⟨b, 0, none⟩ v0).setCell ⟨b, 1, none⟩ v1).cell? ⟨b, 1, none⟩ = some v1 :=
  ⟨cell_far (cell_same c0) (by simp), cell_same (cell_far c1 (by simp))⟩
theorem two_below {n b : Nat} {u w : World} {v0 v1 : Value} (h : Below n u w) (hb : n ≤ b) : Below n u ((w.setCell ⟨b, 0, none⟩ v0).setCell ⟨b, 1, none⟩ v1) := (h.setCell hb _).setCell hb _
theorem text4 (L : Nat) (w : World) (env : Env true w) (hL : L < 4294967296) (X : ByteArray) (hX : str (fourS L) = X) :
    Calls Tryz.prog 5 #[.int .u8 4, .agg #[.int .u64 0, .int .u64 L]] w fun e w' => e = .returned (.tuple #[.string X, .int .i64 0]) ∧ Below w.heap.size w w' := by
  have h := text_yes 4 0 L w env (ca4 L hL) (by omega) (by omega)
  rw [show addrS 4 0 L = fourS L from rfl, hX] at h
  exact h
set_option maxHeartbeats 1000000 in
theorem ap4_core (s : ByteArray) (w : World) (env : Env true w) (hs : s.size ≤ 39) (hc : decide (0 ≤ Lib.indexByte s.data.toList 58) = false) :
    Calls Tryz.prog 7 #[.string s] w fun e w' => e = .returned (.tuple #[.int .u8 (if (addr4 s).isSome = true then 4 else 0), .agg #[.int .u64 0, .int .u64 ((addr4 s).getD 0 : Nat)], .int .i64 (if (addr4 s).isSome = true then 0 else 12)]) ∧ Below w.heap.size w w' := by
  have hG := env.big
  have HE := Lib.hid env
  have hct := Tryz.strings_Contains_one s 58 (w.alloc (.cells #[.int .u64 0, .int .u64 0] 24))
  rw [hc] at hct
  have HCT := Lib.hid hct
  have hbw : Below w.heap.size w (w.alloc (.cells #[.int .u64 0, .int .u64 0] 24)) := (Below.refl _ _).alloc (Nat.le_refl _) _
  have HF := Lib.hid (four_read s (w.alloc (.cells #[.int .u64 0, .int .u64 0] 24)) (env.on hbw) (by omega))
  clear hct env hc hbw
  have hs' : ¬ (39 : Int) < (s.size : Int) := by omega
  obtain ⟨R, hR⟩ : ∃ R, addr4 s = R := ⟨_, rfl⟩
  rw [hR]
  cases h4 : fourR s with
  | none =>
    rw [h4] at HF
    have hr : R = none := by rw [← hR, addr4_none h4]
    subst hr
    clear hR h4
    go_enter Tryz.func7, Tryz.ntmps7
    go_wp2_with fail
    refine HCT.out.mono ?_
    rintro e w1 ⟨rfl, rfl⟩
    go_wp2_with fail
    refine HF.out.mono ?_
    rintro e w2 ⟨rfl, hb2⟩
    have x0 : w2.cell? ⟨w.heap.size, 0, none⟩ = some (.int .u64 0) := by rw [hb2.cell (p := ⟨w.heap.size, 0, none⟩) (by simp)]; simp
    have x1 : w2.cell? ⟨w.heap.size, 1, none⟩ = some (.int .u64 0) := by rw [hb2.cell (p := ⟨w.heap.size, 1, none⟩) (by simp)]; simp
    have y0 : w2.frozen? ⟨w.heap.size, 0, none⟩ = false := by rw [hb2.frozen (p := ⟨w.heap.size, 0, none⟩) (by simp)]; simp
    have y1 : w2.frozen? ⟨w.heap.size, 1, none⟩ = false := by rw [hb2.frozen (p := ⟨w.heap.size, 1, none⟩) (by simp)]; simp
    go_wp2_with fail
    have A := two_set (v0 := .int .u64 0) (v1 := .int .u64 0) x0 x1
    have B := two_set (v0 := .int .u64 0) (v1 := .int .u64 0) A.1 A.2
    refine bodyPost_ret (v := .tuple #[.int .u8 0, .agg #[.int .u64 0, .int .u64 0], .int .i64 12]) (by simp [results, Tryz.results7, go_sem, B.1, B.2]) rfl ⟨rfl, ?_⟩
    exact two_below (two_below (((Below.refl _ _).alloc (Nat.le_refl _) _).trans (hb2.mono (by simp))) (Nat.le_refl _)) (Nat.le_refl _)
  | some L =>
    have hL := fourR_lt h4
    have HL := Lib.hid hL
    have hca := Lib.hid (ca4 L hL)
    rw [h4] at HF
    have hd := addr4_some h4
    rw [hR] at hd
    clear hR h4 hL
    by_cases he : fourS L = s.data.toList
    · have hr : R = some L := by rw [hd, if_pos he]
      subst hr
      have hX : str (fourS L) = s := by rw [he, str_list]
      have HX := Lib.hid hX
      clear hd he hX
      go_enter Tryz.func7, Tryz.ntmps7
      go_wp2_with fail
      refine HCT.out.mono ?_
      rintro e w1 ⟨rfl, rfl⟩
      go_wp2_with fail
      refine HF.out.mono ?_
      rintro e w2 ⟨rfl, hb2⟩
      have x0 : w2.cell? ⟨w.heap.size, 0, none⟩ = some (.int .u64 0) := by rw [hb2.cell (p := ⟨w.heap.size, 0, none⟩) (by simp)]; simp
      have x1 : w2.cell? ⟨w.heap.size, 1, none⟩ = some (.int .u64 0) := by rw [hb2.cell (p := ⟨w.heap.size, 1, none⟩) (by simp)]; simp
      have y0 : w2.frozen? ⟨w.heap.size, 0, none⟩ = false := by rw [hb2.frozen (p := ⟨w.heap.size, 0, none⟩) (by simp)]; simp
      have y1 : w2.frozen? ⟨w.heap.size, 1, none⟩ = false := by rw [hb2.frozen (p := ⟨w.heap.size, 1, none⟩) (by simp)]; simp
      have HB2 := Lib.hid (((Below.refl w.heap.size w).alloc (Nat.le_refl _) _).trans (hb2.mono (by simp)))
      clear hb2
      go_wp2_with fail
      have A := two_set (v0 := .int .u64 0) (v1 := .int .u64 (L : Int)) x0 x1
      have AB := Lib.hid (two_below (v0 := .int .u64 0) (v1 := .int .u64 (L : Int)) HB2.out (Nat.le_refl _))
      have z0 : w.heap.size < ((w2.setCell { block := w.heap.size, off := 0 } (Value.int IntKind.u64 0)).setCell { block := w.heap.size, off := 1 } (Value.int IntKind.u64 (L : Int))).heap.size := by have := World.block_lt_of_cell? _ _ A.1; simpa using this
      have w0 : ((w2.setCell { block := w.heap.size, off := 0 } (Value.int IntKind.u64 0)).setCell { block := w.heap.size, off := 1 } (Value.int IntKind.u64 (L : Int))).frozen? ⟨w.heap.size, 0, none⟩ = false := by simpa using y0
      have w1' : ((w2.setCell { block := w.heap.size, off := 0 } (Value.int IntKind.u64 0)).setCell { block := w.heap.size, off := 1 } (Value.int IntKind.u64 (L : Int))).frozen? ⟨w.heap.size, 1, none⟩ = false := by simpa using y1
      generalize hW3 : (w2.setCell { block := w.heap.size, off := 0 } (Value.int IntKind.u64 0)).setCell { block := w.heap.size, off := 1 } (Value.int IntKind.u64 (L : Int)) = W3 at A AB z0 w0 w1'
      clear hW3 x0 x1 y0 y1
      refine (text4 L W3 (HE.out.below AB.out hG) HL.out s HX.out).mono ?_
      rintro e w4 ⟨rfl, hb4⟩
      have p0 := (hb4.cell (p := ⟨w.heap.size, 0, none⟩) z0).trans A.1
      have p1 := (hb4.cell (p := ⟨w.heap.size, 1, none⟩) z0).trans A.2
      have q0 := (hb4.frozen (p := ⟨w.heap.size, 0, none⟩) z0).trans w0
      have q1 := (hb4.frozen (p := ⟨w.heap.size, 1, none⟩) z0).trans w1'
      have HB4 := Lib.hid (AB.out.trans (hb4.mono (by omega)))
      clear A hb4 w0 w1' z0
      go_wp2_with fail
      go_region
      all_goals
        go_wp2_with fail
        have B := two_set (v0 := .int .u64 0) (v1 := .int .u64 (L : Int)) p0 p1
        refine bodyPost_ret (v := .tuple #[.int .u8 4, .agg #[.int .u64 0, .int .u64 L], .int .i64 0]) (by simp [results, Tryz.results7, go_sem, B.1, B.2]) rfl ⟨rfl, (two_below HB4.out (Nat.le_refl _)).drew⟩
    · have hr : R = none := by rw [hd, if_neg he]
      subst hr
      obtain ⟨X, hX⟩ : ∃ X, str (fourS L) = X := ⟨_, rfl⟩
      have hne : (X.toList == s.toList) = false := bytes_ne (by
        rw [← hX]
        simpa [str] using he)
      have HX := Lib.hid hX
      clear hd he hX
      go_enter Tryz.func7, Tryz.ntmps7
      go_wp2_with fail
      refine HCT.out.mono ?_
      rintro e w1 ⟨rfl, rfl⟩
      go_wp2_with fail
      refine HF.out.mono ?_
      rintro e w2 ⟨rfl, hb2⟩
      have x0 : w2.cell? ⟨w.heap.size, 0, none⟩ = some (.int .u64 0) := by rw [hb2.cell (p := ⟨w.heap.size, 0, none⟩) (by simp)]; simp
      have x1 : w2.cell? ⟨w.heap.size, 1, none⟩ = some (.int .u64 0) := by rw [hb2.cell (p := ⟨w.heap.size, 1, none⟩) (by simp)]; simp
      have y0 : w2.frozen? ⟨w.heap.size, 0, none⟩ = false := by rw [hb2.frozen (p := ⟨w.heap.size, 0, none⟩) (by simp)]; simp
      have y1 : w2.frozen? ⟨w.heap.size, 1, none⟩ = false := by rw [hb2.frozen (p := ⟨w.heap.size, 1, none⟩) (by simp)]; simp
      have HB2 := Lib.hid (((Below.refl w.heap.size w).alloc (Nat.le_refl _) _).trans (hb2.mono (by simp)))
      clear hb2
      go_wp2_with fail
      have A := two_set (v0 := .int .u64 0) (v1 := .int .u64 (L : Int)) x0 x1
      have AB := Lib.hid (two_below (v0 := .int .u64 0) (v1 := .int .u64 (L : Int)) HB2.out (Nat.le_refl _))
      have z0 : w.heap.size < ((w2.setCell { block := w.heap.size, off := 0 } (Value.int IntKind.u64 0)).setCell { block := w.heap.size, off := 1 } (Value.int IntKind.u64 (L : Int))).heap.size := by have := World.block_lt_of_cell? _ _ A.1; simpa using this
      have w0 : ((w2.setCell { block := w.heap.size, off := 0 } (Value.int IntKind.u64 0)).setCell { block := w.heap.size, off := 1 } (Value.int IntKind.u64 (L : Int))).frozen? ⟨w.heap.size, 0, none⟩ = false := by simpa using y0
      have w1' : ((w2.setCell { block := w.heap.size, off := 0 } (Value.int IntKind.u64 0)).setCell { block := w.heap.size, off := 1 } (Value.int IntKind.u64 (L : Int))).frozen? ⟨w.heap.size, 1, none⟩ = false := by simpa using y1
      generalize hW3 : (w2.setCell { block := w.heap.size, off := 0 } (Value.int IntKind.u64 0)).setCell { block := w.heap.size, off := 1 } (Value.int IntKind.u64 (L : Int)) = W3 at A AB z0 w0 w1'
      clear hW3 x0 x1 y0 y1
      refine (text4 L W3 (HE.out.below AB.out hG) HL.out X HX.out).mono ?_
      rintro e w4 ⟨rfl, hb4⟩
      have p0 := (hb4.cell (p := ⟨w.heap.size, 0, none⟩) z0).trans A.1
      have p1 := (hb4.cell (p := ⟨w.heap.size, 1, none⟩) z0).trans A.2
      have q0 := (hb4.frozen (p := ⟨w.heap.size, 0, none⟩) z0).trans w0
      have q1 := (hb4.frozen (p := ⟨w.heap.size, 1, none⟩) z0).trans w1'
      have HB4 := Lib.hid (AB.out.trans (hb4.mono (by omega)))
      clear A hb4 w0 w1' z0
      go_wp2_with fail
      have B := two_set (v0 := .int .u64 0) (v1 := .int .u64 0) p0 p1
      refine bodyPost_ret (v := .tuple #[.int .u8 0, .agg #[.int .u64 0, .int .u64 0], .int .i64 12]) (by simp [results, Tryz.results7, go_sem, B.1, B.2]) rfl ⟨rfl, two_below HB4.out (Nat.le_refl _)⟩
end Go.Proofs.YtlikgfmcialepaaGreatDoor
