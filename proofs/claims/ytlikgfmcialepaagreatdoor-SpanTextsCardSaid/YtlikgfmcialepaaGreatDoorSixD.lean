/-
  THE WALKS over the strings of package number: an address with colons; AddrParse at every string.
-/
import Derived.Test.YtlikgfmcialepaaGreatDoorSixC
namespace Go.Proofs.YtlikgfmcialepaaGreatDoor
open Go.RowKit Adr
set_option linter.unusedVariables false
def sixP (s : ByteArray) : Option (Nat × Nat) := (sixR s).map fun g => (uni (fun j => g.getD j 0) 4, uni (fun j => g.getD (4 + j) 0) 4)
def addr6 (s : ByteArray) : Option (Nat × Nat) :=
  match sixP s with
  | some p => if addrS 6 p.1 p.2 = s.data.toList then some p else none
  | none => none
theorem addr6_some {s : ByteArray} {H L : Nat} (h : sixP s = some (H, L)) : addr6 s = if addrS 6 H L = s.data.toList then some (H, L) else none := by unfold addr6; rw [h]
theorem addr6_none {s : ByteArray} (h : sixP s = none) : addr6 s = none := by unfold addr6; rw [h]
theorem sixR_le {s : ByteArray} {g : List Nat} (h : sixR s = some g) : ∀ z ∈ g, z < 65536 := by
  unfold sixR at h
  split at h
  · rename_i a b ha hb
    split at h
    · cases h
    · rw [← Option.some.inj h]
      exact fill8_le (grpR_le ha) (grpR_le hb)
  · cases h
theorem sixP_lt {s : ByteArray} {H L : Nat} (h : sixP s = some (H, L)) : H < 18446744073709551616 ∧ L < 18446744073709551616 := by
  unfold sixP at h
  cases hg : sixR s with
  | none => rw [hg] at h; cases h
  | some g =>
    rw [hg] at h
    have hv := six_vals g (sixR_le hg)
    have h1 := uni_lt (fun j => g.getD j 0) hv 4
    have h2 := uni_lt (fun j => g.getD (4 + j) 0) (fun j => hv (4 + j)) 4
    have e := Option.some.inj h
    have e1 : uni (fun j => g.getD j 0) 4 = H := congrArg Prod.fst e
    have e2 : uni (fun j => g.getD (4 + j) 0) 4 = L := congrArg Prod.snd e
    have h3 : (65536 : Nat) ^ 4 = 18446744073709551616 := by decide
    rw [e1, h3] at h1
    rw [e2, h3] at h2
    exact ⟨h1, h2⟩
theorem six_read (s : ByteArray) (w : World) (env : Env true w) (hs : s.size ≤ 1000) :
    Calls Tryz.prog 31 #[.string s] w fun e w' => e = .returned (.tuple #[.agg #[.int .u64 (((sixP s).map (·.1)).getD 0 : Nat), .int .u64 (((sixP s).map (·.2)).getD 0 : Nat)], .bool (sixP s).isSome]) ∧ Below w.heap.size w w' :=
  rsix_any s w env hs
theorem text6 (H L : Nat) (w : World) (env : Env true w) (hL : H < 18446744073709551616 ∧ L < 18446744073709551616) (X : ByteArray) (hX : str (addrS 6 H L) = X) :
    Calls Tryz.prog 5 #[.int .u8 6, .agg #[.int .u64 H, .int .u64 L]] w fun e w' => e = .returned (.tuple #[.string X, .int .i64 0]) ∧ Below w.heap.size w w' := by
  have h := text_yes 6 H L w env (by unfold ca; rw [if_neg (by omega)]; decide) hL.1 hL.2
  rw [hX] at h
  exact h
set_option maxHeartbeats 1000000 in
theorem ap6_core (s : ByteArray) (w : World) (env : Env true w) (hs : s.size ≤ 39) (hc : decide (0 ≤ Lib.indexByte s.data.toList 58) = true) :
    Calls Tryz.prog 7 #[.string s] w fun e w' => e = .returned (.tuple #[.int .u8 (if (addr6 s).isSome = true then 6 else 0), .agg #[.int .u64 (((addr6 s).map (·.1)).getD 0 : Nat), .int .u64 (((addr6 s).map (·.2)).getD 0 : Nat)], .int .i64 (if (addr6 s).isSome = true then 0 else 12)]) ∧ Below w.heap.size w w' := by
  have hG := env.big
  have HE := Lib.hid env
  have hct := Tryz.strings_Contains_one s 58 (w.alloc (.cells #[.int .u64 0, .int .u64 0] 24))
  rw [hc] at hct
  have HCT := Lib.hid hct
  have hbw : Below w.heap.size w (w.alloc (.cells #[.int .u64 0, .int .u64 0] 24)) := (Below.refl _ _).alloc (Nat.le_refl _) _
  have HF := Lib.hid (six_read s (w.alloc (.cells #[.int .u64 0, .int .u64 0] 24)) (env.on hbw) (by omega))
  clear hct env hc hbw
  have hs' : ¬ (39 : Int) < (s.size : Int) := by omega
  obtain ⟨R, hR⟩ : ∃ R, addr6 s = R := ⟨_, rfl⟩
  rw [hR]
  cases h4 : sixP s with
  | none =>
    rw [h4] at HF
    have hr : R = none := by rw [← hR, addr6_none h4]
    subst hr
    clear hR h4
    go_enter Tryz.func7, Tryz.ntmps7
    go_wp2_with fail
    refine HCT.out.mono ?_
    rintro e w1 ⟨rfl, rfl⟩
    go_wp2_with fail
    refine HF.out.mono ?_
    rintro e w2 ⟨rfl, hb2⟩
    have x0 : w2.cell? ⟨w.heap.size, 0, none⟩ = some (.int .u64 0) := by rw [hb2.cell (p := ⟨w.heap.size, 0, none⟩) (by simp)]; simp
    have x1 : w2.cell? ⟨w.heap.size, 1, none⟩ = some (.int .u64 0) := by rw [hb2.cell (p := ⟨w.heap.size, 1, none⟩) (by simp)]; simp
    have y0 : w2.frozen? ⟨w.heap.size, 0, none⟩ = false := by rw [hb2.frozen (p := ⟨w.heap.size, 0, none⟩) (by simp)]; simp
    have y1 : w2.frozen? ⟨w.heap.size, 1, none⟩ = false := by rw [hb2.frozen (p := ⟨w.heap.size, 1, none⟩) (by simp)]; simp
    go_wp2_with fail
    have A := two_set (v0 := .int .u64 0) (v1 := .int .u64 0) x0 x1
    have B := two_set (v0 := .int .u64 0) (v1 := .int .u64 0) A.1 A.2
    refine bodyPost_ret (v := .tuple #[.int .u8 0, .agg #[.int .u64 0, .int .u64 0], .int .i64 12]) (by simp [results, Tryz.results7, go_sem, B.1, B.2]) rfl ⟨rfl, ?_⟩
    exact two_below (two_below (((Below.refl _ _).alloc (Nat.le_refl _) _).trans (hb2.mono (by simp))) (Nat.le_refl _)) (Nat.le_refl _)
  | some HL' =>
    obtain ⟨H, L⟩ := HL'
    have hL := sixP_lt h4
    have HL := Lib.hid hL
    rw [h4] at HF
    have hd := addr6_some h4
    rw [hR] at hd
    clear hR h4 hL
    by_cases he : addrS 6 H L = s.data.toList
    · have hr : R = some (H, L) := by rw [hd, if_pos he]
      subst hr
      have hX : str (addrS 6 H L) = s := by rw [he, str_list]
      have HX := Lib.hid hX
      clear hd he hX
      go_enter Tryz.func7, Tryz.ntmps7
      go_wp2_with fail
      refine HCT.out.mono ?_
      rintro e w1 ⟨rfl, rfl⟩
      go_wp2_with fail
      refine HF.out.mono ?_
      rintro e w2 ⟨rfl, hb2⟩
      have x0 : w2.cell? ⟨w.heap.size, 0, none⟩ = some (.int .u64 0) := by rw [hb2.cell (p := ⟨w.heap.size, 0, none⟩) (by simp)]; simp
      have x1 : w2.cell? ⟨w.heap.size, 1, none⟩ = some (.int .u64 0) := by rw [hb2.cell (p := ⟨w.heap.size, 1, none⟩) (by simp)]; simp
      have y0 : w2.frozen? ⟨w.heap.size, 0, none⟩ = false := by rw [hb2.frozen (p := ⟨w.heap.size, 0, none⟩) (by simp)]; simp
      have y1 : w2.frozen? ⟨w.heap.size, 1, none⟩ = false := by rw [hb2.frozen (p := ⟨w.heap.size, 1, none⟩) (by simp)]; simp
      have HB2 := Lib.hid (((Below.refl w.heap.size w).alloc (Nat.le_refl _) _).trans (hb2.mono (by simp)))
      clear hb2
      go_wp2_with fail
      have A := two_set (v0 := .int .u64 (H : Int)) (v1 := .int .u64 (L : Int)) x0 x1
      have AB := Lib.hid (two_below (v0 := .int .u64 (H : Int)) (v1 := .int .u64 (L : Int)) HB2.out (Nat.le_refl _))
      have z0 : w.heap.size < ((w2.setCell { block := w.heap.size, off := 0 } (Value.int IntKind.u64 (H : Int))).setCell { block := w.heap.size, off := 1 } (Value.int IntKind.u64 (L : Int))).heap.size := by have := World.block_lt_of_cell? _ _ A.1; simpa using this
      have w0 : ((w2.setCell { block := w.heap.size, off := 0 } (Value.int IntKind.u64 (H : Int))).setCell { block := w.heap.size, off := 1 } (Value.int IntKind.u64 (L : Int))).frozen? ⟨w.heap.size, 0, none⟩ = false := by simpa using y0
      have w1' : ((w2.setCell { block := w.heap.size, off := 0 } (Value.int IntKind.u64 (H : Int))).setCell { block := w.heap.size, off := 1 } (Value.int IntKind.u64 (L : Int))).frozen? ⟨w.heap.size, 1, none⟩ = false := by simpa using y1
      generalize hW3 : (w2.setCell { block := w.heap.size, off := 0 } (Value.int IntKind.u64 (H : Int))).setCell { block := w.heap.size, off := 1 } (Value.int IntKind.u64 (L : Int)) = W3 at A AB z0 w0 w1'
      clear hW3 x0 x1 y0 y1
      refine (text6 H L W3 (HE.out.below AB.out hG) HL.out s HX.out).mono ?_
      rintro e w4 ⟨rfl, hb4⟩
      have p0 := (hb4.cell (p := ⟨w.heap.size, 0, none⟩) z0).trans A.1
      have p1 := (hb4.cell (p := ⟨w.heap.size, 1, none⟩) z0).trans A.2
      have q0 := (hb4.frozen (p := ⟨w.heap.size, 0, none⟩) z0).trans w0
      have q1 := (hb4.frozen (p := ⟨w.heap.size, 1, none⟩) z0).trans w1'
      have HB4 := Lib.hid (AB.out.trans (hb4.mono (by omega)))
      clear A hb4 w0 w1' z0
      go_wp2_with fail
      go_region
      all_goals
        go_wp2_with fail
        have B := two_set (v0 := .int .u64 (H : Int)) (v1 := .int .u64 (L : Int)) p0 p1
        refine bodyPost_ret (v := .tuple #[.int .u8 6, .agg #[.int .u64 H, .int .u64 L], .int .i64 0]) (by simp [results, Tryz.results7, go_sem, B.1, B.2]) rfl ⟨rfl, (two_below HB4.out (Nat.le_refl _)).drew⟩
    · have hr : R = none := by rw [hd, if_neg he]
      subst hr
      obtain ⟨X, hX⟩ : ∃ X, str (addrS 6 H L) = X := ⟨_, rfl⟩
      have hne : (X.toList == s.toList) = false := bytes_ne (by
        rw [← hX]
        simpa [str] using he)
      have HX := Lib.hid hX
      clear hd he hX
      go_enter Tryz.func7, Tryz.ntmps7
      go_wp2_with fail
      refine HCT.out.mono ?_
      rintro e w1 ⟨rfl, rfl⟩
      go_wp2_with fail
      refine HF.out.mono ?_
      rintro e w2 ⟨rfl, hb2⟩
      have x0 : w2.cell? ⟨w.heap.size, 0, none⟩ = some (.int .u64 0) := by rw [hb2.cell (p := ⟨w.heap.size, 0, none⟩) (by simp)]; simp
      have x1 : w2.cell? ⟨w.heap.size, 1, none⟩ = some (.int .u64 0) := by rw [hb2.cell (p := ⟨w.heap.size, 1, none⟩) (by simp)]; simp
      have y0 : w2.frozen? ⟨w.heap.size, 0, none⟩ = false := by rw [hb2.frozen (p := ⟨w.heap.size, 0, none⟩) (by simp)]; simp
      have y1 : w2.frozen? ⟨w.heap.size, 1, none⟩ = false := by rw [hb2.frozen (p := ⟨w.heap.size, 1, none⟩) (by simp)]; simp
      have HB2 := Lib.hid (((Below.refl w.heap.size w).alloc (Nat.le_refl _) _).trans (hb2.mono (by simp)))
      clear hb2
      go_wp2_with fail
      have A := two_set (v0 := .int .u64 (H : Int)) (v1 := .int .u64 (L : Int)) x0 x1
      have AB := Lib.hid (two_below (v0 := .int .u64 (H : Int)) (v1 := .int .u64 (L : Int)) HB2.out (Nat.le_refl _))
      have z0 : w.heap.size < ((w2.setCell { block := w.heap.size, off := 0 } (Value.int IntKind.u64 (H : Int))).setCell { block := w.heap.size, off := 1 } (Value.int IntKind.u64 (L : Int))).heap.size := by have := World.block_lt_of_cell? _ _ A.1; simpa using this
      have w0 : ((w2.setCell { block := w.heap.size, off := 0 } (Value.int IntKind.u64 (H : Int))).setCell { block := w.heap.size, off := 1 } (Value.int IntKind.u64 (L : Int))).frozen? ⟨w.heap.size, 0, none⟩ = false := by simpa using y0
      have w1' : ((w2.setCell { block := w.heap.size, off := 0 } (Value.int IntKind.u64 (H : Int))).setCell { block := w.heap.size, off := 1 } (Value.int IntKind.u64 (L : Int))).frozen? ⟨w.heap.size, 1, none⟩ = false := by simpa using y1
      generalize hW3 : (w2.setCell { block := w.heap.size, off := 0 } (Value.int IntKind.u64 (H : Int))).setCell { block := w.heap.size, off := 1 } (Value.int IntKind.u64 (L : Int)) = W3 at A AB z0 w0 w1'
      clear hW3 x0 x1 y0 y1
      refine (text6 H L W3 (HE.out.below AB.out hG) HL.out X HX.out).mono ?_
      rintro e w4 ⟨rfl, hb4⟩
      have p0 := (hb4.cell (p := ⟨w.heap.size, 0, none⟩) z0).trans A.1
      have p1 := (hb4.cell (p := ⟨w.heap.size, 1, none⟩) z0).trans A.2
      have q0 := (hb4.frozen (p := ⟨w.heap.size, 0, none⟩) z0).trans w0
      have q1 := (hb4.frozen (p := ⟨w.heap.size, 1, none⟩) z0).trans w1'
      have HB4 := Lib.hid (AB.out.trans (hb4.mono (by omega)))
      clear A hb4 w0 w1' z0
      go_wp2_with fail
      have B := two_set (v0 := .int .u64 0) (v1 := .int .u64 0) p0 p1
      refine bodyPost_ret (v := .tuple #[.int .u8 0, .agg #[.int .u64 0, .int .u64 0], .int .i64 12]) (by simp [results, Tryz.results7, go_sem, B.1, B.2]) rfl ⟨rfl, two_below HB4.out (Nat.le_refl _)⟩

theorem ap_long (s : ByteArray) (w : World) (hs : 39 < s.size) :
    Calls Tryz.prog 7 #[.string s] w fun e w' => e = .returned (.tuple #[.int .u8 0, .agg #[.int .u64 0, .int .u64 0], .int .i64 12]) ∧ Below w.heap.size w w' := by
  have h1 : (39 : Int) < (s.size : Int) := by omega
  clear hs
  go_enter Tryz.func7, Tryz.ntmps7
  go_wp2_with fail
  refine bodyPost_ret (v := .tuple #[.int .u8 0, .agg #[.int .u64 0, .int .u64 0], .int .i64 12]) (by simp [results, Tryz.results7, go_sem]) rfl ⟨rfl, ?_⟩
  exact (Below.refl _ _).alloc (Nat.le_refl _) _
/-- what AddrParse reads of a string -/
def apR (s : ByteArray) : Option (Nat × Nat × Nat) :=
  if 39 < s.size then none else if 0 ≤ Lib.indexByte s.data.toList 58 then (addr6 s).map fun p => (6, p.1, p.2) else (addr4 s).map fun l => (4, 0, l)
def apF (s : ByteArray) : Nat := ((apR s).map (·.1)).getD 0
def apH (s : ByteArray) : Nat := ((apR s).map (·.2.1)).getD 0
def apL (s : ByteArray) : Nat := ((apR s).map (·.2.2)).getD 0
def apE (s : ByteArray) : Int := if (apR s).isSome = true then 0 else 12
theorem ap_any (s : ByteArray) : ApIs s (apF s) (apH s) (apL s) (apE s) := by
  intro w env
  unfold apF apH apL apE apR
  by_cases h39 : 39 < s.size
  · rw [if_pos h39]
    exact ap_long s w h39
  · rw [if_neg h39]
    by_cases hc : 0 ≤ Lib.indexByte s.data.toList 58
    · rw [if_pos hc]
      have h := ap6_core s w env (by omega) (decide_eq_true hc)
      cases h6 : addr6 s with
      | none => rw [h6] at h; exact h
      | some p => rw [h6] at h; exact h
    · rw [if_neg hc]
      have h := ap4_core s w env (by omega) (decide_eq_false hc)
      cases h4 : addr4 s with
      | none => rw [h4] at h; exact h
      | some p => rw [h4] at h; exact h
end Go.Proofs.YtlikgfmcialepaaGreatDoor
