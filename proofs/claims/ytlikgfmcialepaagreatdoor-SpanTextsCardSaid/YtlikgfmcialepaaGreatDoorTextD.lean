/-
  THE WALKS over the strings of package number: sixText, AddrText.
-/
import Derived.Test.YtlikgfmcialepaaGreatDoorTextC
namespace Go.Proofs.YtlikgfmcialepaaGreatDoor
open Go.RowKit Adr
variable {fl : Bool}
set_option linter.unusedVariables false
theorem str_app (a b : List UInt8) : str (a ++ b) = str a ++ str b := by
  apply ByteArray.ext
  show (a ++ b).toArray = (str a ++ str b).data
  rw [ByteArray.data_append]
  simp [str]
set_option maxRecDepth 100000 in
set_option maxHeartbeats 2000000 in
theorem six_any (g0 g1 g2 g3 g4 g5 g6 g7 : Nat) (w : World) (env : Env fl w) (hlt : ∀ z ∈ [g0, g1, g2, g3, g4, g5, g6, g7], z < 65536) :
    Calls Tryz.prog 23 #[.agg #[.int .u16 g0, .int .u16 g1, .int .u16 g2, .int .u16 g3, .int .u16 g4, .int .u16 g5, .int .u16 g6, .int .u16 g7]] w fun e w' => e = .returned (.string (str (sixS [g0, g1, g2, g3, g4, g5, g6, g7]))) ∧ Below w.heap.size w w' := by
  have hG := env.big
  have HE := Lib.hid env
  have HZ := Lib.hid hlt
  clear env hlt
  have hlz := lz_any g0 g1 g2 g3 g4 g5 g6 g7 (w.alloc (.cells #[.int .u16 g0, .int .u16 g1, .int .u16 g2, .int .u16 g3, .int .u16 g4, .int .u16 g5, .int .u16 g6, .int .u16 g7] 63))
  obtain ⟨zs, hzs⟩ : ∃ zs, [g0, g1, g2, g3, g4, g5, g6, g7] = zs := ⟨_, rfl⟩
  have hfin := lz_fin fun j => zs.getD j 0 == 0
  obtain ⟨a, ha⟩ : ∃ a, lzFrom (fun j => zs.getD j 0 == 0) = a := ⟨_, rfl⟩
  obtain ⟨b, hb⟩ : ∃ b, lzTo (fun j => zs.getD j 0 == 0) = b := ⟨_, rfl⟩
  have hS : sixS zs = if a = b then colS zs else colS (zs.take a) ++ [58, 58] ++ colS (zs.drop b) := by unfold sixS; rw [ha, hb]
  rw [hzs] at hlz HZ ⊢
  rw [ha, hb] at hlz hfin
  have hlen : zs.length = 8 := by rw [← hzs]; rfl
  have hcz : ∀ j, j < 8 → (w.alloc (.cells #[.int .u16 g0, .int .u16 g1, .int .u16 g2, .int .u16 g3, .int .u16 g4, .int .u16 g5, .int .u16 g6, .int .u16 g7] 63)).cell? ⟨w.heap.size, j, none⟩ = some (.int .u16 ((zs.getD j 0 : Nat) : Int)) := fun j hj => by
    rw [← hzs]
    have hj0 : j = 0 ∨ j = 1 ∨ j = 2 ∨ j = 3 ∨ j = 4 ∨ j = 5 ∨ j = 6 ∨ j = 7 := by omega
    rcases hj0 with rfl | rfl | rfl | rfl | rfl | rfl | rfl | rfl <;> exact (World.cell?_alloc_at _ _ _ _ rfl).trans rfl
  have HL := Lib.hid hlz
  have HC := Lib.hid hcz
  have HS := Lib.hid hS
  have HLen := Lib.hid hlen
  clear hlz hcz hS hlen hzs ha hb
  go_enter Tryz.func23, Tryz.ntmps23
  go_wp2_with fail
  refine HL.out.mono ?_
  rintro e w1 ⟨rfl, hb1⟩
  have hz1 : w.heap.size < w1.heap.size := by have := hb1.size; simp at this; omega
  have HC1 := Lib.hid (show ∀ j, j < 8 → w1.cell? ⟨w.heap.size, j, none⟩ = some (.int .u16 ((zs.getD j 0 : Nat) : Int)) from fun j hj => (hb1.cell (p := ⟨w.heap.size, j, none⟩) (by simp)).trans (HC.out j hj))
  have HB := Lib.hid (show Below w.heap.size w w1 from ((Below.refl _ _).alloc (Nat.le_refl _) _).trans (hb1.mono (by simp)))
  clear hb1
  by_cases hab : a = b
  · have hab' : ((a : Int) == (b : Int)) = true := beq_iff_eq.2 (by omega)
    have HAB := Lib.hid hab
    clear hab
    go_wp2_with fail
    refine (col_any w.heap.size 0 8 8 zs w1 (HE.out.below HB.out hG) HLen.out (by omega) HZ.out hz1 (fun j hj => by rw [Nat.zero_add]; exact HC1.out j hj)).mono ?_
    rintro e w2 ⟨rfl, hb2⟩
    go_wp2_with fail
    go_ret
    exact ⟨by rw [HS.out, if_pos HAB.out]; rfl, HB.out.trans (hb2.mono (by omega))⟩
  · have hab' : ((a : Int) == (b : Int)) = false := beq_eq_false_iff_ne.2 (by omega)
    have HAB := Lib.hid hab
    clear hab
    obtain ⟨X, hX⟩ : ∃ X, str (colS (zs.take a)) = X := ⟨_, rfl⟩
    obtain ⟨Y, hY⟩ : ∃ Y, str (colS (zs.drop b)) = Y := ⟨_, rfl⟩
    have t0 : (zs.take a).length = a := by rw [List.length_take, HLen.out]; omega
    have t1 : (zs.drop b).length = 8 - b := by rw [List.length_drop, HLen.out]
    have hx1 : Calls Tryz.prog 53 #[.slice (some ⟨w.heap.size, 0, none⟩) a 8] w1.drew fun e w' => e = .returned (.string X) ∧ Below w1.drew.heap.size w1.drew w' := by
      rw [← hX]
      exact col_any w.heap.size 0 a 8 (zs.take a) w1.drew (HE.out.below HB.out.drew hG) t0 (by omega) (fun z hz => HZ.out z (List.mem_of_mem_take hz)) hz1 (fun j hj => by
        rw [Nat.zero_add]
        refine (HC1.out j (by omega)).trans ?_
        simp [List.getD, hj])
    have hy1 : ∀ (o c : Nat) (W : World), (o = b ∨ 8 - b = 0) → Below w1.drew.heap.size w1.drew W → Calls Tryz.prog 53 #[.slice (some ⟨w.heap.size, o, none⟩) (8 - b) c] W fun e w' => e = .returned (.string Y) ∧ Below W.heap.size W w' := by
      intro o c W ho hW
      rw [← hY]
      have hBW : Below w.heap.size w W := HB.out.drew.trans (hW.mono (by simp; omega))
      exact col_any w.heap.size o (8 - b) c (zs.drop b) W (HE.out.below hBW hG) t1 (by omega) (fun z hz => HZ.out z (List.mem_of_mem_drop hz)) (by have := hW.size; simp at this; omega) (fun j hj => by
        rcases ho with rfl | ho
        · rw [hW.cell (p := ⟨w.heap.size, o + j, none⟩) (by simpa using hz1), World.cell?_drew, HC1.out _ (by omega)]
          simp [List.getD, List.getElem?_drop]
        · omega)
    have HX1 := Lib.hid hx1
    have HY1 := Lib.hid hy1
    have HX := Lib.hid hX
    have HY := Lib.hid hY
    obtain ⟨f1, f2⟩ := hfin
    have k1 : (0 : Int) ≤ (a : Int) := by omega
    have k2 : (a : Int) ≤ 8 := by omega
    have k3 : (0 : Int) ≤ (b : Int) := by omega
    have k4 : (b : Int) ≤ 8 := by omega
    have s1 : X.size ≤ 40 := by
      rw [← hX]
      have h1 := join_len (zs.take a)
      show (Lib.join ((zs.take a).map hex4) [58]).toArray.size ≤ 40
      rw [List.size_toArray]
      omega
    have s2 : Y.size ≤ 40 := by
      rw [← hY]
      have h1 := join_len (zs.drop b)
      show (Lib.join ((zs.drop b).map hex4) [58]).toArray.size ≤ 40
      rw [List.size_toArray]
      omega
    clear hx1 hy1 hX hY t0 t1
    go_wp2_with fail
    by_cases hb8 : b = 8
    · subst hb8
      have HY8 := Lib.hid (show ∀ W, Below w1.drew.heap.size w1.drew W → Calls Tryz.prog 53 #[.slice (some ⟨w.heap.size, 0, none⟩) 0 0] W fun e w' => e = .returned (.string Y) ∧ Below W.heap.size W w' from fun W hW => HY1.out 0 0 W (Or.inr rfl) hW)
      go_region_with (first | (go_at_call_of 53 (Value.slice (some ⟨w.heap.size, 0, none⟩) a 8); refine HX1.out.mono ?_; rintro e w2 ⟨rfl, hb2⟩) | (go_at_call 53; refine (HY8.out _ hb2).mono ?_; rintro e w3 ⟨rfl, hb3⟩))
      all_goals
        go_wp2
        go_ret
        refine ⟨?_, (HB.out.drew.trans (hb2.mono (by simp; omega))).trans (hb3.mono (by have := hb2.size; simp at this; omega))⟩
        rw [HS.out, if_neg HAB.out, str_app, str_app, HX.out, HY.out]
        rfl
    · go_region_with (first | (go_at_call_of 53 (Value.slice (some ⟨w.heap.size, 0, none⟩) a 8); refine HX1.out.mono ?_; rintro e w2 ⟨rfl, hb2⟩) | (go_at_call 53; refine (HY1.out _ _ _ (Or.inl rfl) hb2).mono ?_; rintro e w3 ⟨rfl, hb3⟩))
      all_goals
        go_wp2
        go_ret
        refine ⟨?_, (HB.out.drew.trans (hb2.mono (by simp; omega))).trans (hb3.mono (by have := hb2.size; simp at this; omega))⟩
        rw [HS.out, if_neg HAB.out, str_app, str_app, HX.out, HY.out]
        rfl
/-- the string of an address -/
def addrS (f : Int) (H L : Nat) : List UInt8 := if f = 4 then fourS L else sixS (gs H L)
set_option maxHeartbeats 1000000 in
theorem text_no (f : Int) (H L : Nat) (w : World) (hc : ca f H L = false) :
    Calls Tryz.prog 5 #[.int .u8 f, .agg #[.int .u64 H, .int .u64 L]] w fun e w' => e = .returned (.tuple #[.string ⟨#[]⟩, .int .i64 2]) ∧ Below w.heap.size w w' := by
  go_enter Tryz.func5, Tryz.ntmps5
  go_wp2_with (go_at_call 21; refine (ca_any _ _ _ _ (by omega)).mono ?_; rintro e w1 ⟨rfl, hb1⟩)
  go_ret2
  exact ⟨rfl, ((Below.refl _ _).alloc (Nat.le_refl _) _).trans (hb1.mono (by simp))⟩
set_option maxHeartbeats 1000000 in
theorem text_yes (f : Int) (H L : Nat) (w : World) (env : Env fl w) (hc : ca f H L = true) (hH : H < 18446744073709551616) (hL : L < 18446744073709551616) :
    Calls Tryz.prog 5 #[.int .u8 f, .agg #[.int .u64 H, .int .u64 L]] w fun e w' => e = .returned (.tuple #[.string (str (addrS f H L)), .int .i64 0]) ∧ Below w.heap.size w w' := by
  have hG := env.big
  have HE := Lib.hid env
  have HL := Lib.hid hL
  clear env hL hH
  by_cases h4 : f = 4
  · have hf4 : (f == 4) = true := by simp [h4]
    rw [show addrS f H L = fourS L by unfold addrS; rw [if_pos h4]]
    clear h4
    go_enter Tryz.func5, Tryz.ntmps5
    go_wp2_with (go_at_call 21; refine (ca_any _ _ _ _ (by omega)).mono ?_; rintro e w1 ⟨rfl, hb1⟩; obtain ⟨hc1, hf1⟩ := bcell hb1)
    have HB := Lib.hid (show Below w.heap.size w w1 from ((Below.refl _ _).alloc (Nat.le_refl _) _).trans (hb1.mono (by simp)))
    refine (four_any H L w1 (HE.out.below HB.out hG) HL.out).mono ?_
    rintro e w2 ⟨rfl, hb2⟩
    go_wp2_with fail
    go_ret2
    exact ⟨rfl, HB.out.trans (hb2.mono (by have := HB.out.size; omega))⟩
  · have hf4 : (f == 4) = false := by simp [h4]
    rw [show addrS f H L = sixS (gs H L) by unfold addrS; rw [if_neg h4]]
    clear h4
    go_enter Tryz.func5, Tryz.ntmps5
    go_wp2_with (go_at_call 21; refine (ca_any _ _ _ _ (by omega)).mono ?_; rintro e w1 ⟨rfl, hb1⟩; obtain ⟨hc1, hf1⟩ := bcell hb1)
    have HB := Lib.hid (show Below w.heap.size w w1 from ((Below.refl _ _).alloc (Nat.le_refl _) _).trans (hb1.mono (by simp)))
    refine (divide_any H L w1).mono ?_
    rintro e w2 ⟨rfl, hb2⟩
    have HB2 := Lib.hid (HB.out.trans (hb2.mono (by have := HB.out.size; omega)))
    have H6 := Lib.hid (six_any (H / 281474976710656 % 65536) (H / 4294967296 % 65536) (H / 65536 % 65536) (H % 65536) (L / 281474976710656 % 65536) (L / 4294967296 % 65536) (L / 65536 % 65536) (L % 65536) w2 (HE.out.below HB2.out hG) (by
      intro z hz
      simp only [List.mem_cons, List.not_mem_nil, or_false] at hz
      omega))
    go_wp2_with fail
    refine H6.out.mono ?_
    rintro e w3 ⟨rfl, hb3⟩
    go_wp2_with fail
    go_ret2
    exact ⟨rfl, HB2.out.trans (hb3.mono (by have := HB2.out.size; omega))⟩
theorem text_any (f : Int) (H L : Nat) (w : World) (env : Env fl w) (hH : H < 18446744073709551616) (hL : L < 18446744073709551616) :
    Calls Tryz.prog 5 #[.int .u8 f, .agg #[.int .u64 H, .int .u64 L]] w fun e w' => e = .returned (.tuple #[.string (str (if ca f H L = true then addrS f H L else [])), .int .i64 (if ca f H L = true then 0 else 2)]) ∧ Below w.heap.size w w' := by
  cases hc : ca f H L
  · rw [if_neg (by simp), if_neg (by simp)]
    exact text_no f H L w hc
  · rw [if_pos rfl, if_pos rfl]
    exact text_yes f H L w env hc hH hL
end Go.Proofs.YtlikgfmcialepaaGreatDoor
