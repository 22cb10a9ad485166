/-
  THE WALKS over the strings of package number: Parse.
-/
import Derived.Test.YtlikgfmcialepaaGreatDoorTextG
namespace Go.Proofs.YtlikgfmcialepaaGreatDoor
open Go.RowKit Adr
set_option linter.unusedVariables false
def cutA (s : ByteArray) : ByteArray := ⟨(Lib.cut s.data.toList [47]).1.toArray⟩
def cutB (s : ByteArray) : ByteArray := ⟨(Lib.cut s.data.toList [47]).2.1.toArray⟩
theorem cut_small (s : ByteArray) : (cutA s).size ≤ s.size ∧ (cutB s).size ≤ s.size := by
  have hs : s.data.toList.length = s.size := by simp
  unfold cutA cutB Lib.cut
  split
  · constructor
    · show (List.take _ _).toArray.size ≤ _
      rw [List.size_toArray, List.length_take]
      omega
    · show (List.drop _ _).toArray.size ≤ _
      rw [List.size_toArray, List.length_drop]
      omega
  · constructor
    · show (s.data.toList).toArray.size ≤ _
      rw [List.size_toArray]
      omega
    · show ([] : List UInt8).toArray.size ≤ _
      simp
/-- what AddrParse answers at a string -/
def ApIs (A : ByteArray) (f h l ec : Int) : Prop :=
  ∀ w, Env true w → Calls Tryz.prog 7 #[.string A] w fun e w' => e = .returned (.tuple #[.int .u8 f, .agg #[.int .u64 h, .int .u64 l], .int .i64 ec]) ∧ Below w.heap.size w w'
def PfxLeft (f h l n ec : Int) (w : World) (e : Ending) (w' : World) : Prop :=
  e = .returned (.tuple #[.agg #[.int .u8 f, .int .u64 h, .int .u64 l, .int .i64 n], .int .i64 ec]) ∧ Below w.heap.size w w'
theorem four_set {w : World} {b : Nat} {v0 v1 v2 v3 u0 u1 u2 u3 : Value} (c0 : w.cell? ⟨b, 0, none⟩ = some u0) (c1 : w.cell? ⟨b, 1, none⟩ = some u1) (c2 : w.cell? ⟨b, 2, none⟩ = some u2) (c3 : w.cell? ⟨b, 3, none⟩ = some u3) :
    ((((w.setCell ⟨b, 0, none⟩ v0).setCell ⟨b, 1, none⟩ v1).setCell ⟨b, 2, none⟩ v2).setCell ⟨b, 3, none⟩ v3).cell? ⟨b, 0, none⟩ = some v0 ∧ ((((w.setCell ⟨b, 0, none⟩ v0).setCell ⟨b, 1, none⟩ v1).setCell ⟨b, 2, none⟩ v2).setCell ⟨b, 3, none⟩ v3).cell? ⟨b, 1, none⟩ = some v1 ∧ ((((w.setCell ⟨b, 0, none⟩ v0).setCell ⟨b, 1, none⟩ v1).setCell ⟨b, 2, none⟩ v2).setCell ⟨b, 3, none⟩ v3).cell? ⟨b, 2, none⟩ = some v2 ∧ ((((w.setCell ⟨b, 0, none⟩ v0).setCell ⟨b, 1, none⟩ v1).setCell ⟨b, 2, none⟩ v2).setCell ⟨b, 3, none⟩ v3).cell? ⟨b, 3, none⟩ = some v3 :=
  ⟨cell_far (cell_far (cell_far (cell_same c0) (by simp)) (by simp)) (by simp), cell_far (cell_far (cell_same (cell_far c1 (by simp))) (by simp)) (by simp), cell_far (cell_same (cell_far (cell_far c2 (by simp)) (by simp))) (by simp), cell_same (cell_far (cell_far (cell_far c3 (by simp)) (by simp)) (by simp))⟩
theorem four_below {n b : Nat} {u w : World} {v0 v1 v2 v3 : Value} (h : Below n u w) (hb : n ≤ b) : Below n u ((((w.setCell ⟨b, 0, none⟩ v0).setCell ⟨b, 1, none⟩ v1).setCell ⟨b, 2, none⟩ v2).setCell ⟨b, 3, none⟩ v3) := (((h.setCell hb _).setCell hb _).setCell hb _).setCell hb _
/-- the cell of the result, as it was made -/
def Res (b : Nat) (w : World) : Prop :=
  b < w.heap.size ∧ w.cell? ⟨b, 0, none⟩ = some (.int .u8 0) ∧ w.cell? ⟨b, 1, none⟩ = some (.int .u64 0) ∧ w.cell? ⟨b, 2, none⟩ = some (.int .u64 0) ∧ w.cell? ⟨b, 3, none⟩ = some (.int .i64 0) ∧ ∀ j, w.frozen? ⟨b, j, none⟩ = false
theorem Res.keep {b : Nat} {w w' : World} (h : Res b w) (hb : Below w.heap.size w w') : Res b w' := by
  obtain ⟨h0, h1, h2, h3, h4, h5⟩ := h
  exact ⟨Nat.lt_of_lt_of_le h0 hb.size, (hb.cell (p := ⟨b, 0, none⟩) h0).trans h1, (hb.cell (p := ⟨b, 1, none⟩) h0).trans h2, (hb.cell (p := ⟨b, 2, none⟩) h0).trans h3, (hb.cell (p := ⟨b, 3, none⟩) h0).trans h4, fun j => (hb.frozen (p := ⟨b, j, none⟩) h0).trans (h5 j)⟩
theorem Res.start (w : World) : Res w.heap.size (w.alloc (.cells #[.int .u8 0, .int .u64 0, .int .u64 0, .int .i64 0] 26)) :=
  ⟨by simp, by simp, by simp, by simp, by simp, fun j => by simp⟩
theorem Res.drawn {b : Nat} {w : World} (h : Res b w) (n : Nat) : Res b (w.drewN n) := h
set_option maxHeartbeats 1000000 in
theorem parse_no1 (s : ByteArray) (f h l ec : Int) (w : World) (env : Env true w) (hs : s.size ≤ 1000) (hap : ApIs (cutA s) f h l ec) (hec : (ec != 0) = true) :
    Calls Tryz.prog 11 #[.string s] w (PfxLeft 0 0 0 0 12 w) := by
  have hG := env.big
  have HE := Lib.hid env
  obtain ⟨m, hm⟩ := env.mx
  have hcut := Tryz.strings_Cut s ⟨#[47]⟩ m (w.alloc (.cells #[.int .u8 0, .int .u64 0, .int .u64 0, .int .i64 0] 26)) (by omega) ((World.cell?_alloc_past _ _ _ (by omega)).trans hm)
  have HCUT := Lib.hid hcut
  have HAP := Lib.hid hap
  have HS := Lib.hid (cut_small s)
  have HSZ := Lib.hid hs
  clear hcut hap env hs hm
  go_enter Tryz.func11, Tryz.ntmps11
  go_wp2_with fail
  refine HCUT.out.mono ?_
  rintro e w1 ⟨rfl, nq, rfl⟩
  go_wp2_with fail
  have HB1 := Lib.hid (show Below w.heap.size w ((w.alloc (.cells #[.int .u8 0, .int .u64 0, .int .u64 0, .int .i64 0] 26)).drewN nq) from below_drewN ((Below.refl _ _).alloc (Nat.le_refl _) _) _)
  have HR1 := Lib.hid ((Res.start w).drawn nq)
  refine (HAP.out _ (HE.out.below HB1.out hG)).mono ?_
  rintro e w2 ⟨rfl, hb2⟩
  have HB2 := Lib.hid (HB1.out.trans (hb2.mono (by simp)))
  have HR2 := Lib.hid (HR1.out.keep hb2)
  clear hb2
  go_wp2_with fail
  generalize hv3 : w2.alloc _ = v3
  have hbv : Below w2.heap.size w2 v3 := by rw [← hv3]; exact (Below.refl _ _).alloc (Nat.le_refl _) _
  have a0 : v3.cell? ⟨w2.heap.size, 0, none⟩ = some (.int .u64 h) := by rw [← hv3]; exact (World.cell?_alloc_at _ _ _ _ rfl).trans rfl
  have a1 : v3.cell? ⟨w2.heap.size, 1, none⟩ = some (.int .u64 l) := by rw [← hv3]; exact (World.cell?_alloc_at _ _ _ _ rfl).trans rfl
  have az : w2.heap.size < v3.heap.size := by rw [← hv3]; simp
  have HB3 := Lib.hid (HB2.out.trans (hbv.mono (by have := HB2.out.size; omega)))
  have HR3 := Lib.hid (HR2.out.keep hbv)
  clear hv3 hbv
  refine (rd8 (cutB s) v3 (HE.out.below HB3.out hG) (by have := HS.out.2; have := HSZ.out; omega)).mono ?_
  rintro e w4 ⟨rfl, hb4⟩
  have HB4 := Lib.hid (HB3.out.trans (hb4.mono (by have := HB3.out.size; omega)))
  have HR4 := Lib.hid (HR3.out.keep hb4)
  obtain ⟨r0, r1, r2, r3, r4, r5⟩ := HR4.out
  clear hb4 a0 a1
  go_wp2_with fail
  have B := four_set (v0 := .int .u8 0) (v1 := .int .u64 0) (v2 := .int .u64 0) (v3 := .int .i64 0) r1 r2 r3 r4
  refine bodyPost_ret (v := .tuple #[.agg #[.int .u8 0, .int .u64 0, .int .u64 0, .int .i64 0], .int .i64 12]) (by simp [results, Tryz.results11, go_sem, B.1, B.2.1, B.2.2.1, B.2.2.2]) rfl ⟨rfl, four_below HB4.out (Nat.le_refl _)⟩
set_option maxHeartbeats 1000000 in
theorem parse_no2 (s : ByteArray) (f h l ec : Int) (w : World) (env : Env true w) (hs : s.size ≤ 1000) (hap : ApIs (cutA s) f h l ec) (hec : (ec != 0) = false) (hrd : rdec 8 (cutB s).data.toList = none) :
    Calls Tryz.prog 11 #[.string s] w (PfxLeft 0 0 0 0 12 w) := by
  have hG := env.big
  have HE := Lib.hid env
  obtain ⟨m, hm⟩ := env.mx
  have hcut := Tryz.strings_Cut s ⟨#[47]⟩ m (w.alloc (.cells #[.int .u8 0, .int .u64 0, .int .u64 0, .int .i64 0] 26)) (by omega) ((World.cell?_alloc_past _ _ _ (by omega)).trans hm)
  have HCUT := Lib.hid hcut
  have HAP := Lib.hid hap
  have HS := Lib.hid (cut_small s)
  have HSZ := Lib.hid hs
  have HRD := Lib.hid hrd
  clear hrd
  clear hcut hap env hs hm
  go_enter Tryz.func11, Tryz.ntmps11
  go_wp2_with fail
  refine HCUT.out.mono ?_
  rintro e w1 ⟨rfl, nq, rfl⟩
  go_wp2_with fail
  have HB1 := Lib.hid (show Below w.heap.size w ((w.alloc (.cells #[.int .u8 0, .int .u64 0, .int .u64 0, .int .i64 0] 26)).drewN nq) from below_drewN ((Below.refl _ _).alloc (Nat.le_refl _) _) _)
  have HR1 := Lib.hid ((Res.start w).drawn nq)
  refine (HAP.out _ (HE.out.below HB1.out hG)).mono ?_
  rintro e w2 ⟨rfl, hb2⟩
  have HB2 := Lib.hid (HB1.out.trans (hb2.mono (by simp)))
  have HR2 := Lib.hid (HR1.out.keep hb2)
  clear hb2
  go_wp2_with fail
  generalize hv3 : w2.alloc _ = v3
  have hbv : Below w2.heap.size w2 v3 := by rw [← hv3]; exact (Below.refl _ _).alloc (Nat.le_refl _) _
  have a0 : v3.cell? ⟨w2.heap.size, 0, none⟩ = some (.int .u64 h) := by rw [← hv3]; exact (World.cell?_alloc_at _ _ _ _ rfl).trans rfl
  have a1 : v3.cell? ⟨w2.heap.size, 1, none⟩ = some (.int .u64 l) := by rw [← hv3]; exact (World.cell?_alloc_at _ _ _ _ rfl).trans rfl
  have az : w2.heap.size < v3.heap.size := by rw [← hv3]; simp
  have HB3 := Lib.hid (HB2.out.trans (hbv.mono (by have := HB2.out.size; omega)))
  have HR3 := Lib.hid (HR2.out.keep hbv)
  clear hv3 hbv
  refine (rd8 (cutB s) v3 (HE.out.below HB3.out hG) (by have := HS.out.2; have := HSZ.out; omega)).mono ?_
  rw [HRD.out]
  rintro e w4 ⟨rfl, hb4⟩
  have HB4 := Lib.hid (HB3.out.trans (hb4.mono (by have := HB3.out.size; omega)))
  have HR4 := Lib.hid (HR3.out.keep hb4)
  obtain ⟨r0, r1, r2, r3, r4, r5⟩ := HR4.out
  clear hb4 a0 a1
  go_wp2_with fail
  have B := four_set (v0 := .int .u8 0) (v1 := .int .u64 0) (v2 := .int .u64 0) (v3 := .int .i64 0) r1 r2 r3 r4
  refine bodyPost_ret (v := .tuple #[.agg #[.int .u8 0, .int .u64 0, .int .u64 0, .int .i64 0], .int .i64 12]) (by simp [results, Tryz.results11, go_sem, B.1, B.2.1, B.2.2.1, B.2.2.2]) rfl ⟨rfl, four_below HB4.out (Nat.le_refl _)⟩
set_option maxHeartbeats 1000000 in
theorem parse_ck (s : ByteArray) (f h l ec : Int) (w : World) (env : Env true w) (hs : s.size ≤ 1000) (hap : ApIs (cutA s) f h l ec) (hec : (ec != 0) = false) (n : Nat) (hn : n < 256) (hrd : rdec 8 (cutB s).data.toList = some n) (uh : U64 h) (ul : U64 l) (c : Int) (hck : chk f h l n = c) (hc0 : (c != 0) = true) :
    Calls Tryz.prog 11 #[.string s] w (PfxLeft 0 0 0 0 12 w) := by
  have hG := env.big
  have HE := Lib.hid env
  obtain ⟨m, hm⟩ := env.mx
  have hcut := Tryz.strings_Cut s ⟨#[47]⟩ m (w.alloc (.cells #[.int .u8 0, .int .u64 0, .int .u64 0, .int .i64 0] 26)) (by omega) ((World.cell?_alloc_past _ _ _ (by omega)).trans hm)
  have HCUT := Lib.hid hcut
  have HAP := Lib.hid hap
  have HS := Lib.hid (cut_small s)
  have HSZ := Lib.hid hs
  have HRD := Lib.hid hrd
  have HCK := Lib.hid (fun w => chk_call f h l n w uh ul c hck)
  clear hrd
  clear hcut hap env hs hm
  go_enter Tryz.func11, Tryz.ntmps11
  go_wp2_with fail
  refine HCUT.out.mono ?_
  rintro e w1 ⟨rfl, nq, rfl⟩
  go_wp2_with fail
  have HB1 := Lib.hid (show Below w.heap.size w ((w.alloc (.cells #[.int .u8 0, .int .u64 0, .int .u64 0, .int .i64 0] 26)).drewN nq) from below_drewN ((Below.refl _ _).alloc (Nat.le_refl _) _) _)
  have HR1 := Lib.hid ((Res.start w).drawn nq)
  refine (HAP.out _ (HE.out.below HB1.out hG)).mono ?_
  rintro e w2 ⟨rfl, hb2⟩
  have HB2 := Lib.hid (HB1.out.trans (hb2.mono (by simp)))
  have HR2 := Lib.hid (HR1.out.keep hb2)
  clear hb2
  go_wp2_with fail
  generalize hv3 : w2.alloc _ = v3
  have hbv : Below w2.heap.size w2 v3 := by rw [← hv3]; exact (Below.refl _ _).alloc (Nat.le_refl _) _
  have a0 : v3.cell? ⟨w2.heap.size, 0, none⟩ = some (.int .u64 h) := by rw [← hv3]; exact (World.cell?_alloc_at _ _ _ _ rfl).trans rfl
  have a1 : v3.cell? ⟨w2.heap.size, 1, none⟩ = some (.int .u64 l) := by rw [← hv3]; exact (World.cell?_alloc_at _ _ _ _ rfl).trans rfl
  have az : w2.heap.size < v3.heap.size := by rw [← hv3]; simp
  have HB3 := Lib.hid (HB2.out.trans (hbv.mono (by have := HB2.out.size; omega)))
  have HR3 := Lib.hid (HR2.out.keep hbv)
  clear hv3 hbv
  refine (rd8 (cutB s) v3 (HE.out.below HB3.out hG) (by have := HS.out.2; have := HSZ.out; omega)).mono ?_
  rw [HRD.out]
  rintro e w4 ⟨rfl, hb4⟩
  have HB4 := Lib.hid (HB3.out.trans (hb4.mono (by have := HB3.out.size; omega)))
  have HR4 := Lib.hid (HR3.out.keep hb4)
  have b0 := (hb4.cell (p := ⟨w2.heap.size, 0, none⟩) az).trans a0
  have b1 := (hb4.cell (p := ⟨w2.heap.size, 1, none⟩) az).trans a1
  clear hb4 a0 a1
  go_wp2_with fail
  generalize hv5 : w4.alloc _ = v5
  have hbv5 : Below w4.heap.size w4 v5 := by rw [← hv5]; exact (Below.refl _ _).alloc (Nat.le_refl _) _
  have e0 : v5.cell? ⟨w4.heap.size, 0, none⟩ = some (.int .u8 f) := by rw [← hv5]; exact (World.cell?_alloc_at _ _ _ _ rfl).trans rfl
  have e1 : v5.cell? ⟨w4.heap.size, 1, none⟩ = some (.int .u64 h) := by rw [← hv5]; exact (World.cell?_alloc_at _ _ _ _ rfl).trans rfl
  have e2 : v5.cell? ⟨w4.heap.size, 2, none⟩ = some (.int .u64 l) := by rw [← hv5]; exact (World.cell?_alloc_at _ _ _ _ rfl).trans rfl
  have e3 : v5.cell? ⟨w4.heap.size, 3, none⟩ = some (.int .i64 n) := by rw [← hv5]; exact (World.cell?_alloc_at _ _ _ _ rfl).trans rfl
  have ez : w4.heap.size < v5.heap.size := by rw [← hv5]; simp
  have HB5 := Lib.hid (HB4.out.trans (hbv5.mono (by have := HB4.out.size; omega)))
  have HR5 := Lib.hid (HR4.out.keep hbv5)
  clear hv5 hbv5 b0 b1
  refine (HCK.out v5).mono ?_
  rintro e w6 ⟨rfl, hb6⟩
  have HB6 := Lib.hid (HB5.out.trans (hb6.mono (by have := HB5.out.size; omega)))
  have HR6 := Lib.hid (HR5.out.keep hb6)
  have g0 := (hb6.cell (p := ⟨w4.heap.size, 0, none⟩) ez).trans e0
  have g1 := (hb6.cell (p := ⟨w4.heap.size, 1, none⟩) ez).trans e1
  have g2 := (hb6.cell (p := ⟨w4.heap.size, 2, none⟩) ez).trans e2
  have g3 := (hb6.cell (p := ⟨w4.heap.size, 3, none⟩) ez).trans e3
  obtain ⟨r0, r1, r2, r3, r4, r5⟩ := HR6.out
  clear hb6 e0 e1 e2 e3
  go_wp2_with fail
  have B := four_set (v0 := .int .u8 0) (v1 := .int .u64 0) (v2 := .int .u64 0) (v3 := .int .i64 0) r1 r2 r3 r4
  refine bodyPost_ret (v := .tuple #[.agg #[.int .u8 0, .int .u64 0, .int .u64 0, .int .i64 0], .int .i64 12]) (by simp [results, Tryz.results11, go_sem, B.1, B.2.1, B.2.2.1, B.2.2.2]) rfl ⟨rfl, four_below HB6.out (Nat.le_refl _)⟩
set_option maxHeartbeats 1000000 in
theorem parse_yes (s : ByteArray) (f h l ec : Int) (w : World) (env : Env true w) (hs : s.size ≤ 1000) (hap : ApIs (cutA s) f h l ec) (hec : (ec != 0) = false) (n : Nat) (hn : n < 256) (hrd : rdec 8 (cutB s).data.toList = some n) (uh : U64 h) (ul : U64 l) (hck : chk f h l n = 0) :
    Calls Tryz.prog 11 #[.string s] w (PfxLeft f h l n 0 w) := by
  have hG := env.big
  have HE := Lib.hid env
  obtain ⟨m, hm⟩ := env.mx
  have hcut := Tryz.strings_Cut s ⟨#[47]⟩ m (w.alloc (.cells #[.int .u8 0, .int .u64 0, .int .u64 0, .int .i64 0] 26)) (by omega) ((World.cell?_alloc_past _ _ _ (by omega)).trans hm)
  have HCUT := Lib.hid hcut
  have HAP := Lib.hid hap
  have HS := Lib.hid (cut_small s)
  have HSZ := Lib.hid hs
  have HRD := Lib.hid hrd
  have HCK := Lib.hid (fun w => chk_call f h l n w uh ul 0 hck)
  clear hrd
  clear hcut hap env hs hm
  go_enter Tryz.func11, Tryz.ntmps11
  go_wp2_with fail
  refine HCUT.out.mono ?_
  rintro e w1 ⟨rfl, nq, rfl⟩
  go_wp2_with fail
  have HB1 := Lib.hid (show Below w.heap.size w ((w.alloc (.cells #[.int .u8 0, .int .u64 0, .int .u64 0, .int .i64 0] 26)).drewN nq) from below_drewN ((Below.refl _ _).alloc (Nat.le_refl _) _) _)
  have HR1 := Lib.hid ((Res.start w).drawn nq)
  refine (HAP.out _ (HE.out.below HB1.out hG)).mono ?_
  rintro e w2 ⟨rfl, hb2⟩
  have HB2 := Lib.hid (HB1.out.trans (hb2.mono (by simp)))
  have HR2 := Lib.hid (HR1.out.keep hb2)
  clear hb2
  go_wp2_with fail
  generalize hv3 : w2.alloc _ = v3
  have hbv : Below w2.heap.size w2 v3 := by rw [← hv3]; exact (Below.refl _ _).alloc (Nat.le_refl _) _
  have a0 : v3.cell? ⟨w2.heap.size, 0, none⟩ = some (.int .u64 h) := by rw [← hv3]; exact (World.cell?_alloc_at _ _ _ _ rfl).trans rfl
  have a1 : v3.cell? ⟨w2.heap.size, 1, none⟩ = some (.int .u64 l) := by rw [← hv3]; exact (World.cell?_alloc_at _ _ _ _ rfl).trans rfl
  have az : w2.heap.size < v3.heap.size := by rw [← hv3]; simp
  have HB3 := Lib.hid (HB2.out.trans (hbv.mono (by have := HB2.out.size; omega)))
  have HR3 := Lib.hid (HR2.out.keep hbv)
  clear hv3 hbv
  refine (rd8 (cutB s) v3 (HE.out.below HB3.out hG) (by have := HS.out.2; have := HSZ.out; omega)).mono ?_
  rw [HRD.out]
  rintro e w4 ⟨rfl, hb4⟩
  have HB4 := Lib.hid (HB3.out.trans (hb4.mono (by have := HB3.out.size; omega)))
  have HR4 := Lib.hid (HR3.out.keep hb4)
  have b0 := (hb4.cell (p := ⟨w2.heap.size, 0, none⟩) az).trans a0
  have b1 := (hb4.cell (p := ⟨w2.heap.size, 1, none⟩) az).trans a1
  clear hb4 a0 a1
  go_wp2_with fail
  generalize hv5 : w4.alloc _ = v5
  have hbv5 : Below w4.heap.size w4 v5 := by rw [← hv5]; exact (Below.refl _ _).alloc (Nat.le_refl _) _
  have e0 : v5.cell? ⟨w4.heap.size, 0, none⟩ = some (.int .u8 f) := by rw [← hv5]; exact (World.cell?_alloc_at _ _ _ _ rfl).trans rfl
  have e1 : v5.cell? ⟨w4.heap.size, 1, none⟩ = some (.int .u64 h) := by rw [← hv5]; exact (World.cell?_alloc_at _ _ _ _ rfl).trans rfl
  have e2 : v5.cell? ⟨w4.heap.size, 2, none⟩ = some (.int .u64 l) := by rw [← hv5]; exact (World.cell?_alloc_at _ _ _ _ rfl).trans rfl
  have e3 : v5.cell? ⟨w4.heap.size, 3, none⟩ = some (.int .i64 n) := by rw [← hv5]; exact (World.cell?_alloc_at _ _ _ _ rfl).trans rfl
  have ez : w4.heap.size < v5.heap.size := by rw [← hv5]; simp
  have HB5 := Lib.hid (HB4.out.trans (hbv5.mono (by have := HB4.out.size; omega)))
  have HR5 := Lib.hid (HR4.out.keep hbv5)
  clear hv5 hbv5 b0 b1
  refine (HCK.out v5).mono ?_
  rintro e w6 ⟨rfl, hb6⟩
  have HB6 := Lib.hid (HB5.out.trans (hb6.mono (by have := HB5.out.size; omega)))
  have HR6 := Lib.hid (HR5.out.keep hb6)
  have g0 := (hb6.cell (p := ⟨w4.heap.size, 0, none⟩) ez).trans e0
  have g1 := (hb6.cell (p := ⟨w4.heap.size, 1, none⟩) ez).trans e1
  have g2 := (hb6.cell (p := ⟨w4.heap.size, 2, none⟩) ez).trans e2
  have g3 := (hb6.cell (p := ⟨w4.heap.size, 3, none⟩) ez).trans e3
  obtain ⟨r0, r1, r2, r3, r4, r5⟩ := HR6.out
  clear hb6 e0 e1 e2 e3
  go_wp2_with fail
  have B := four_set (v0 := .int .u8 f) (v1 := .int .u64 h) (v2 := .int .u64 l) (v3 := .int .i64 n) r1 r2 r3 r4
  refine bodyPost_ret (v := .tuple #[.agg #[.int .u8 f, .int .u64 h, .int .u64 l, .int .i64 n], .int .i64 0]) (by simp [results, Tryz.results11, go_sem, B.1, B.2.1, B.2.2.1, B.2.2.2]) rfl ⟨rfl, four_below HB6.out (Nat.le_refl _)⟩
end Go.Proofs.YtlikgfmcialepaaGreatDoor
