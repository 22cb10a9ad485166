/-
  THE WALK over the chapter's examples (alive).
-/
import Derived.Test.YtjngfieggacpiaaDoorTextI
namespace Go.Proofs.YtjngfieggacpiaaDoor
open Go.RowKit Adr
set_option linter.unusedVariables false
theorem k1 : str (pfxS 4 0 167772160 8) = ⟨#[49, 48, 46, 48, 46, 48, 46, 48, 47, 56]⟩ := by decide +kernel
theorem k2 : str (addrS 6 2306139568115548160 1) = ⟨#[50, 48, 48, 49, 58, 100, 98, 56, 58, 58, 49]⟩ := by decide +kernel
theorem k3 : addr4 ⟨#[49, 48, 46, 50, 46, 48, 46, 48]⟩ = some 167903232 := by decide +kernel
theorem k4 : rdec 8 (cutB ⟨#[49, 48, 46, 50, 46, 48, 46, 48, 47, 49, 54]⟩).data.toList = some 16 := by decide +kernel
theorem k5 : chk 4 0 167903232 16 = 0 := by decide +kernel
theorem k6 : cutA ⟨#[49, 48, 46, 50, 46, 48, 46, 48, 47, 49, 54]⟩ = ⟨#[49, 48, 46, 50, 46, 48, 46, 48]⟩ := by decide +kernel
theorem k8 : cov 4 0 167772160 8 4 0 167903232 16 = true := by decide +kernel
theorem k9 : cov 4 0 167903232 16 4 0 167772160 8 = false := by decide +kernel
theorem k10 : decide (0 ≤ Lib.indexByte (⟨#[49, 48, 46, 50, 46, 48, 46, 48]⟩ : ByteArray).data.toList 58) = false := by decide +kernel
theorem k11 : cutOk 4 0 167772160 8 = true := by decide +kernel
theorem k12 : clrH 0 (wid 4 - 8) = 0 := by decide +kernel
theorem k13 : clrL 167772160 (wid 4 - 8) = 167772160 := by decide +kernel
theorem k14 : chk 4 0 167772160 8 = 0 := by decide +kernel
theorem k15 : ca 4 0 167772160 = true := by decide +kernel
theorem k16 : ca 6 2306139568115548160 1 = true := by decide +kernel
theorem u0 : U64 0 := ⟨by omega, by omega⟩
theorem u1 : U64 167772160 := ⟨by omega, by omega⟩
theorem u2 : U64 167903232 := ⟨by omega, by omega⟩
theorem al_cut (w : World) : Calls Tryd.prog 10 #[.int .u8 4, .agg #[.int .u64 0, .int .u64 167772160], .int .i64 8] w fun e w' => e = .returned (.tuple #[.agg #[.int .u8 4, .int .u64 0, .int .u64 167772160, .int .i64 8], .int .i64 0]) ∧ Below w.heap.size w w' := by
  have h := cut_yes 4 0 167772160 8 w u0 u1 k11
  rw [k12, k13] at h
  exact h
theorem al_text (w : World) (env : Env true w) : Calls Tryd.prog 36 #[.agg #[.int .u8 4, .int .u64 0, .int .u64 167772160, .int .i64 8]] w fun e w' => e = .returned (.tuple #[.string ⟨#[49, 48, 46, 48, 46, 48, 46, 48, 47, 56]⟩, .int .i64 0]) ∧ Below w.heap.size w w' := by
  have h := ptext_yes 4 0 167772160 8 w env (by omega) (by omega) k14 k15 (by omega)
  rw [k1] at h
  exact h
theorem al_ap : ApIs ⟨#[49, 48, 46, 50, 46, 48, 46, 48]⟩ 4 0 167903232 0 := by
  intro w env
  have h := ap4_core ⟨#[49, 48, 46, 50, 46, 48, 46, 48]⟩ w env (by decide) k10
  rw [k3] at h
  exact h
theorem al_parse (w : World) (env : Env true w) : Calls Tryd.prog 7 #[.string ⟨#[49, 48, 46, 50, 46, 48, 46, 48, 47, 49, 54]⟩] w fun e w' => e = .returned (.tuple #[.agg #[.int .u8 4, .int .u64 0, .int .u64 167903232, .int .i64 16], .int .i64 0]) ∧ Below w.heap.size w w' :=
  parse_yes ⟨#[49, 48, 46, 50, 46, 48, 46, 48, 47, 49, 54]⟩ 4 0 167903232 0 w env (by decide) (by rw [k6]; exact al_ap) (by decide) 16 (by omega) k4 u0 u2 k5
theorem al_addr (w : World) (env : Env true w) : Calls Tryd.prog 5 #[.int .u8 6, .agg #[.int .u64 2306139568115548160, .int .u64 1]] w fun e w' => e = .returned (.tuple #[.string ⟨#[50, 48, 48, 49, 58, 100, 98, 56, 58, 58, 49]⟩, .int .i64 0]) ∧ Below w.heap.size w w' := by
  have h := text_yes 6 2306139568115548160 1 w env k16 (by omega) (by omega)
  rw [k2] at h
  exact h
theorem al_cov (w : World) : Calls Tryd.prog 14 #[.agg #[.int .u8 4, .int .u64 0, .int .u64 167772160, .int .i64 8], .agg #[.int .u8 4, .int .u64 0, .int .u64 167903232, .int .i64 16]] w fun e w' => e = .returned (.bool true) ∧ Below w.heap.size w w' := by
  have h := cov_any 4 0 167772160 8 4 0 167903232 16 w u0 u1 u0 u2
  rw [k8] at h
  exact h
theorem al_cov2 (w : World) : Calls Tryd.prog 14 #[.agg #[.int .u8 4, .int .u64 0, .int .u64 167903232, .int .i64 16], .agg #[.int .u8 4, .int .u64 0, .int .u64 167772160, .int .i64 8]] w fun e w' => e = .returned (.bool false) ∧ Below w.heap.size w w' := by
  have h := cov_any 4 0 167903232 16 4 0 167772160 8 w u0 u2 u0 u1
  rw [k9] at h
  exact h
set_option maxRecDepth 100000 in
set_option maxHeartbeats 2000000 in
theorem alive_any (w : World) (env : Env true w) : Calls Tryd.prog 13 #[] w fun e w' => e = .returned (.bool true) ∧ Below w.heap.size w w' := by
  have hG := env.big
  have HE := Lib.hid env
  clear env
  go_enter Tryd.func13, Tryd.ntmps13
  go_wp2_with fail
  refine (al_cut _).mono ?_
  rintro e w1 ⟨rfl, hb1⟩
  go_wp2_with fail
  generalize hv1 : w1.alloc _ = v1
  have hbv : Below w1.heap.size w1 v1 := by rw [← hv1]; exact (Below.refl _ _).alloc (Nat.le_refl _) _
  have a0 : v1.cell? ⟨w1.heap.size, 0, none⟩ = some (.int .u8 4) := by rw [← hv1]; exact (World.cell?_alloc_at _ _ _ _ rfl).trans rfl
  have a1 : v1.cell? ⟨w1.heap.size, 1, none⟩ = some (.int .u64 0) := by rw [← hv1]; exact (World.cell?_alloc_at _ _ _ _ rfl).trans rfl
  have a2 : v1.cell? ⟨w1.heap.size, 2, none⟩ = some (.int .u64 167772160) := by rw [← hv1]; exact (World.cell?_alloc_at _ _ _ _ rfl).trans rfl
  have a3 : v1.cell? ⟨w1.heap.size, 3, none⟩ = some (.int .i64 8) := by rw [← hv1]; exact (World.cell?_alloc_at _ _ _ _ rfl).trans rfl
  have az : w1.heap.size < v1.heap.size := by rw [← hv1]; simp
  have HB1 := Lib.hid (hb1.trans (hbv.mono hb1.size))
  clear hv1 hbv hb1
  refine (al_text v1 (HE.out.below HB1.out hG)).mono ?_
  rintro e w2 ⟨rfl, hb2⟩
  have HB2 := Lib.hid (HB1.out.trans (hb2.mono (by have := HB1.out.size; omega)))
  have b0 := (hb2.cell (p := ⟨w1.heap.size, 0, none⟩) az).trans a0
  have b1 := (hb2.cell (p := ⟨w1.heap.size, 1, none⟩) az).trans a1
  have b2 := (hb2.cell (p := ⟨w1.heap.size, 2, none⟩) az).trans a2
  have b3 := (hb2.cell (p := ⟨w1.heap.size, 3, none⟩) az).trans a3
  have bz := World.block_lt_of_cell? _ _ b0
  clear hb2 a0 a1 a2 a3 az
  go_wp2_with fail
  refine (al_parse w2 (HE.out.below HB2.out hG)).mono ?_
  rintro e w3 ⟨rfl, hb3⟩
  have HB3 := Lib.hid (HB2.out.trans (hb3.mono (by have := HB2.out.size; omega)))
  have c0 := (hb3.cell (p := ⟨w1.heap.size, 0, none⟩) bz).trans b0
  have c1 := (hb3.cell (p := ⟨w1.heap.size, 1, none⟩) bz).trans b1
  have c2 := (hb3.cell (p := ⟨w1.heap.size, 2, none⟩) bz).trans b2
  have c3 := (hb3.cell (p := ⟨w1.heap.size, 3, none⟩) bz).trans b3
  clear hb3 b0 b1 b2 b3 bz
  go_wp2_with fail
  generalize hv4 : w3.alloc _ = v4
  have d0 : v4.cell? ⟨w1.heap.size, 0, none⟩ = some (.int .u8 4) := by rw [← hv4]; exact Lib.cell?_alloc_some _ c0
  have d1 : v4.cell? ⟨w1.heap.size, 1, none⟩ = some (.int .u64 0) := by rw [← hv4]; exact Lib.cell?_alloc_some _ c1
  have d2 : v4.cell? ⟨w1.heap.size, 2, none⟩ = some (.int .u64 167772160) := by rw [← hv4]; exact Lib.cell?_alloc_some _ c2
  have d3 : v4.cell? ⟨w1.heap.size, 3, none⟩ = some (.int .i64 8) := by rw [← hv4]; exact Lib.cell?_alloc_some _ c3
  have e0 : v4.cell? ⟨w3.heap.size, 0, none⟩ = some (.int .u8 4) := by rw [← hv4]; exact (World.cell?_alloc_at _ _ _ _ rfl).trans rfl
  have e1 : v4.cell? ⟨w3.heap.size, 1, none⟩ = some (.int .u64 0) := by rw [← hv4]; exact (World.cell?_alloc_at _ _ _ _ rfl).trans rfl
  have e2 : v4.cell? ⟨w3.heap.size, 2, none⟩ = some (.int .u64 167903232) := by rw [← hv4]; exact (World.cell?_alloc_at _ _ _ _ rfl).trans rfl
  have e3 : v4.cell? ⟨w3.heap.size, 3, none⟩ = some (.int .i64 16) := by rw [← hv4]; exact (World.cell?_alloc_at _ _ _ _ rfl).trans rfl
  have hbv : Below w3.heap.size w3 v4 := by rw [← hv4]; exact (Below.refl _ _).alloc (Nat.le_refl _) _
  have HB4 := Lib.hid (HB3.out.trans (hbv.mono (by have := HB3.out.size; omega)))
  have dz := World.block_lt_of_cell? _ _ d0
  have ez := World.block_lt_of_cell? _ _ e0
  clear hbv hv4 c0 c1 c2 c3
  refine (al_addr v4 (HE.out.below HB4.out hG)).mono ?_
  rintro e w5 ⟨rfl, hb5⟩
  have HB5 := Lib.hid (HB4.out.trans (hb5.mono (by have := HB4.out.size; omega)))
  have f0 := (hb5.cell (p := ⟨w1.heap.size, 0, none⟩) dz).trans d0
  have f1 := (hb5.cell (p := ⟨w1.heap.size, 1, none⟩) dz).trans d1
  have f2 := (hb5.cell (p := ⟨w1.heap.size, 2, none⟩) dz).trans d2
  have f3 := (hb5.cell (p := ⟨w1.heap.size, 3, none⟩) dz).trans d3
  have g0 := (hb5.cell (p := ⟨w3.heap.size, 0, none⟩) ez).trans e0
  have g1 := (hb5.cell (p := ⟨w3.heap.size, 1, none⟩) ez).trans e1
  have g2 := (hb5.cell (p := ⟨w3.heap.size, 2, none⟩) ez).trans e2
  have g3 := (hb5.cell (p := ⟨w3.heap.size, 3, none⟩) ez).trans e3
  have fz := World.block_lt_of_cell? _ _ f0
  have gz := World.block_lt_of_cell? _ _ g0
  clear hb5 d0 d1 d2 d3 e0 e1 e2 e3 dz ez
  go_wp2_with fail
  refine (al_cov w5).mono ?_
  rintro e w6 ⟨rfl, hb6⟩
  have HB6 := Lib.hid (HB5.out.trans (hb6.mono (by have := HB5.out.size; omega)))
  have h0 := (hb6.cell (p := ⟨w1.heap.size, 0, none⟩) fz).trans f0
  have h1 := (hb6.cell (p := ⟨w1.heap.size, 1, none⟩) fz).trans f1
  have h2 := (hb6.cell (p := ⟨w1.heap.size, 2, none⟩) fz).trans f2
  have h3 := (hb6.cell (p := ⟨w1.heap.size, 3, none⟩) fz).trans f3
  have i0 := (hb6.cell (p := ⟨w3.heap.size, 0, none⟩) gz).trans g0
  have i1 := (hb6.cell (p := ⟨w3.heap.size, 1, none⟩) gz).trans g1
  have i2 := (hb6.cell (p := ⟨w3.heap.size, 2, none⟩) gz).trans g2
  have i3 := (hb6.cell (p := ⟨w3.heap.size, 3, none⟩) gz).trans g3
  clear hb6 f0 f1 f2 f3 g0 g1 g2 g3 fz gz
  go_wp2_with fail
  refine (al_cov2 w6).mono ?_
  rintro e w7 ⟨rfl, hb7⟩
  have HB7 := Lib.hid (HB6.out.trans (hb7.mono (by have := HB6.out.size; omega)))
  clear hb7 h0 h1 h2 h3 i0 i1 i2 i3
  go_wp2_with fail
  go_ret
  exact ⟨rfl, HB7.out⟩
end Go.Proofs.YtjngfieggacpiaaDoor
