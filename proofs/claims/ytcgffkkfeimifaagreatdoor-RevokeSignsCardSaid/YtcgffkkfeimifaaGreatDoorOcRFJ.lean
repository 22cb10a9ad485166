import Derived.Test.YtcgffkkfeimifaaGreatDoorOcRE
import Derived.Laws.MakeOwn
import Derived.Defers
import Derived.Recover
import Derived.Laws.Pointers
import Derived.Test.YtcgffkkfeimifaaGreatDoorOcKP
import Derived.Test.YtcgffkkfeimifaaGreatDoorLawKit
namespace Go.Proofs.YtcgffkkfeimifaaGreatDoor
open Go.RowKit Sha Oc
set_option linter.unusedVariables false
set_option linter.unusedSimpArgs false
def EncPost (o : Oct) (w : World) (e : Ending) (w' : World) : Prop := Below w.heap.size w w' ∧
 ((ckV o = 0 ∧ ∃ v, e = .returned (.tuple #[v, .int .i64 0]) ∧ w'.ownsRow w.heap.size 5 1 v (enc o).length (bvals (enc o))) ∨ (ckV o ≠ 0 ∧ e = .returned (.tuple #[.slice none 0 0, .int .i64 (ckV o)])))
set_option maxRecDepth 100000 in
set_option maxHeartbeats 2000000 in
theorem encode_any (o : Oct) (hcn : cnt o ≤ 900000) (htt : tot o ≤ 400000) (w : World) (x y : Value) (hat : At (fun _ => True) w o x y) :
  Calls Tryz.prog 28 #[.agg (cell3 o x y)] w (EncPost o w) := by
 have hck := fun (V : World) (hb : Below w.heap.size w V) => check_any8 o (by omega) htt V x y (hat.on hb)
 have hgd := fun (h0 : ckV o = 0) => (ckV_good o).1 h0
 have hsi := fun (h0 : ckV o = 0) (V : World) (hb : Below w.heap.size w V) => psize_all 5000 o (by have := (hgd h0).1; omega) (Nat.le_refl _) htt V x y (hat.on hb)
 have hpt := fun (h0 : ckV o = 0) (V : World) (hb : Below w.heap.size w V) (ov : Value) (hown : V.ownsRow w.heap.size 5 1 ov 0 []) => put_all 5000 o (by have := (hgd h0).1; omega) (Nat.le_refl _) (by have := (hgd h0).2.2.2; have := tot_enc o; omega) w.heap.size V ov x y 0 [] hb.size (by have := (hgd h0).2.2.2; have := siz_eq o; omega) ((hat.lower (Nat.le_refl _)).low hb) hown
 obtain ⟨A1, m1, c1, B1, n1, d1, rfl, rfl⟩ := hat.slices
 unfold EncPost
 unfold PtPost at hpt
 have HPT := Lib.hid hpt
 clear hpt
 obtain ⟨tz, htz⟩ : ∃ tz : Int, ((tagO o).toNat : Int) = tz := ⟨_, rfl⟩
 obtain ⟨Z, hZ⟩ : ∃ Z, siz o = Z := ⟨_, rfl⟩
 have HCK := Lib.hid hck
 have HSI := Lib.hid hsi
 unfold cell3 at HCK HSI HPT
 show Calls Tryz.prog 28 #[.agg #[.int .u8 ((tagO o).toNat : Int), .slice A1 m1 c1, .slice B1 n1 d1]] w _
 rw [htz] at HCK HSI HPT ⊢
 rw [hZ] at HSI HPT
 have HTZ := Lib.hid htz
 have HZE := Lib.hid hZ
 have HZ : RowKit.Hid (ckV o = 0 → Z ≤ 800000) := Lib.hid (fun h0 => by have := (hgd h0).2.2.2; have := siz_eq o; omega)
 have HROW := Lib.hid (heap_alloc_new w (.cells #[.int .u8 tz, .slice A1 m1 c1, .slice B1 n1 d1] 68))
 have HB0 := Lib.hid (below_new w (.cells #[.int .u8 tz, .slice A1 m1 c1, .slice B1 n1 d1] 68))
 clear hck hsi hat htz hZ hcn htt hgd
 go_enter Tryz.func28, Tryz.ntmps28
 go_upto_region 1 with (fail)
 generalize hV : World.alloc w _ = V at HROW HB0 ⊢
 clear hV
 have hlt := (Array.getElem?_eq_some_iff.1 HROW.out).1
 obtain ⟨_, hc0, hc1, hc2⟩ := facts3 HROW.out
 have hrg := range3o hc0 hc1 hc2
 go_wp2_with fail
 refine (HCK.out V HB0.out).mono ?_
 rintro e w1 ⟨rfl, hb1⟩
 have HROW1 := Lib.hid (row_on HROW.out hb1)
 have HB1 := Lib.hid (chain HB0.out hb1)
 clear hlt hc0 hc1 hc2 hrg hb1 HROW HB0 HCK
 by_cases h0 : ckV o = 0
 ·
  rw [h0]
  have H0 := Lib.hid h0
  clear h0
  go_wp2_with fail
  obtain ⟨U, hU⟩ : ∃ U, w1.drew = U := ⟨_, rfl⟩
  have hbU : Below w1.heap.size w1 U := by rw [← hU]; exact (Below.refl _ _).drew
  have HBU := Lib.hid (chain HB1.out hbU)
  have hrU := row_on HROW1.out hbU
  obtain ⟨_, hc0, hc1, hc2⟩ := facts3 hrU
  have hrg : U.rangeAt w.heap.size 0 [Value.int .u8 tz, .slice A1 m1 c1, .slice B1 n1 d1] := range3o hc0 hc1 hc2
  have mkS : ∀ z, Below U.heap.size U z → z.rangeAt w.heap.size 0 [Value.int .u8 tz, .slice A1 m1 c1, .slice B1 n1 d1] := fun z hz => range_on8 hrg hz
  have hS0 : w1.drew.rangeAt w.heap.size 0 [Value.int .u8 tz, .slice A1 m1 c1, .slice B1 n1 d1] := by rw [hU]; exact hrg
  clear hbU hrU hc0 hc1 hc2 hrg
  refine wp_region_held_drew (S := fun z => z.rangeAt w.heap.size 0 [Value.int .u8 tz, .slice A1 m1 c1, .slice B1 n1 d1]) (by kernel_rfl) hS0 (fun hHeld => ?_)
  rw [hU] at hHeld ⊢
  clear hS0 hU
  refine wpAnyH_take (i := 0) (oi := { dst := some 10, op := .load 68 (.tmp 1), type := 68, pos := "octet.go:32", after := #[], guard := none }) (v := .agg ([Value.int .u8 tz, .slice A1 m1 c1, .slice B1 n1 d1]).toArray) rfl (by kernel_rfl) (by kernel_rfl) (by kernel_rfl) (fun _ _ _ h => h) (yieldsIf_load_mid (by rfl) _ _ rfl _ _ rfl [Value.int .u8 tz, .slice A1 m1 c1, .slice B1 n1 d1] _ (fun w hSw => hSw) Tryz.underlying68 rfl (sz3o _ _ _)) hHeld ?_
  try simp only [Act.put, List.setIfInBounds_toArray, List.set_cons_zero, List.set_cons_succ]
  refine wpAnyH_take (i := 3) (oi := { dst := some 13, op := .load 68 (.tmp 1), type := 68, pos := "octet.go:32", after := #[], guard := none }) (v := .agg ([Value.int .u8 tz, .slice A1 m1 c1, .slice B1 n1 d1]).toArray) rfl (by kernel_rfl) (by kernel_rfl) (by kernel_rfl) (fun _ _ _ h => h) (yieldsIf_load_mid (by rfl) _ _ rfl _ _ rfl [Value.int .u8 tz, .slice A1 m1 c1, .slice B1 n1 d1] _ (fun w hSw => hSw) Tryz.underlying68 rfl (sz3o _ _ _)) hHeld ?_
  try simp only [Act.put, List.setIfInBounds_toArray, List.set_cons_zero, List.set_cons_succ]
  refine wpAnyH_ready (rs := [1]) (by kernel_rfl) (by simp) (AllReadyH.cons (o := { dst := some 11, op := .call { callee := .value (.func 54), args := #[.tmp 10], argTypes := #[68] }, type := 23, pos := "octet.go:32", after := #[{ on := 0, ground := .data }], guard := none }) rfl (fun K hK => ?_) AllReadyH.nil)
  go_simp
  refine (HSI.out H0.out U (HBU.out)).mono ?_
  rintro e z5 ⟨rfl, b5⟩
  go_simp
  refine hK.out _ _ (mkS _ (b5)) (fun hHeld2 => ?_)
  clear hK K hHeld
  have hHeld := hHeld2
  clear hHeld2
  try simp only [Act.put, List.setIfInBounds_toArray, List.set_cons_zero, List.set_cons_succ]
  refine wpAnyH_ready (rs := [2]) (by kernel_rfl) (by simp) (AllReadyH.cons (o := { dst := some 12, op := .makeSlice 34 (.const (.int .i64 0)) (.tmp 11), type := 34, pos := "octet.go:32", after := #[{ on := 1, ground := .data }], guard := none }) rfl (fun K hK => ?_) AllReadyH.nil)
  obtain ⟨i0, hi, hz0, hz1, hz2⟩ := info_parts Tryz.info_byte
  obtain ⟨z6, hmk, hown6, hgrow6⟩ := run_make_own (P := Tryz.prog) z5 w.heap.size 34 5 i0 (.int .u8 0) 1 Tryz.underlying34 hi hz0 hz1 .i64 .u64 Z (by have := HZ.out H0.out; rw [hz2]; omega) (by have := HZ.out H0.out; unfold maxLen; omega) (Nat.le_trans HBU.out.size b5.size)
  have b6 : Below U.heap.size U z6 := b5.grown hgrow6 b5.size (fun j e => by cases e)
  go_simp
  try simp only [hmk]
  try go_simp
  refine hK.out _ _ (mkS _ (b6)) (fun hHeld2 => ?_)
  clear hK K hHeld
  have hHeld := hHeld2
  clear hHeld2
  try simp only [Act.put, List.setIfInBounds_toArray, List.set_cons_zero, List.set_cons_succ]
  refine wpAnyH_ready (rs := [4]) (by kernel_rfl) (by simp) (AllReadyH.cons (o := { dst := some 14, op := .call { callee := .value (.func 53), args := #[.tmp 12, .tmp 13], argTypes := #[34, 68] }, type := 34, pos := "octet.go:32", after := #[{ on := 2, ground := .data }, { on := 3, ground := .data }, { on := 1, ground := .chain }], guard := none }) rfl (fun K hK => ?_) AllReadyH.nil)
  go_simp
  refine (HPT.out H0.out z6 (HBU.out.trans (b6.mono HBU.out.size)) _ hown6).mono ?_
  rintro e z7 ⟨v7, rfl, hg7⟩
  have b7 : Below U.heap.size U z7 := b6.grown hg7.grown b6.size (fun j e => by have h1 : z5.heap.size = j := Option.some.inj e; have := b5.size; omega)
  have HG7 := Lib.hid hg7
  have HB7 := Lib.hid b7
  clear hg7
  go_simp
  refine hK.out _ _ (mkS _ (b7)) (fun hHeld2 => ?_)
  clear hK K hHeld
  have hHeld := hHeld2
  clear hHeld2
  try simp only [Act.put, List.setIfInBounds_toArray, List.set_cons_zero, List.set_cons_succ]
  refine wpAnyH_take (i := 5) (oi := { dst := some 2, op := .assign (.tmp 14), type := 34, pos := "octet.go:32", after := #[{ on := 4, ground := .data }, { on := 4, ground := .chain }, { on := 0, ground := .phase }, { on := 1, ground := .phase }, { on := 2, ground := .phase }, { on := 3, ground := .phase }, { on := 4, ground := .phase }], guard := none }) (v := ?_) rfl (by kernel_rfl) (by kernel_rfl) (by kernel_rfl) (fun _ _ _ h => h) (Or.inl ⟨by rfl, ?_⟩) hHeld ?_
  rotate_left
  ·
   intro w hSw
   clear hSw
   go_simp
   try with_reducible rfl
  try simp only [Act.put, List.setIfInBounds_toArray, List.set_cons_zero, List.set_cons_succ]
  refine wpAnyH_take (i := 6) (oi := { dst := some 3, op := .assign (.const (.int .i64 0)), type := 24, pos := "octet.go:32", after := #[{ on := 5, ground := .chain }, { on := 0, ground := .phase }, { on := 1, ground := .phase }, { on := 2, ground := .phase }, { on := 3, ground := .phase }, { on := 4, ground := .phase }, { on := 5, ground := .phase }], guard := none }) (v := ?_) rfl (by kernel_rfl) (by kernel_rfl) (by kernel_rfl) (fun _ _ _ h => h) (Or.inl ⟨by rfl, ?_⟩) hHeld ?_
  rotate_left
  ·
   intro w hSw
   clear hSw
   go_simp
   try with_reducible rfl
  try simp only [Act.put, List.setIfInBounds_toArray, List.set_cons_zero, List.set_cons_succ]
  refine wpAnyH_done (by kernel_rfl) ?_ _

  go_wp2_with fail
  go_ret2
  have hown := HG7.out.own
  rw [Nat.zero_add, List.nil_append, ← HZE.out, siz_eq] at hown
  exact ⟨HBU.out.trans (HB7.out.mono HBU.out.size), .inl ⟨H0.out, v7, rfl, hown⟩⟩
 ·
  have h0i : ((ckV o : Int) != 0) = true := by simp [h0]
  obtain ⟨E, hE⟩ : ∃ E, ckV o = E := ⟨_, rfl⟩
  have HEE := Lib.hid hE
  rw [hE] at h0i ⊢
  have H0 := Lib.hid h0
  clear h0 hE
  go_wp2_with fail
  go_ret2
  exact ⟨HB1.out, .inr ⟨H0.out, by rw [HEE.out]; rfl⟩⟩
end Go.Proofs.YtcgffkkfeimifaaGreatDoor
namespace Go.Proofs.YtcgffkkfeimifaaGreatDoor
open Go.RowKit Sha Oc
set_option linter.unusedVariables false
set_option linter.unusedSimpArgs false
end Go.Proofs.YtcgffkkfeimifaaGreatDoor
namespace Go.Proofs.YtcgffkkfeimifaaGreatDoor
open Go.RowKit Sha Oc
set_option linter.unusedVariables false
set_option linter.unusedSimpArgs false
end Go.Proofs.YtcgffkkfeimifaaGreatDoor
namespace Go.Proofs.YtcgffkkfeimifaaGreatDoor
open Go.RowKit Sha Oc
set_option linter.unusedVariables false
set_option linter.unusedSimpArgs false
end Go.Proofs.YtcgffkkfeimifaaGreatDoor
namespace Go.Proofs.YtcgffkkfeimifaaGreatDoor
open Go.ChangeShapes Go.WideShapes Go.ChangeAt Go.RowKit Sha Oc
set_option linter.unusedVariables false
set_option linter.unusedSimpArgs false
set_option maxRecDepth 100000
section
variable {H : Type} {enc : TypeId × Value → H}
end
end Go.Proofs.YtcgffkkfeimifaaGreatDoor
namespace Go.Proofs.YtcgffkkfeimifaaGreatDoor
open Go.ChangeShapes Go.WideShapes Go.ChangeAt Go.RowKit Sha Oc
set_option linter.unusedVariables false
set_option linter.unusedSimpArgs false
set_option maxRecDepth 100000
section
variable {H : Type} {enc : TypeId × Value → H}
end
end Go.Proofs.YtcgffkkfeimifaaGreatDoor
