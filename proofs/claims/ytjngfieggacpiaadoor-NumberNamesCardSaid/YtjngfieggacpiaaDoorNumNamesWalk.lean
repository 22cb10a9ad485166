/-
  THE WALK over NumberNames.
-/
import Derived.Test.YtjngfieggacpiaaDoorNumNamesMath
import Derived.Test.YtjngfieggacpiaaDoorAlive
import Derived.Test.YtjngfieggacpiaaDoorCells
import Derived.Deep.DeepCutAuto
import Derived.Deep.RegionHeld3
namespace Go.Proofs.YtjngfieggacpiaaDoor
open Go.RowKit Adr
set_option linter.unusedVariables false
set_option linter.unusedSimpArgs false
/-- an address that was boxed, or written into a block -/
structure Pr2 (N : Nat) (W : World) (h l : Int) : Prop where
  lt : N < W.heap.size
  a0 : W.cell? ⟨N, 0, none⟩ = some (.int .u64 h)
  a1 : W.cell? ⟨N, 1, none⟩ = some (.int .u64 l)
theorem Pr2.on {N : Nat} {W W' : World} {h l : Int} (t : Pr2 N W h l) (hb : Below W.heap.size W W') : Pr2 N W' h l :=
  ⟨Nat.lt_of_lt_of_le t.lt hb.size, (hb.cell (p := ⟨N, 0, none⟩) t.lt).trans t.a0, (hb.cell (p := ⟨N, 1, none⟩) t.lt).trans t.a1⟩
theorem Pr2.new (W : World) (h l : Int) (t : TypeId) : Pr2 W.heap.size (W.alloc (.cells #[.int .u64 h, .int .u64 l] t)) h l := ⟨by simp, by simp, by simp⟩
theorem nn_below (W : World) (o : Obj) : Below W.heap.size W (W.alloc o) := (Below.refl _ _).alloc (Nat.le_refl _) _
set_option maxRecDepth 100000 in
set_option maxHeartbeats 40000000 in
theorem nnames_true (w : World) (env : Env true w) : Calls Tryd.prog 3 #[] w fun e w' => e = .returned (.bool true) ∧ Below w.heap.size w w' := by
  have hG := env.big
  have HE := Lib.hid env
  clear env
  go_enter Tryd.func3, Tryd.ntmps3
  go_wp2_with fail
  rw [show (#[Value.int IntKind.u64 0, Value.int IntKind.u64 0, Value.int IntKind.u64 0, Value.int IntKind.u64 1, Value.int IntKind.u64 281474976710656, Value.int IntKind.u64 0, Value.int IntKind.u64 0, Value.int IntKind.u64 9223372036854775808, Value.int IntKind.u64 1, Value.int IntKind.u64 281474976710656, Value.int IntKind.u64 281474976710658, Value.int IntKind.u64 196608, Value.int IntKind.u64 281483566841860, Value.int IntKind.u64 1407400653815816, Value.int IntKind.u64 8590131204, Value.int IntKind.u64 1407400653815808, Value.int IntKind.u64 18446462598732840960, Value.int IntKind.u64 65535, Value.int IntKind.u64 281474976710657, Value.int IntKind.u64 65536] : Array Value) = nnCells.toArray from rfl, show (#[Value.string ⟨#[58, 58]⟩, Value.string ⟨#[58, 58, 49]⟩, Value.string ⟨#[49, 58, 58]⟩, Value.string ⟨#[58, 58, 56, 48, 48, 48, 58, 48, 58, 48, 58, 48]⟩, Value.string ⟨#[58, 58, 49, 58, 49, 58, 48, 58, 48, 58, 48]⟩, Value.string ⟨#[49, 58, 58, 50, 58, 48, 58, 48, 58, 51, 58, 48]⟩, Value.string ⟨#[49, 58, 50, 58, 51, 58, 52, 58, 53, 58, 54, 58, 55, 58, 56]⟩, Value.string ⟨#[48, 58, 50, 58, 51, 58, 52, 58, 53, 58, 54, 58, 55, 58, 48]⟩, Value.string ⟨#[102, 102, 102, 102, 58, 58, 102, 102, 102, 102]⟩, Value.string ⟨#[49, 58, 58, 49, 58, 48, 58, 48, 58, 49, 58, 48]⟩] : Array Value) = (nmText.map Value.string).toArray from rfl]
  generalize hv : World.alloc (World.alloc _ _) _ = v0
  have HC : RowKit.Hid (∀ (j : Nat) x, nnCells[j]? = some x → v0.cell? ⟨w.heap.size, j, none⟩ = some x) := Lib.hid (fun j x h => by
    rw [← hv]
    exact ((nn_below _ _).cell (p := ⟨w.heap.size, j, none⟩) (by simp)).trans (nn_lit _ h))
  have HT : RowKit.Hid (∀ (k : Nat) s, nmText[k]? = some s → v0.cell? ⟨w.heap.size + 1, k, none⟩ = some (.string s)) := Lib.hid (fun k s h => by
    rw [← hv]
    have := nn_lit (w := w.alloc (.cells nnCells.toArray 23)) (l := nmText.map Value.string) (j := k) (x := .string s) 9 (by rw [List.getElem?_map, h]; rfl)
    simpa using this)
  have HB0 := Lib.hid (show Below w.heap.size w v0 by rw [← hv]; exact ((Below.refl _ _).alloc (Nat.le_refl _) _).alloc (by simp) _)
  have hz : w.heap.size + 1 < v0.heap.size := by rw [← hv]; simp
  clear hv
  go_loopw [3] (fun i wr => ∃ k : Nat, k ≤ 10 ∧ i = .int .i64 (k : Int) ∧ Below v0.heap.size v0 wr) (fun i _ => 11 - (intOf i).toNat)
  case atStart => exact ⟨0, Nat.zero_le _, rfl, Below.refl _ _⟩
  case round =>
    obtain ⟨k, hk, rfl, hb⟩ := hrel
    have HW := Lib.hid (HB0.out.trans (hb.mono HB0.out.size))
    by_cases hkn : k < 10
    · obtain ⟨H, L, s, c0, c1, ht, h1, h2⟩ := nn_six k hkn
      have d0 := (hb.cell (p := ⟨w.heap.size, k * 2, none⟩) (by show w.heap.size < v0.heap.size; omega)).trans (HC.out _ _ c0)
      have d1 := (hb.cell (p := ⟨w.heap.size, k * 2 + 1, none⟩) (by show w.heap.size < v0.heap.size; omega)).trans (HC.out _ _ c1)
      have dt := (hb.cell (p := ⟨w.heap.size + 1, k, none⟩) hz).trans (HT.out _ _ ht)
      have hki : (k : Int) < 10 := by omega
      have hzr : w.heap.size + 1 < wr.heap.size := Nat.lt_of_lt_of_le hz hb.size
      have HBW := Lib.hid hb
      have H1 := Lib.hid h1
      have H2 := Lib.hid h2
      clear hb c0 c1 ht h1 h2
      go_upto_region 6 with fail
      go_region_held3 (fun z => z.cell? ⟨w.heap.size, k * 2, none⟩ = some (.int .u64 H) ∧ z.cell? ⟨w.heap.size, k * 2 + 1, none⟩ = some (.int .u64 L)) (first | exact ⟨d0, d1⟩ | go_keep) (fail)
      obtain ⟨P, hP⟩ : ∃ P, wr.heap.size = P := ⟨_, rfl⟩
      generalize hv : World.drew _ = v1
      have T1 : RowKit.Hid (Pr2 P v1 H L) := Lib.hid (by rw [← hv, ← hP]; exact ⟨(Pr2.new wr H L _).lt, (Pr2.new wr H L _).a0, (Pr2.new wr H L _).a1⟩)
      have D1 : RowKit.Hid (v1.cell? ⟨w.heap.size + 1, k, none⟩ = some (.string s)) := Lib.hid (by rw [← hv]; exact ((nn_below wr _).cell (p := ⟨w.heap.size + 1, k, none⟩) hzr).trans dt)
      have HB1 := Lib.hid (show Below v0.heap.size v0 v1 by rw [← hv]; exact (HBW.out.alloc HBW.out.size _).drew)
      have hz1 : w.heap.size + 1 < v1.heap.size := Nat.lt_of_lt_of_le hz HB1.out.size
      try rw [hP]
      rename_i hheld
      clear hheld hv hP d0 d1 dt HBW hzr
      obtain ⟨a0, a1⟩ := (⟨T1.out.a0, T1.out.a1⟩ : _ ∧ _)
      go_wp2_with fail
      refine (H1.out v1 (HE.out.below (HB0.out.trans (HB1.out.mono HB0.out.size)) hG)).mono ?_
      rintro e w2 ⟨rfl, hb2⟩
      have T2 := Lib.hid (T1.out.on hb2)
      have D2 := Lib.hid ((hb2.cell (p := ⟨w.heap.size + 1, k, none⟩) hz1).trans D1.out)
      have HB2 := Lib.hid (HB1.out.trans (hb2.mono HB1.out.size))
      have hz2 : w.heap.size + 1 < w2.heap.size := Nat.lt_of_lt_of_le hz1 hb2.size
      clear hb2 T1 D1 HB1 a0 a1 hz1
      have d2 := D2.out
      go_wp2_with fail
      refine (H2.out w2 (HE.out.below (HB0.out.trans (HB2.out.mono HB0.out.size)) hG)).mono ?_
      rintro e w3 ⟨rfl, hb3⟩
      have T3 := Lib.hid (T2.out.on hb3)
      have D3 := Lib.hid ((hb3.cell (p := ⟨w.heap.size + 1, k, none⟩) hz2).trans D2.out)
      have HB3 := Lib.hid (HB2.out.trans (hb3.mono HB2.out.size))
      have hz3 : w.heap.size + 1 < w3.heap.size := Nat.lt_of_lt_of_le hz2 hb3.size
      clear hb3 T2 D2 HB2 d2 hz2
      have d3 := D3.out
      have zp := T3.out.lt
      obtain ⟨a0, a1⟩ := (⟨T3.out.a0, T3.out.a1⟩ : _ ∧ _)
      go_wp2_with fail
      go_roundw
      case rel => exact ⟨k + 1, by omega, by go_num, HB3.out.alloc HB3.out.size _⟩
      case measure => simp [intOf]; omega
    · have hge : (10 : Int) ≤ (k : Int) := by omega
      clear hb HC HT HB0 hz hkn hk
      go_wp2_with fail
      obtain ⟨B2, hB2⟩ : ∃ B, wr.heap.size = B := ⟨_, rfl⟩
      rw [show (#[Value.string ⟨#[]⟩, Value.string ⟨#[49]⟩, Value.string ⟨#[49, 46, 50, 46, 51]⟩, Value.string ⟨#[49, 46, 50, 46, 51, 46, 52, 46, 53]⟩, Value.string ⟨#[48, 49, 46, 50, 46, 51, 46, 52]⟩, Value.string ⟨#[49, 46, 50, 46, 51, 46, 50, 53, 54]⟩, Value.string ⟨#[49, 46, 50, 46, 51, 46, 45, 49]⟩, Value.string ⟨#[32, 49, 46, 50, 46, 51, 46, 52]⟩, Value.string ⟨#[58]⟩, Value.string ⟨#[58, 58, 58]⟩, Value.string ⟨#[49, 58, 58, 58, 50]⟩, Value.string ⟨#[49, 58, 58, 50, 58, 58, 51]⟩, Value.string ⟨#[49, 58, 50, 58, 51, 58, 52, 58, 53, 58, 54, 58, 55]⟩, Value.string ⟨#[49, 58, 50, 58, 51, 58, 52, 58, 53, 58, 54, 58, 55, 58, 56, 58, 57]⟩, Value.string ⟨#[49, 58, 50, 58, 51, 58, 52, 58, 53, 58, 54, 58, 55, 58, 58]⟩, Value.string ⟨#[58, 58, 50, 58, 51, 58, 52, 58, 53, 58, 54, 58, 55, 58, 56]⟩, Value.string ⟨#[48, 58, 48, 58, 48, 58, 48, 58, 48, 58, 48, 58, 48, 58, 48]⟩, Value.string ⟨#[50, 48, 48, 49, 58, 68, 66, 56, 58, 58, 49]⟩, Value.string ⟨#[48, 49, 58, 58]⟩, Value.string ⟨#[49, 48, 48, 48, 48, 58, 58]⟩, Value.string ⟨#[49, 58, 58, 50, 58, 48, 58, 48, 58, 48, 58, 48]⟩, Value.string ⟨#[58, 58, 49, 46, 50, 46, 51, 46, 52]⟩, Value.string ⟨#[49, 58, 58, 50, 58, 48, 58, 48, 58, 48, 58, 51]⟩] : Array Value) = (nmBad.map Value.string).toArray from rfl]
      generalize hv : World.alloc _ _ = y2
      have HS2 : RowKit.Hid (∀ (k : Nat) s, nmBad[k]? = some s → y2.cell? ⟨B2, k, none⟩ = some (.string s)) := Lib.hid (fun k s h => by rw [← hv, ← hB2]; exact nn_lit _ (by rw [List.getElem?_map, h]; rfl))
      have HY2 := Lib.hid (show Below w.heap.size w y2 by rw [← hv]; exact HW.out.alloc HW.out.size _)
      have hY2 : B2 < y2.heap.size := by rw [← hv, ← hB2]; simp
      try rw [hB2]
      clear hv hB2 HW
      go_loopw [111] (fun i wx => ∃ k : Nat, k ≤ 23 ∧ i = .int .i64 (k : Int) ∧ Below y2.heap.size y2 wx) (fun i _ => 24 - (intOf i).toNat)
      case atStart => exact ⟨0, Nat.zero_le _, rfl, Below.refl _ _⟩
      case round =>
        rename World => q2
        obtain ⟨k, hk, rfl, hb⟩ := hrel
        have HX2 := Lib.hid (HY2.out.trans (hb.mono HY2.out.size))
        by_cases hkn : k < 23
        · obtain ⟨s, hs⟩ : ∃ s, nmBad[k]? = some s := ⟨nmBad[k]'(by show k < 23; exact hkn), List.getElem?_eq_getElem _⟩
          have ck := (hb.cell (p := ⟨B2, k, none⟩) hY2).trans (HS2.out k s hs)
          obtain ⟨f, a, b, hP⟩ := nn_bad s (List.mem_of_getElem? hs)
          have HP := Lib.hid hP
          have hki : (k : Int) < 23 := by omega
          have HBW := Lib.hid hb
          clear hb hs hP
          go_wp2_with fail
          refine (HP.out _ (HE.out.below HX2.out hG)).mono ?_
          rintro e wy ⟨rfl, hby⟩
          have HBY := Lib.hid (HBW.out.trans (hby.mono HBW.out.size))
          clear hby
          go_wp2_with fail
          go_roundw
          case rel => exact ⟨k + 1, by omega, by go_num, HBY.out.alloc HBY.out.size _⟩
          case measure => simp [intOf]; omega
        · have hge : (23 : Int) ≤ (k : Int) := by omega
          clear hb HS2 hY2 HY2 hkn hk
          go_wp2_with fail
          obtain ⟨B3, hB3⟩ : ∃ B, q2.heap.size = B := ⟨_, rfl⟩
          rw [show (#[Value.string ⟨#[49, 48, 46, 48, 46, 48, 46, 48]⟩, Value.string ⟨#[49, 48, 46, 48, 46, 48, 46, 48, 47]⟩, Value.string ⟨#[49, 48, 46, 48, 46, 48, 46, 48, 47, 51, 51]⟩, Value.string ⟨#[49, 48, 46, 48, 46, 48, 46, 49, 47, 56]⟩, Value.string ⟨#[49, 48, 46, 48, 46, 48, 46, 48, 47, 48, 56]⟩, Value.string ⟨#[49, 48, 46, 48, 46, 48, 46, 48, 47, 56, 47, 56]⟩, Value.string ⟨#[58, 58, 47, 49, 50, 57]⟩, Value.string ⟨#[58, 58, 49, 47, 49, 50, 55]⟩, Value.string ⟨#[47, 56]⟩, Value.string ⟨#[49, 48, 46, 48, 46, 48, 46, 48, 47, 45, 49]⟩, Value.string ⟨#[49, 48, 46, 48, 46, 48, 46, 48, 47, 50, 53, 54]⟩] : Array Value) = (nmPfxBad.map Value.string).toArray from rfl]
          generalize hv : World.alloc _ _ = y3
          have HS3 : RowKit.Hid (∀ (k : Nat) s, nmPfxBad[k]? = some s → y3.cell? ⟨B3, k, none⟩ = some (.string s)) := Lib.hid (fun k s h => by rw [← hv, ← hB3]; exact nn_lit _ (by rw [List.getElem?_map, h]; rfl))
          have HY3 := Lib.hid (show Below w.heap.size w y3 by rw [← hv]; exact HX2.out.alloc HX2.out.size _)
          have hY3 : B3 < y3.heap.size := by rw [← hv, ← hB3]; simp
          try rw [hB3]
          clear hv hB3 HX2
          go_loopw [126] (fun i wx => ∃ k : Nat, k ≤ 11 ∧ i = .int .i64 (k : Int) ∧ Below y3.heap.size y3 wx) (fun i _ => 12 - (intOf i).toNat)
          case atStart => exact ⟨0, Nat.zero_le _, rfl, Below.refl _ _⟩
          case round =>
            rename World => q3
            obtain ⟨k, hk, rfl, hb⟩ := hrel
            have HX3 := Lib.hid (HY3.out.trans (hb.mono HY3.out.size))
            by_cases hkn : k < 11
            · obtain ⟨s, hs⟩ : ∃ s, nmPfxBad[k]? = some s := ⟨nmPfxBad[k]'(by show k < 11; exact hkn), List.getElem?_eq_getElem _⟩
              have ck := (hb.cell (p := ⟨B3, k, none⟩) hY3).trans (HS3.out k s hs)
              obtain ⟨f, a, b, c, hP⟩ := nn_pbad s (List.mem_of_getElem? hs)
              have HP := Lib.hid hP
              have hki : (k : Int) < 11 := by omega
              have HBW := Lib.hid hb
              clear hb hs hP
              go_wp2_with fail
              refine (HP.out _ (HE.out.below HX3.out hG)).mono ?_
              rintro e wy ⟨rfl, hby⟩
              have HBY := Lib.hid (HBW.out.trans (hby.mono HBW.out.size))
              clear hby
              go_wp2_with fail
              go_roundw
              case rel => exact ⟨k + 1, by omega, by go_num, HBY.out.alloc HBY.out.size _⟩
              case measure => simp [intOf]; omega
            · have hge : (11 : Int) ≤ (k : Int) := by omega
              clear hb HS3 hY3 HY3 hkn hk
              go_wp2_with fail
              obtain ⟨B4, hB4⟩ : ∃ B, q3.heap.size = B := ⟨_, rfl⟩
              rw [show (#[Value.string ⟨#[]⟩, Value.string ⟨#[65, 83]⟩, Value.string ⟨#[97, 115, 49]⟩, Value.string ⟨#[65, 83, 48, 49]⟩, Value.string ⟨#[65, 83, 52, 50, 57, 52, 57, 54, 55, 50, 57, 54]⟩, Value.string ⟨#[65, 83, 45, 49]⟩, Value.string ⟨#[49]⟩, Value.string ⟨#[65, 83, 32, 49]⟩, Value.string ⟨#[65, 83, 49, 56, 52, 52, 54, 55, 52, 52, 48, 55, 51, 55, 48, 57, 53, 53, 49, 54, 49, 54]⟩] : Array Value) = (nmAsBad.map Value.string).toArray from rfl]
              generalize hv : World.alloc _ _ = y4
              have HS4 : RowKit.Hid (∀ (k : Nat) s, nmAsBad[k]? = some s → y4.cell? ⟨B4, k, none⟩ = some (.string s)) := Lib.hid (fun k s h => by rw [← hv, ← hB4]; exact nn_lit _ (by rw [List.getElem?_map, h]; rfl))
              have HY4 := Lib.hid (show Below w.heap.size w y4 by rw [← hv]; exact HX3.out.alloc HX3.out.size _)
              have hY4 : B4 < y4.heap.size := by rw [← hv, ← hB4]; simp
              try rw [hB4]
              clear hv hB4 HX3
              go_loopw [140] (fun i wx => ∃ k : Nat, k ≤ 9 ∧ i = .int .i64 (k : Int) ∧ Below y4.heap.size y4 wx) (fun i _ => 10 - (intOf i).toNat)
              case atStart => exact ⟨0, Nat.zero_le _, rfl, Below.refl _ _⟩
              case round =>
                rename World => q4
                obtain ⟨k, hk, rfl, hb⟩ := hrel
                have HX4 := Lib.hid (HY4.out.trans (hb.mono HY4.out.size))
                by_cases hkn : k < 9
                · obtain ⟨s, hs⟩ : ∃ s, nmAsBad[k]? = some s := ⟨nmAsBad[k]'(by show k < 9; exact hkn), List.getElem?_eq_getElem _⟩
                  have ck := (hb.cell (p := ⟨B4, k, none⟩) hY4).trans (HS4.out k s hs)
                  obtain ⟨c, hP⟩ := nn_abad s (List.mem_of_getElem? hs)
                  have HP := Lib.hid hP
                  have hki : (k : Int) < 9 := by omega
                  have HBW := Lib.hid hb
                  clear hb hs hP
                  go_wp2_with fail
                  refine (HP.out _ (HE.out.below HX4.out hG)).mono ?_
                  rintro e wy ⟨rfl, hby⟩
                  have HBY := Lib.hid (HBW.out.trans (hby.mono HBW.out.size))
                  clear hby
                  go_wp2_with fail
                  go_roundw
                  case rel => exact ⟨k + 1, by omega, by go_num, HBY.out⟩
                  case measure => simp [intOf]; omega
                · have hge : (9 : Int) ≤ (k : Int) := by omega
                  clear hb HS4 hY4 HY4 hkn hk
                  go_wp2_with fail
                  refine (nn_as1 _ (HE.out.below HX4.out hG)).mono ?_
                  rintro e x1 ⟨rfl, hb⟩
                  have HG1 := Lib.hid (HX4.out.trans (hb.mono HX4.out.size))
                  clear HX4
                  clear hb
                  go_wp2_with fail
                  refine (nn_as2 _ (HE.out.below HG1.out hG)).mono ?_
                  rintro e x2 ⟨rfl, hb⟩
                  have HG2 := Lib.hid (HG1.out.trans (hb.mono HG1.out.size))
                  clear HG1
                  clear hb
                  go_wp2_with fail
                  refine (nn_b1 _).mono ?_
                  rintro e x3 ⟨rfl, hb⟩
                  have HG3 := Lib.hid (HG2.out.trans (hb.mono HG2.out.size))
                  clear HG2
                  clear hb
                  go_wp2_with fail
                  refine (nn_b2 _).mono ?_
                  rintro e x4 ⟨rfl, hb⟩
                  have HG4 := Lib.hid (HG3.out.trans (hb.mono HG3.out.size))
                  clear HG3
                  clear hb
                  go_wp2_with fail
                  refine (nn_b3 _).mono ?_
                  rintro e x5 ⟨rfl, hb⟩
                  have HG5 := Lib.hid (HG4.out.trans (hb.mono HG4.out.size))
                  clear HG4
                  clear hb
                  go_wp2_with fail
                  refine (nn_b4 _).mono ?_
                  rintro e x6 ⟨rfl, hb⟩
                  have HG6 := Lib.hid (HG5.out.trans (hb.mono HG5.out.size))
                  clear HG5
                  clear hb
                  go_wp2_with fail
                  refine (nn_c1 _).mono ?_
                  rintro e x7 ⟨rfl, hb⟩
                  have HG7 := Lib.hid (HG6.out.trans (hb.mono HG6.out.size))
                  clear HG6
                  clear hb
                  go_upto_region 39 with fail
                  generalize hv : World.alloc _ _ = x8
                  have HG8 := Lib.hid (show Below w.heap.size w x8 by rw [← hv]; exact HG7.out.alloc HG7.out.size _)
                  clear hv HG7
                  go_wp2_with fail
                  refine (nn_c2 _).mono ?_
                  rintro e x9 ⟨rfl, hb⟩
                  have HG9 := Lib.hid (HG8.out.trans (hb.mono HG8.out.size))
                  clear HG8
                  clear hb
                  go_upto_region 40 with fail
                  generalize hv : World.alloc _ _ = x10
                  have HG10 := Lib.hid (show Below w.heap.size w x10 by rw [← hv]; exact HG9.out.alloc HG9.out.size _)
                  clear hv HG9
                  go_wp2_with fail
                  refine (nn_p _ (HE.out.below HG10.out hG)).mono ?_
                  rintro e x11 ⟨rfl, hb⟩
                  have HG11 := Lib.hid (HG10.out.trans (hb.mono HG10.out.size))
                  clear HG10
                  clear hb
                  go_upto_region 41 with fail
                  obtain ⟨Q, hQ⟩ : ∃ Q, x11.heap.size = Q := ⟨_, rfl⟩
                  generalize hv : World.alloc _ _ = x12
                  have HG12 := Lib.hid (show Below w.heap.size w x12 by rw [← hv]; exact HG11.out.alloc HG11.out.size _)
                  have TQ12 : RowKit.Hid (Pf4 Q x12 6 0 0 0) := Lib.hid (by rw [← hv, ← hQ]; exact Pf4.new x11 6 0 0 0 _)
                  try rw [hQ]
                  clear hQ
                  clear hv HG11
                  go_wp2_with fail
                  refine (nn_k0 _).mono ?_
                  rintro e x13 ⟨rfl, hb⟩
                  have HG13 := Lib.hid (HG12.out.trans (hb.mono HG12.out.size))
                  clear HG12
                  have TQ13 := Lib.hid (TQ12.out.on hb)
                  clear TQ12
                  clear hb
                  go_wp2_with fail
                  refine (nn_k1 _).mono ?_
                  rintro e x14 ⟨rfl, hb⟩
                  have HG14 := Lib.hid (HG13.out.trans (hb.mono HG13.out.size))
                  clear HG13
                  have TQ14 := Lib.hid (TQ13.out.on hb)
                  clear TQ13
                  clear hb
                  go_wp2_with fail
                  refine (nn_k2 _).mono ?_
                  rintro e x15 ⟨rfl, hb⟩
                  have HG15 := Lib.hid (HG14.out.trans (hb.mono HG14.out.size))
                  clear HG14
                  have TQ15 := Lib.hid (TQ14.out.on hb)
                  clear TQ14
                  clear hb
                  go_wp2_with fail
                  refine (nn_k3 _).mono ?_
                  rintro e x16 ⟨rfl, hb⟩
                  have HG16 := Lib.hid (HG15.out.trans (hb.mono HG15.out.size))
                  clear HG15
                  have TQ16 := Lib.hid (TQ15.out.on hb)
                  clear TQ15
                  clear hb
                  go_wp2_with fail
                  refine (nn_k4 _).mono ?_
                  rintro e x17 ⟨rfl, hb⟩
                  have HG17 := Lib.hid (HG16.out.trans (hb.mono HG16.out.size))
                  clear HG16
                  have TQ17 := Lib.hid (TQ16.out.on hb)
                  clear TQ16
                  clear hb
                  go_wp2_with fail
                  refine (nn_n0 _).mono ?_
                  rintro e x18 ⟨rfl, rfl⟩
                  go_wp2_with fail
                  refine (nn_n1 _).mono ?_
                  rintro e x19 ⟨rfl, rfl⟩
                  go_wp2_with fail
                  refine (nn_n2 _).mono ?_
                  rintro e x20 ⟨rfl, rfl⟩
                  go_wp2_with fail
                  refine (nn_n3 _).mono ?_
                  rintro e x21 ⟨rfl, rfl⟩
                  go_wp2_with fail
                  refine (nn_n4 _).mono ?_
                  rintro e x22 ⟨rfl, rfl⟩
                  go_wp2_with fail
                  refine (nn_n5 _).mono ?_
                  rintro e x23 ⟨rfl, rfl⟩
                  go_wp2_with fail
                  refine (nn_n6 _).mono ?_
                  rintro e x24 ⟨rfl, rfl⟩
                  go_wp2_with fail
                  refine (alive_any _ (HE.out.below HG17.out hG)).mono ?_
                  rintro e x25 ⟨rfl, hb⟩
                  have HG25 := Lib.hid (HG17.out.trans (hb.mono HG17.out.size))
                  clear HG17
                  have TQ25 := Lib.hid (TQ17.out.on hb)
                  clear TQ17
                  clear hb
                  obtain ⟨b0, b1, b2, b3, _, _, _, _⟩ := TQ25.out
                  go_wp2_with fail
                  refine (nn_cov _).mono ?_
                  rintro e x26 ⟨rfl, hb⟩
                  have HG26 := Lib.hid (HG25.out.trans (hb.mono HG25.out.size))
                  clear HG25
                  have TQ26 := Lib.hid (TQ25.out.on hb)
                  clear TQ25
                  clear hb
                  clear b0 b1 b2 b3
                  go_wp2_with fail
                  go_ret
                  exact ⟨rfl, HG26.out⟩
end Go.Proofs.YtjngfieggacpiaaDoor
