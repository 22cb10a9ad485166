/- LocatorWithin: containing is a partial order of directories, and what a directory contains is contained by those that contain it. For every three strings. No condition. -/
import Derived.Test.YtcnnnfnpdjgfmaaDoorLocDoor
import Derived.Test.YtcnnnfnpdjgfmaaDoorLocWrap
namespace Go.Proofs.YtcnnnfnpdjgfmaaDoor
open Go.ChangeShapes Go.WideShapes Go.ChangeAt Go.RowKit Lo
open Go.WideMaps Go.WideElems
open Go.ChangeMaps (open_string shut_string)
set_option linter.unusedVariables false
set_option linter.unusedSimpArgs false
set_option maxRecDepth 100000 in
set_option maxHeartbeats 16000000 in
theorem within_core (a b c : List UInt8) (w : World) (env : LEnv true w) (ha : a.length ≤ 500) (hb : b.length ≤ 500) (hc : c.length ≤ 500) :
    Calls Tryd.prog 10 #[.string (str a), .string (str b), .string (str c)] w fun e w' => e = .returned (.bool true) ∧ Below w.heap.size w w' := by
  have hG := env.big
  have HE := Lib.hid env
  have HAL := Lib.hid (fun (V : World) (e : LEnv true V) => alive_any V e)
  have HAA := Lib.hid (fun (V : World) (e : LEnv true V) => Within_any a a (by omega) (by omega) V e)
  have HAB := Lib.hid (fun (V : World) (e : LEnv true V) => Within_any a b (by omega) (by omega) V e)
  have HBA := Lib.hid (fun (V : World) (e : LEnv true V) => Within_any b a (by omega) (by omega) V e)
  have HBC := Lib.hid (fun (V : World) (e : LEnv true V) => Within_any b c (by omega) (by omega) V e)
  have HAC := Lib.hid (fun (V : World) (e : LEnv true V) => Within_any a c (by omega) (by omega) V e)
  have ia : ¬ ((str a).size : Int) > 500 := by rw [str_size]; omega
  have ib : ¬ ((str b).size : Int) > 500 := by rw [str_size]; omega
  have ic : ¬ ((str c).size : Int) > 500 := by rw [str_size]; omega
  obtain ⟨aa, ea, hsa⟩ : ∃ aa ea, withinL a a = (aa, ea) := ⟨_, _, rfl⟩
  obtain ⟨ab, f, hab⟩ : ∃ ab f, withinL a b = (ab, f) := ⟨_, _, rfl⟩
  obtain ⟨ba, g, hba⟩ : ∃ ba g, withinL b a = (ba, g) := ⟨_, _, rfl⟩
  obtain ⟨bc, h, hbc⟩ : ∃ bc h, withinL b c = (bc, h) := ⟨_, _, rfl⟩
  obtain ⟨ac, i, hac⟩ : ∃ ac i, withinL a c = (ac, i) := ⟨_, _, rfl⟩
  rw [hsa] at HAA
  rw [hab] at HAB
  rw [hba] at HBA
  rw [hbc] at HBC
  rw [hac] at HAC
  have HS1 : RowKit.Hid (ea = 0 → aa = true) := Lib.hid (fun e => by
    subst e
    rw [within_ok hsa]
    exact (pre_iff a a).2 (List.prefix_refl _))
  have HS2 : RowKit.Hid (ea ≠ 0 → aa = false) := Lib.hid (fun e => within_bad hsa e)
  have HEQ : RowKit.Hid (f = 0 → g = 0 → ab = true → ba = true → ((str a).toList == (str b).toList) = true) := Lib.hid (fun e1 e2 e3 e4 => by
    subst e1 e2 e3 e4
    have h1 := (pre_iff b a).1 (within_ok hab).symm
    have h2 := (pre_iff a b).1 (within_ok hba).symm
    have h3 : a = b := h1.eq_of_length (Nat.le_antisymm h1.length_le h2.length_le)
    rw [h3]
    exact beq_self_eq_true _)
  have HTR : RowKit.Hid (f = 0 → h = 0 → i = 0 → ab = true → bc = true → ac = true) := Lib.hid (fun e1 e2 e3 e4 e5 => by
    subst e1 e2 e3 e4 e5
    have h1 := (pre_iff b a).1 (within_ok hab).symm
    have h2 := (pre_iff c b).1 (within_ok hbc).symm
    rw [within_ok hac]
    exact (pre_iff c a).2 (h1.trans h2))
  clear env hsa hab hba hbc hac ha hb hc
  go_enter Tryd.func10, Tryd.ntmps10
  by_cases he0 : ea = 0
  · obtain rfl := HS1.out he0
    subst he0
    clear HS1 HS2
    by_cases hf0 : f = 0
    · subst hf0
      by_cases hg0 : g = 0
      · subst hg0
        cases ab
        · by_cases hh0 : h = 0
          · subst hh0
            by_cases hi0 : i = 0
            · subst hi0
              clear HEQ HTR
              go_wp2_with fail
              refine (HAL.out w HE.out).mono ?_
              rintro e w2 ⟨rfl, hb2⟩
              have HB2 := Lib.hid hb2
              clear hb2
              go_wp2_with fail
              refine (HAA.out w2 (HE.out.below HB2.out hG)).mono ?_
              rintro e w3 ⟨rfl, hb⟩
              have HB3 := Lib.hid (HB2.out.trans (hb.mono HB2.out.size))
              clear hb
              go_wp2_with fail
              refine (HAB.out w3 (HE.out.below HB3.out hG)).mono ?_
              rintro e w4 ⟨rfl, hb⟩
              have HB4 := Lib.hid (HB3.out.trans (hb.mono HB3.out.size))
              clear hb
              go_wp2_with fail
              refine (HBA.out w4 (HE.out.below HB4.out hG)).mono ?_
              rintro e w5 ⟨rfl, hb⟩
              have HB5 := Lib.hid (HB4.out.trans (hb.mono HB4.out.size))
              clear hb
              go_wp2_with fail
              refine (HBC.out w5 (HE.out.below HB5.out hG)).mono ?_
              rintro e w6 ⟨rfl, hb⟩
              have HB6 := Lib.hid (HB5.out.trans (hb.mono HB5.out.size))
              clear hb
              go_wp2_with fail
              refine (HAC.out w6 (HE.out.below HB6.out hG)).mono ?_
              rintro e w7 ⟨rfl, hb⟩
              have HB7 := Lib.hid (HB6.out.trans (hb.mono HB6.out.size))
              clear hb
              go_wp2_with fail
              go_ret
              exact ⟨rfl, HB7.out⟩
            · have izi : (i == 0) = false := by rw [beq_eq_false_iff_ne]; exact hi0
              clear HEQ HTR
              go_wp2_with fail
              refine (HAL.out w HE.out).mono ?_
              rintro e w2 ⟨rfl, hb2⟩
              have HB2 := Lib.hid hb2
              clear hb2
              go_wp2_with fail
              refine (HAA.out w2 (HE.out.below HB2.out hG)).mono ?_
              rintro e w3 ⟨rfl, hb⟩
              have HB3 := Lib.hid (HB2.out.trans (hb.mono HB2.out.size))
              clear hb
              go_wp2_with fail
              refine (HAB.out w3 (HE.out.below HB3.out hG)).mono ?_
              rintro e w4 ⟨rfl, hb⟩
              have HB4 := Lib.hid (HB3.out.trans (hb.mono HB3.out.size))
              clear hb
              go_wp2_with fail
              refine (HBA.out w4 (HE.out.below HB4.out hG)).mono ?_
              rintro e w5 ⟨rfl, hb⟩
              have HB5 := Lib.hid (HB4.out.trans (hb.mono HB4.out.size))
              clear hb
              go_wp2_with fail
              refine (HBC.out w5 (HE.out.below HB5.out hG)).mono ?_
              rintro e w6 ⟨rfl, hb⟩
              have HB6 := Lib.hid (HB5.out.trans (hb.mono HB5.out.size))
              clear hb
              go_wp2_with fail
              refine (HAC.out w6 (HE.out.below HB6.out hG)).mono ?_
              rintro e w7 ⟨rfl, hb⟩
              have HB7 := Lib.hid (HB6.out.trans (hb.mono HB6.out.size))
              clear hb
              go_wp2_with fail
              go_ret
              exact ⟨rfl, HB7.out⟩
          · have izh : (h == 0) = false := by rw [beq_eq_false_iff_ne]; exact hh0
            clear HEQ HTR
            go_wp2_with fail
            refine (HAL.out w HE.out).mono ?_
            rintro e w2 ⟨rfl, hb2⟩
            have HB2 := Lib.hid hb2
            clear hb2
            go_wp2_with fail
            refine (HAA.out w2 (HE.out.below HB2.out hG)).mono ?_
            rintro e w3 ⟨rfl, hb⟩
            have HB3 := Lib.hid (HB2.out.trans (hb.mono HB2.out.size))
            clear hb
            go_wp2_with fail
            refine (HAB.out w3 (HE.out.below HB3.out hG)).mono ?_
            rintro e w4 ⟨rfl, hb⟩
            have HB4 := Lib.hid (HB3.out.trans (hb.mono HB3.out.size))
            clear hb
            go_wp2_with fail
            refine (HBA.out w4 (HE.out.below HB4.out hG)).mono ?_
            rintro e w5 ⟨rfl, hb⟩
            have HB5 := Lib.hid (HB4.out.trans (hb.mono HB4.out.size))
            clear hb
            go_wp2_with fail
            refine (HBC.out w5 (HE.out.below HB5.out hG)).mono ?_
            rintro e w6 ⟨rfl, hb⟩
            have HB6 := Lib.hid (HB5.out.trans (hb.mono HB5.out.size))
            clear hb
            go_wp2_with fail
            refine (HAC.out w6 (HE.out.below HB6.out hG)).mono ?_
            rintro e w7 ⟨rfl, hb⟩
            have HB7 := Lib.hid (HB6.out.trans (hb.mono HB6.out.size))
            clear hb
            go_wp2_with fail
            go_ret
            exact ⟨rfl, HB7.out⟩
        · cases ba
          · by_cases hh0 : h = 0
            · subst hh0
              by_cases hi0 : i = 0
              · subst hi0
                cases bc
                · clear HEQ HTR
                  go_wp2_with fail
                  refine (HAL.out w HE.out).mono ?_
                  rintro e w2 ⟨rfl, hb2⟩
                  have HB2 := Lib.hid hb2
                  clear hb2
                  go_wp2_with fail
                  refine (HAA.out w2 (HE.out.below HB2.out hG)).mono ?_
                  rintro e w3 ⟨rfl, hb⟩
                  have HB3 := Lib.hid (HB2.out.trans (hb.mono HB2.out.size))
                  clear hb
                  go_wp2_with fail
                  refine (HAB.out w3 (HE.out.below HB3.out hG)).mono ?_
                  rintro e w4 ⟨rfl, hb⟩
                  have HB4 := Lib.hid (HB3.out.trans (hb.mono HB3.out.size))
                  clear hb
                  go_wp2_with fail
                  refine (HBA.out w4 (HE.out.below HB4.out hG)).mono ?_
                  rintro e w5 ⟨rfl, hb⟩
                  have HB5 := Lib.hid (HB4.out.trans (hb.mono HB4.out.size))
                  clear hb
                  go_wp2_with fail
                  refine (HBC.out w5 (HE.out.below HB5.out hG)).mono ?_
                  rintro e w6 ⟨rfl, hb⟩
                  have HB6 := Lib.hid (HB5.out.trans (hb.mono HB5.out.size))
                  clear hb
                  go_wp2_with fail
                  refine (HAC.out w6 (HE.out.below HB6.out hG)).mono ?_
                  rintro e w7 ⟨rfl, hb⟩
                  have HB7 := Lib.hid (HB6.out.trans (hb.mono HB6.out.size))
                  clear hb
                  go_wp2_with fail
                  go_ret
                  exact ⟨rfl, HB7.out⟩
                · obtain rfl := HTR.out rfl rfl rfl rfl rfl
                  clear HEQ HTR
                  go_wp2_with fail
                  refine (HAL.out w HE.out).mono ?_
                  rintro e w2 ⟨rfl, hb2⟩
                  have HB2 := Lib.hid hb2
                  clear hb2
                  go_wp2_with fail
                  refine (HAA.out w2 (HE.out.below HB2.out hG)).mono ?_
                  rintro e w3 ⟨rfl, hb⟩
                  have HB3 := Lib.hid (HB2.out.trans (hb.mono HB2.out.size))
                  clear hb
                  go_wp2_with fail
                  refine (HAB.out w3 (HE.out.below HB3.out hG)).mono ?_
                  rintro e w4 ⟨rfl, hb⟩
                  have HB4 := Lib.hid (HB3.out.trans (hb.mono HB3.out.size))
                  clear hb
                  go_wp2_with fail
                  refine (HBA.out w4 (HE.out.below HB4.out hG)).mono ?_
                  rintro e w5 ⟨rfl, hb⟩
                  have HB5 := Lib.hid (HB4.out.trans (hb.mono HB4.out.size))
                  clear hb
                  go_wp2_with fail
                  refine (HBC.out w5 (HE.out.below HB5.out hG)).mono ?_
                  rintro e w6 ⟨rfl, hb⟩
                  have HB6 := Lib.hid (HB5.out.trans (hb.mono HB5.out.size))
                  clear hb
                  go_wp2_with fail
                  refine (HAC.out w6 (HE.out.below HB6.out hG)).mono ?_
                  rintro e w7 ⟨rfl, hb⟩
                  have HB7 := Lib.hid (HB6.out.trans (hb.mono HB6.out.size))
                  clear hb
                  go_wp2_with fail
                  go_ret
                  exact ⟨rfl, HB7.out⟩
              · have izi : (i == 0) = false := by rw [beq_eq_false_iff_ne]; exact hi0
                clear HEQ HTR
                go_wp2_with fail
                refine (HAL.out w HE.out).mono ?_
                rintro e w2 ⟨rfl, hb2⟩
                have HB2 := Lib.hid hb2
                clear hb2
                go_wp2_with fail
                refine (HAA.out w2 (HE.out.below HB2.out hG)).mono ?_
                rintro e w3 ⟨rfl, hb⟩
                have HB3 := Lib.hid (HB2.out.trans (hb.mono HB2.out.size))
                clear hb
                go_wp2_with fail
                refine (HAB.out w3 (HE.out.below HB3.out hG)).mono ?_
                rintro e w4 ⟨rfl, hb⟩
                have HB4 := Lib.hid (HB3.out.trans (hb.mono HB3.out.size))
                clear hb
                go_wp2_with fail
                refine (HBA.out w4 (HE.out.below HB4.out hG)).mono ?_
                rintro e w5 ⟨rfl, hb⟩
                have HB5 := Lib.hid (HB4.out.trans (hb.mono HB4.out.size))
                clear hb
                go_wp2_with fail
                refine (HBC.out w5 (HE.out.below HB5.out hG)).mono ?_
                rintro e w6 ⟨rfl, hb⟩
                have HB6 := Lib.hid (HB5.out.trans (hb.mono HB5.out.size))
                clear hb
                go_wp2_with fail
                refine (HAC.out w6 (HE.out.below HB6.out hG)).mono ?_
                rintro e w7 ⟨rfl, hb⟩
                have HB7 := Lib.hid (HB6.out.trans (hb.mono HB6.out.size))
                clear hb
                go_wp2_with fail
                go_ret
                exact ⟨rfl, HB7.out⟩
            · have izh : (h == 0) = false := by rw [beq_eq_false_iff_ne]; exact hh0
              clear HEQ HTR
              go_wp2_with fail
              refine (HAL.out w HE.out).mono ?_
              rintro e w2 ⟨rfl, hb2⟩
              have HB2 := Lib.hid hb2
              clear hb2
              go_wp2_with fail
              refine (HAA.out w2 (HE.out.below HB2.out hG)).mono ?_
              rintro e w3 ⟨rfl, hb⟩
              have HB3 := Lib.hid (HB2.out.trans (hb.mono HB2.out.size))
              clear hb
              go_wp2_with fail
              refine (HAB.out w3 (HE.out.below HB3.out hG)).mono ?_
              rintro e w4 ⟨rfl, hb⟩
              have HB4 := Lib.hid (HB3.out.trans (hb.mono HB3.out.size))
              clear hb
              go_wp2_with fail
              refine (HBA.out w4 (HE.out.below HB4.out hG)).mono ?_
              rintro e w5 ⟨rfl, hb⟩
              have HB5 := Lib.hid (HB4.out.trans (hb.mono HB4.out.size))
              clear hb
              go_wp2_with fail
              refine (HBC.out w5 (HE.out.below HB5.out hG)).mono ?_
              rintro e w6 ⟨rfl, hb⟩
              have HB6 := Lib.hid (HB5.out.trans (hb.mono HB5.out.size))
              clear hb
              go_wp2_with fail
              refine (HAC.out w6 (HE.out.below HB6.out hG)).mono ?_
              rintro e w7 ⟨rfl, hb⟩
              have HB7 := Lib.hid (HB6.out.trans (hb.mono HB6.out.size))
              clear hb
              go_wp2_with fail
              go_ret
              exact ⟨rfl, HB7.out⟩
          · by_cases hh0 : h = 0
            · subst hh0
              by_cases hi0 : i = 0
              · subst hi0
                cases bc
                · have ieq := HEQ.out rfl rfl rfl rfl
                  clear HEQ HTR
                  go_wp2_with fail
                  refine (HAL.out w HE.out).mono ?_
                  rintro e w2 ⟨rfl, hb2⟩
                  have HB2 := Lib.hid hb2
                  clear hb2
                  go_wp2_with fail
                  refine (HAA.out w2 (HE.out.below HB2.out hG)).mono ?_
                  rintro e w3 ⟨rfl, hb⟩
                  have HB3 := Lib.hid (HB2.out.trans (hb.mono HB2.out.size))
                  clear hb
                  go_wp2_with fail
                  refine (HAB.out w3 (HE.out.below HB3.out hG)).mono ?_
                  rintro e w4 ⟨rfl, hb⟩
                  have HB4 := Lib.hid (HB3.out.trans (hb.mono HB3.out.size))
                  clear hb
                  go_wp2_with fail
                  refine (HBA.out w4 (HE.out.below HB4.out hG)).mono ?_
                  rintro e w5 ⟨rfl, hb⟩
                  have HB5 := Lib.hid (HB4.out.trans (hb.mono HB4.out.size))
                  clear hb
                  go_wp2_with fail
                  refine (HBC.out w5 (HE.out.below HB5.out hG)).mono ?_
                  rintro e w6 ⟨rfl, hb⟩
                  have HB6 := Lib.hid (HB5.out.trans (hb.mono HB5.out.size))
                  clear hb
                  go_wp2_with fail
                  refine (HAC.out w6 (HE.out.below HB6.out hG)).mono ?_
                  rintro e w7 ⟨rfl, hb⟩
                  have HB7 := Lib.hid (HB6.out.trans (hb.mono HB6.out.size))
                  clear hb
                  go_wp2_with fail
                  go_ret
                  exact ⟨rfl, HB7.out⟩
                · have ieq := HEQ.out rfl rfl rfl rfl
                  obtain rfl := HTR.out rfl rfl rfl rfl rfl
                  clear HEQ HTR
                  go_wp2_with fail
                  refine (HAL.out w HE.out).mono ?_
                  rintro e w2 ⟨rfl, hb2⟩
                  have HB2 := Lib.hid hb2
                  clear hb2
                  go_wp2_with fail
                  refine (HAA.out w2 (HE.out.below HB2.out hG)).mono ?_
                  rintro e w3 ⟨rfl, hb⟩
                  have HB3 := Lib.hid (HB2.out.trans (hb.mono HB2.out.size))
                  clear hb
                  go_wp2_with fail
                  refine (HAB.out w3 (HE.out.below HB3.out hG)).mono ?_
                  rintro e w4 ⟨rfl, hb⟩
                  have HB4 := Lib.hid (HB3.out.trans (hb.mono HB3.out.size))
                  clear hb
                  go_wp2_with fail
                  refine (HBA.out w4 (HE.out.below HB4.out hG)).mono ?_
                  rintro e w5 ⟨rfl, hb⟩
                  have HB5 := Lib.hid (HB4.out.trans (hb.mono HB4.out.size))
                  clear hb
                  go_wp2_with fail
                  refine (HBC.out w5 (HE.out.below HB5.out hG)).mono ?_
                  rintro e w6 ⟨rfl, hb⟩
                  have HB6 := Lib.hid (HB5.out.trans (hb.mono HB5.out.size))
                  clear hb
                  go_wp2_with fail
                  refine (HAC.out w6 (HE.out.below HB6.out hG)).mono ?_
                  rintro e w7 ⟨rfl, hb⟩
                  have HB7 := Lib.hid (HB6.out.trans (hb.mono HB6.out.size))
                  clear hb
                  go_wp2_with fail
                  go_ret
                  exact ⟨rfl, HB7.out⟩
              · have izi : (i == 0) = false := by rw [beq_eq_false_iff_ne]; exact hi0
                have ieq := HEQ.out rfl rfl rfl rfl
                clear HEQ HTR
                go_wp2_with fail
                refine (HAL.out w HE.out).mono ?_
                rintro e w2 ⟨rfl, hb2⟩
                have HB2 := Lib.hid hb2
                clear hb2
                go_wp2_with fail
                refine (HAA.out w2 (HE.out.below HB2.out hG)).mono ?_
                rintro e w3 ⟨rfl, hb⟩
                have HB3 := Lib.hid (HB2.out.trans (hb.mono HB2.out.size))
                clear hb
                go_wp2_with fail
                refine (HAB.out w3 (HE.out.below HB3.out hG)).mono ?_
                rintro e w4 ⟨rfl, hb⟩
                have HB4 := Lib.hid (HB3.out.trans (hb.mono HB3.out.size))
                clear hb
                go_wp2_with fail
                refine (HBA.out w4 (HE.out.below HB4.out hG)).mono ?_
                rintro e w5 ⟨rfl, hb⟩
                have HB5 := Lib.hid (HB4.out.trans (hb.mono HB4.out.size))
                clear hb
                go_wp2_with fail
                refine (HBC.out w5 (HE.out.below HB5.out hG)).mono ?_
                rintro e w6 ⟨rfl, hb⟩
                have HB6 := Lib.hid (HB5.out.trans (hb.mono HB5.out.size))
                clear hb
                go_wp2_with fail
                refine (HAC.out w6 (HE.out.below HB6.out hG)).mono ?_
                rintro e w7 ⟨rfl, hb⟩
                have HB7 := Lib.hid (HB6.out.trans (hb.mono HB6.out.size))
                clear hb
                go_wp2_with fail
                go_ret
                exact ⟨rfl, HB7.out⟩
            · have izh : (h == 0) = false := by rw [beq_eq_false_iff_ne]; exact hh0
              have ieq := HEQ.out rfl rfl rfl rfl
              clear HEQ HTR
              go_wp2_with fail
              refine (HAL.out w HE.out).mono ?_
              rintro e w2 ⟨rfl, hb2⟩
              have HB2 := Lib.hid hb2
              clear hb2
              go_wp2_with fail
              refine (HAA.out w2 (HE.out.below HB2.out hG)).mono ?_
              rintro e w3 ⟨rfl, hb⟩
              have HB3 := Lib.hid (HB2.out.trans (hb.mono HB2.out.size))
              clear hb
              go_wp2_with fail
              refine (HAB.out w3 (HE.out.below HB3.out hG)).mono ?_
              rintro e w4 ⟨rfl, hb⟩
              have HB4 := Lib.hid (HB3.out.trans (hb.mono HB3.out.size))
              clear hb
              go_wp2_with fail
              refine (HBA.out w4 (HE.out.below HB4.out hG)).mono ?_
              rintro e w5 ⟨rfl, hb⟩
              have HB5 := Lib.hid (HB4.out.trans (hb.mono HB4.out.size))
              clear hb
              go_wp2_with fail
              refine (HBC.out w5 (HE.out.below HB5.out hG)).mono ?_
              rintro e w6 ⟨rfl, hb⟩
              have HB6 := Lib.hid (HB5.out.trans (hb.mono HB5.out.size))
              clear hb
              go_wp2_with fail
              refine (HAC.out w6 (HE.out.below HB6.out hG)).mono ?_
              rintro e w7 ⟨rfl, hb⟩
              have HB7 := Lib.hid (HB6.out.trans (hb.mono HB6.out.size))
              clear hb
              go_wp2_with fail
              go_ret
              exact ⟨rfl, HB7.out⟩
      · have izg : (g == 0) = false := by rw [beq_eq_false_iff_ne]; exact hg0
        by_cases hh0 : h = 0
        · subst hh0
          by_cases hi0 : i = 0
          · subst hi0
            cases ab
            · clear HEQ HTR
              go_wp2_with fail
              refine (HAL.out w HE.out).mono ?_
              rintro e w2 ⟨rfl, hb2⟩
              have HB2 := Lib.hid hb2
              clear hb2
              go_wp2_with fail
              refine (HAA.out w2 (HE.out.below HB2.out hG)).mono ?_
              rintro e w3 ⟨rfl, hb⟩
              have HB3 := Lib.hid (HB2.out.trans (hb.mono HB2.out.size))
              clear hb
              go_wp2_with fail
              refine (HAB.out w3 (HE.out.below HB3.out hG)).mono ?_
              rintro e w4 ⟨rfl, hb⟩
              have HB4 := Lib.hid (HB3.out.trans (hb.mono HB3.out.size))
              clear hb
              go_wp2_with fail
              refine (HBA.out w4 (HE.out.below HB4.out hG)).mono ?_
              rintro e w5 ⟨rfl, hb⟩
              have HB5 := Lib.hid (HB4.out.trans (hb.mono HB4.out.size))
              clear hb
              go_wp2_with fail
              refine (HBC.out w5 (HE.out.below HB5.out hG)).mono ?_
              rintro e w6 ⟨rfl, hb⟩
              have HB6 := Lib.hid (HB5.out.trans (hb.mono HB5.out.size))
              clear hb
              go_wp2_with fail
              refine (HAC.out w6 (HE.out.below HB6.out hG)).mono ?_
              rintro e w7 ⟨rfl, hb⟩
              have HB7 := Lib.hid (HB6.out.trans (hb.mono HB6.out.size))
              clear hb
              go_wp2_with fail
              go_ret
              exact ⟨rfl, HB7.out⟩
            · cases bc
              · clear HEQ HTR
                go_wp2_with fail
                refine (HAL.out w HE.out).mono ?_
                rintro e w2 ⟨rfl, hb2⟩
                have HB2 := Lib.hid hb2
                clear hb2
                go_wp2_with fail
                refine (HAA.out w2 (HE.out.below HB2.out hG)).mono ?_
                rintro e w3 ⟨rfl, hb⟩
                have HB3 := Lib.hid (HB2.out.trans (hb.mono HB2.out.size))
                clear hb
                go_wp2_with fail
                refine (HAB.out w3 (HE.out.below HB3.out hG)).mono ?_
                rintro e w4 ⟨rfl, hb⟩
                have HB4 := Lib.hid (HB3.out.trans (hb.mono HB3.out.size))
                clear hb
                go_wp2_with fail
                refine (HBA.out w4 (HE.out.below HB4.out hG)).mono ?_
                rintro e w5 ⟨rfl, hb⟩
                have HB5 := Lib.hid (HB4.out.trans (hb.mono HB4.out.size))
                clear hb
                go_wp2_with fail
                refine (HBC.out w5 (HE.out.below HB5.out hG)).mono ?_
                rintro e w6 ⟨rfl, hb⟩
                have HB6 := Lib.hid (HB5.out.trans (hb.mono HB5.out.size))
                clear hb
                go_wp2_with fail
                refine (HAC.out w6 (HE.out.below HB6.out hG)).mono ?_
                rintro e w7 ⟨rfl, hb⟩
                have HB7 := Lib.hid (HB6.out.trans (hb.mono HB6.out.size))
                clear hb
                go_wp2_with fail
                go_ret
                exact ⟨rfl, HB7.out⟩
              · obtain rfl := HTR.out rfl rfl rfl rfl rfl
                clear HEQ HTR
                go_wp2_with fail
                refine (HAL.out w HE.out).mono ?_
                rintro e w2 ⟨rfl, hb2⟩
                have HB2 := Lib.hid hb2
                clear hb2
                go_wp2_with fail
                refine (HAA.out w2 (HE.out.below HB2.out hG)).mono ?_
                rintro e w3 ⟨rfl, hb⟩
                have HB3 := Lib.hid (HB2.out.trans (hb.mono HB2.out.size))
                clear hb
                go_wp2_with fail
                refine (HAB.out w3 (HE.out.below HB3.out hG)).mono ?_
                rintro e w4 ⟨rfl, hb⟩
                have HB4 := Lib.hid (HB3.out.trans (hb.mono HB3.out.size))
                clear hb
                go_wp2_with fail
                refine (HBA.out w4 (HE.out.below HB4.out hG)).mono ?_
                rintro e w5 ⟨rfl, hb⟩
                have HB5 := Lib.hid (HB4.out.trans (hb.mono HB4.out.size))
                clear hb
                go_wp2_with fail
                refine (HBC.out w5 (HE.out.below HB5.out hG)).mono ?_
                rintro e w6 ⟨rfl, hb⟩
                have HB6 := Lib.hid (HB5.out.trans (hb.mono HB5.out.size))
                clear hb
                go_wp2_with fail
                refine (HAC.out w6 (HE.out.below HB6.out hG)).mono ?_
                rintro e w7 ⟨rfl, hb⟩
                have HB7 := Lib.hid (HB6.out.trans (hb.mono HB6.out.size))
                clear hb
                go_wp2_with fail
                go_ret
                exact ⟨rfl, HB7.out⟩
          · have izi : (i == 0) = false := by rw [beq_eq_false_iff_ne]; exact hi0
            clear HEQ HTR
            go_wp2_with fail
            refine (HAL.out w HE.out).mono ?_
            rintro e w2 ⟨rfl, hb2⟩
            have HB2 := Lib.hid hb2
            clear hb2
            go_wp2_with fail
            refine (HAA.out w2 (HE.out.below HB2.out hG)).mono ?_
            rintro e w3 ⟨rfl, hb⟩
            have HB3 := Lib.hid (HB2.out.trans (hb.mono HB2.out.size))
            clear hb
            go_wp2_with fail
            refine (HAB.out w3 (HE.out.below HB3.out hG)).mono ?_
            rintro e w4 ⟨rfl, hb⟩
            have HB4 := Lib.hid (HB3.out.trans (hb.mono HB3.out.size))
            clear hb
            go_wp2_with fail
            refine (HBA.out w4 (HE.out.below HB4.out hG)).mono ?_
            rintro e w5 ⟨rfl, hb⟩
            have HB5 := Lib.hid (HB4.out.trans (hb.mono HB4.out.size))
            clear hb
            go_wp2_with fail
            refine (HBC.out w5 (HE.out.below HB5.out hG)).mono ?_
            rintro e w6 ⟨rfl, hb⟩
            have HB6 := Lib.hid (HB5.out.trans (hb.mono HB5.out.size))
            clear hb
            go_wp2_with fail
            refine (HAC.out w6 (HE.out.below HB6.out hG)).mono ?_
            rintro e w7 ⟨rfl, hb⟩
            have HB7 := Lib.hid (HB6.out.trans (hb.mono HB6.out.size))
            clear hb
            go_wp2_with fail
            go_ret
            exact ⟨rfl, HB7.out⟩
        · have izh : (h == 0) = false := by rw [beq_eq_false_iff_ne]; exact hh0
          clear HEQ HTR
          go_wp2_with fail
          refine (HAL.out w HE.out).mono ?_
          rintro e w2 ⟨rfl, hb2⟩
          have HB2 := Lib.hid hb2
          clear hb2
          go_wp2_with fail
          refine (HAA.out w2 (HE.out.below HB2.out hG)).mono ?_
          rintro e w3 ⟨rfl, hb⟩
          have HB3 := Lib.hid (HB2.out.trans (hb.mono HB2.out.size))
          clear hb
          go_wp2_with fail
          refine (HAB.out w3 (HE.out.below HB3.out hG)).mono ?_
          rintro e w4 ⟨rfl, hb⟩
          have HB4 := Lib.hid (HB3.out.trans (hb.mono HB3.out.size))
          clear hb
          go_wp2_with fail
          refine (HBA.out w4 (HE.out.below HB4.out hG)).mono ?_
          rintro e w5 ⟨rfl, hb⟩
          have HB5 := Lib.hid (HB4.out.trans (hb.mono HB4.out.size))
          clear hb
          go_wp2_with fail
          refine (HBC.out w5 (HE.out.below HB5.out hG)).mono ?_
          rintro e w6 ⟨rfl, hb⟩
          have HB6 := Lib.hid (HB5.out.trans (hb.mono HB5.out.size))
          clear hb
          go_wp2_with fail
          refine (HAC.out w6 (HE.out.below HB6.out hG)).mono ?_
          rintro e w7 ⟨rfl, hb⟩
          have HB7 := Lib.hid (HB6.out.trans (hb.mono HB6.out.size))
          clear hb
          go_wp2_with fail
          go_ret
          exact ⟨rfl, HB7.out⟩
    · have izf : (f == 0) = false := by rw [beq_eq_false_iff_ne]; exact hf0
      clear HEQ HTR
      go_wp2_with fail
      refine (HAL.out w HE.out).mono ?_
      rintro e w2 ⟨rfl, hb2⟩
      have HB2 := Lib.hid hb2
      clear hb2
      go_wp2_with fail
      refine (HAA.out w2 (HE.out.below HB2.out hG)).mono ?_
      rintro e w3 ⟨rfl, hb⟩
      have HB3 := Lib.hid (HB2.out.trans (hb.mono HB2.out.size))
      clear hb
      go_wp2_with fail
      refine (HAB.out w3 (HE.out.below HB3.out hG)).mono ?_
      rintro e w4 ⟨rfl, hb⟩
      have HB4 := Lib.hid (HB3.out.trans (hb.mono HB3.out.size))
      clear hb
      go_wp2_with fail
      refine (HBA.out w4 (HE.out.below HB4.out hG)).mono ?_
      rintro e w5 ⟨rfl, hb⟩
      have HB5 := Lib.hid (HB4.out.trans (hb.mono HB4.out.size))
      clear hb
      go_wp2_with fail
      refine (HBC.out w5 (HE.out.below HB5.out hG)).mono ?_
      rintro e w6 ⟨rfl, hb⟩
      have HB6 := Lib.hid (HB5.out.trans (hb.mono HB5.out.size))
      clear hb
      go_wp2_with fail
      refine (HAC.out w6 (HE.out.below HB6.out hG)).mono ?_
      rintro e w7 ⟨rfl, hb⟩
      have HB7 := Lib.hid (HB6.out.trans (hb.mono HB6.out.size))
      clear hb
      go_wp2_with fail
      go_ret
      exact ⟨rfl, HB7.out⟩
  · obtain rfl := HS2.out he0
    have ie : (ea != 0) = true := by rw [bne_iff_ne]; exact he0
    clear HS1 HS2 HEQ HTR
    go_wp2_with fail
    refine (HAL.out w HE.out).mono ?_
    rintro e w2 ⟨rfl, hb2⟩
    have HB2 := Lib.hid hb2
    clear hb2
    go_wp2_with fail
    refine (HAA.out w2 (HE.out.below HB2.out hG)).mono ?_
    rintro e w3 ⟨rfl, hb⟩
    have HB3 := Lib.hid (HB2.out.trans (hb.mono HB2.out.size))
    clear hb
    go_wp2_with fail
    go_ret
    exact ⟨rfl, HB3.out⟩
set_option maxRecDepth 100000 in
set_option maxHeartbeats 4000000 in
theorem within_true (a b c : List UInt8) (w : World) (env : LEnv true w) :
    Calls Tryd.prog 10 #[.string (str a), .string (str b), .string (str c)] w fun e w' => e = .returned (.bool true) ∧ Below w.heap.size w w' := by
  by_cases ha : a.length ≤ 500
  · by_cases hb : b.length ≤ 500
    · by_cases hc : c.length ≤ 500
      · exact within_core a b c w env ha hb hc
      · have ia : ¬ ((str a).size : Int) > 500 := by rw [str_size]; omega
        have ib : ¬ ((str b).size : Int) > 500 := by rw [str_size]; omega
        have ic : ((str c).size : Int) > 500 := by rw [str_size]; omega
        have HAL := Lib.hid (alive_any w env)
        clear env
        go_enter Tryd.func10, Tryd.ntmps10
        go_wp2_with fail
        refine HAL.out.mono ?_
        rintro e w2 ⟨rfl, hb2⟩
        have HB2 := Lib.hid hb2
        clear hb2
        go_wp2_with fail
        go_ret
        exact ⟨rfl, HB2.out⟩
    · have ia : ¬ ((str a).size : Int) > 500 := by rw [str_size]; omega
      have ib : ((str b).size : Int) > 500 := by rw [str_size]; omega
      have HAL := Lib.hid (alive_any w env)
      clear env
      go_enter Tryd.func10, Tryd.ntmps10
      go_wp2_with fail
      refine HAL.out.mono ?_
      rintro e w2 ⟨rfl, hb2⟩
      have HB2 := Lib.hid hb2
      clear hb2
      go_wp2_with fail
      go_ret
      exact ⟨rfl, HB2.out⟩
  · have ia : ((str a).size : Int) > 500 := by rw [str_size]; omega
    have HAL := Lib.hid (alive_any w env)
    clear env
    go_enter Tryd.func10, Tryd.ntmps10
    go_wp2_with fail
    refine HAL.out.mono ?_
    rintro e w2 ⟨rfl, hb2⟩
    have HB2 := Lib.hid hb2
    clear hb2
    go_wp2_with fail
    go_ret
    exact ⟨rfl, HB2.out⟩
set_option maxRecDepth 100000 in
theorem within9_lifted (os : Os) (started : os.Started) (H : Type) (enc : TypeId × Value → H) :
    ReturnsInHanded {} Tryd.checked os 10 .any (fun w args => (Rows.locatorWithinSpec.pre enc Tryd.prog Tryd.f10 Rows.locatorWithinRow.domain false w args ∧ laidMet Tryd.prog laidAll w) ∧ sizedMet enc Tryd.prog Tryd.f10 (OpenSpec.ofChange Rows.locatorWithinSpec) false w args)
      (Rows.locatorWithinSpec.post enc Tryd.prog Tryd.f10 false true false false) := by
  refine returns_laid (C := Tryd.checked) (X := fun w => laidMet Tryd.prog laidAll w) (fun _ _ hh h => h.of_heap hh) Tryd.own started (by kernel_rfl) Tryd.func10
    (ChangeSpec.witness_at (enc := enc) (C := Tryd.checked) (os := os) (X := fun w _ => laidMet Tryd.prog laidAll w) false (laidWorld os) #[.string ⟨#[]⟩, .string ⟨#[]⟩, .string ⟨#[]⟩] 8 rfl (by kernel_rfl) (by kernel_rfl) (by kernel_rfl) (by kernel_rfl) (by kernel_rfl) (laidWorld_met os _)) ?_
  intro W base args ds gs before hval0 hW hL hsh
  have hval : ∀ (j : Nat) t v, Tryd.f10.params[j]? = some t → args[j]? = some v → Value.okWide Tryd.prog W .any base t v := hval0
  have env := env_of_laid hL hsh
  have hW' := hW
  obtain ⟨p, q, hA0, hV, rfl, hfz, hnd⟩ := hW
  have hA : DataW.TrodAll enc Tryd.prog W 0 (fun _ => true) true Tryd.f10.params.toList args.toList ds p := hA0
  rw [Tryd.params10] at hA hval
  obtain ⟨v0, vs0, d0, ds0, p0, q0, hargs, rfl, rfl, h0, r0⟩ := trodAll_cons hA
  obtain ⟨v1, vs1, d1, ds1, p1, q1, rfl, rfl, rfl, h1, r1⟩ := trodAll_cons r0
  obtain ⟨v2, vs2, d2, ds2, p2, q2, rfl, rfl, rfl, h2, r2⟩ := trodAll_cons r1
  obtain ⟨rfl, rfl, rfl⟩ := trodAll_nil r2
  obtain rfl : args = #[v0, v1, v2] := by cases args; simp_all
  obtain ⟨rfl, rfl⟩ := trodVars_none hV
  obtain ⟨s0, rfl, e0, f0, w0⟩ := open_string Tryd.underlying9 (hval 0 9 v0 rfl rfl) h0
  obtain ⟨l0, rfl⟩ : ∃ l, s0 = str l := ⟨s0.data.toList, (str_of s0).symm⟩
  obtain ⟨s1, rfl, e1, f1, w1⟩ := open_string Tryd.underlying9 (hval 1 9 v1 rfl rfl) h1
  obtain ⟨l1, rfl⟩ : ∃ l, s1 = str l := ⟨s1.data.toList, (str_of s1).symm⟩
  obtain ⟨s2, rfl, e2, f2, w2⟩ := open_string Tryd.underlying9 (hval 2 9 v2 rfl rfl) h2
  obtain ⟨l2, rfl⟩ : ∃ l, s2 = str l := ⟨s2.data.toList, (str_of s2).symm⟩
  refine (within_true l0 l1 l2 W env ).mono fun e W' ⟨he, hg⟩ => ?_
  subst he
  exact ⟨_, rfl, law_post Tryd.laidOut (by kernel_rfl) (by kernel_rfl) hW' hg (trodAll_cons_mk (shut_bool Tryd.underlying4 _) trodAll_mk0) rfl rfl⟩
/-- the row -/
theorem within9_row : Rows.LocatorWithinSaid :=
  OpenClaim.holds_of_wide 10 Tryd.f10 rfl rfl rfl rfl rfl rfl rfl ⟨rfl, rfl, rfl, rfl, rfl⟩ rfl rfl rfl rfl rfl (by kernel_rfl) Tryd.func10 (by kernel_rfl)
    (of_decide_eq_true (by kernel_rfl)) (by unfold Func.isWrapper; rw [if_neg (of_decide_eq_false (by kernel_rfl))]; exact ⟨rfl, rfl⟩)
    (fun os started H enc _ => within9_lifted os started H enc)
/-- the statement -/
theorem within9_holds : Rows.LocatorWithinCardSaid :=
  Claim7.holds_tied_plain_at .later [] [.data, .data, .data, .data, .sentinel, .sentinel, .data, .data, .pinned] true (true, "e11af721ae8c6e5129fd735740f1445bd35404deed9d82c6da72676743633320") true
    within9_row (fun _ h => by cases h) (by kernel_rfl) (fun _ h => by cases h) locatorWithin_row_tie rfl ⟨rfl, rfl⟩ (by kernel_rfl) rfl
    (fun f fn hf hfn => by
      obtain rfl : f = 10 := Option.some.inj ((show Tryd.prog.funcNamed "gatepath/gatepathlaw09.LocatorWithin" = some 10 by kernel_rfl).symm.trans hf) |>.symm
      obtain rfl : fn = Tryd.f10 := (Option.some.inj (Tryd.func10.symm.trans hfn)).symm
      exact ⟨by kernel_rfl, fun j t ht => by
        rw [Tryd.params10] at ht
        have hp : t = 9 := by
          rcases j with _ | _ | _ | j
          · simpa using ht.symm
          · simpa using ht.symm
          · simpa using ht.symm
          · simp at ht
        rcases hp with rfl
        · exact (show Tryd.prog.wantsStandIn 9 = false by kernel_rfl)⟩)
    (by kernel_rfl)
#print axioms within9_holds
end Go.Proofs.YtcnnnfnpdjgfmaaDoor
