/-
  THE WALK over the reference of layer 9: Parse, of scheme 1.
-/
import Derived.Test.YthagoafcphaadaaDoorLocRPA
namespace Go.Proofs.YthagoafcphaadaaDoor
open Go.RowKit Lo
set_option linter.unusedVariables false
set_option linter.unusedSimpArgs false
set_option maxRecDepth 100000 in
set_option maxHeartbeats 16000000 in
theorem rparse_s1 (s : List UInt8) (w : World) (h9 : 9 ≤ s.length) (h200 : s.length ≤ 200) (hp : s.take 8 = pre 1) :
    Calls Tryd.prog 17 #[.string (str s)] w (PPost s w) := by
  have HF : RowKit.Hid (∀ l, parseL s = some l → Fnd s (un 58 47 s 8) (un 47 47 s (un 58 47 s 8)) l) := Lib.hid (fun l hl => fnd_of hl)
  have HNO0 : RowKit.Hid ((∀ l, parseL s = some l → False) → parseL s = none) := Lib.hid (fun h => by
    cases hq : parseL s with
    | none => rfl
    | some l => exact absurd (h l hq) id)
  have HAT : RowKit.Hid (∀ k, (h : k < (str s).size) → s[k]? = some ((str s)[k]'h)) := Lib.hid (fun k h => by
    have h2 : k < s.length := by rw [str_size] at h; exact h
    rw [List.getElem?_eq_getElem h2]
    rfl)
  have hpb := pb_new w
  go_enter Tryd.func17, Tryd.ntmps17
  go_upto_region 2 with (fail)
  generalize hv2 : World.alloc (World.alloc w _) _ = v2
  have HB2 := Lib.hid (show PB w w.heap.size 0 [] 0 [] false (.slice none 0 0) v2 by rw [← hv2]; exact hpb)
  clear hv2 hpb
  obtain ⟨N, hN⟩ : ∃ N, w.heap.size = N := ⟨_, rfl⟩
  have HNN := Lib.hid hN
  rw [hN] at HB2
  try simp only [hN]
  clear hN
  have i9 : ¬ ((str s).size : Int) < 9 := by rw [str_size]; omega
  have i200 : ¬ ((str s).size : Int) > 200 := by rw [str_size]; omega
  have h8 : (8 : Int) ≤ ((str s).size : Int) := by rw [str_size]; omega
  have HU0 := Lib.hid (fun (V : World) => show Calls Tryd.prog 32 #[.string (str s), .int .i64 8, .int .u8 58, .int .u8 47] V (fun e w' => e = .returned (.int .i64 (un 58 47 s 8 : Nat)) ∧ w' = V) from by
    have h := until_any (str s) 8 58 47 58 47 rfl rfl (by rw [str_size]; omega) (by rw [str_size]; omega) V
    rw [str_dat] at h
    exact h)
  have HU1 := Lib.hid (fun (V : World) => show Calls Tryd.prog 32 #[.string (str s), .int .i64 (un 58 47 s 8 : Nat), .int .u8 47, .int .u8 47] V (fun e w' => e = .returned (.int .i64 (un 47 47 s (un 58 47 s 8) : Nat)) ∧ w' = V) from by
    have h := until_any (str s) (un 58 47 s 8) 47 47 47 47 rfl rfl (by rw [str_size]; exact un_le _ _ _ _ (by omega)) (by rw [str_size]; omega) V
    rw [str_dat] at h
    exact h)
  have HU2 := Lib.hid (fun (k : Nat) (hk : k ≤ s.length) (V : World) => show Calls Tryd.prog 32 #[.string (str s), .int .i64 k, .int .u8 47, .int .u8 47] V (fun e w' => e = .returned (.int .i64 (un 47 47 s k : Nat)) ∧ w' = V) from by
    have h := until_any (str s) k 47 47 47 47 rfl rfl (by rw [str_size]; exact hk) (by rw [str_size]; omega) V
    rw [str_dat] at h
    exact h)
  have HST := Lib.hid (un_stop 58 47 s 8)
  have HS0 := Lib.hid (un_stop 47 47 s (un 58 47 s 8))
  have ha8 := un_ge 58 47 s 8
  have hal := un_le 58 47 s 8 (by omega)
  have HLE := Lib.hid (un_le 47 47 s (un 58 47 s 8) hal)
  have HXH : RowKit.Hid ((str s).extract 8 (un 58 47 s 8) = str ((s.drop 8).take (un 58 47 s 8 - 8))) := Lib.hid (ext_str9 s 8 _)
  have HEX0 : RowKit.Hid ((str s).extract 0 8 = str (s.take 8)) := Lib.hid (by rw [ext_str9]; rfl)
  have HHL : RowKit.Hid (((s.drop 8).take (un 58 47 s 8 - 8)).length < 4294967281) := Lib.hid (by rw [List.length_take, List.length_drop]; omega)
  have HHO : RowKit.Hid (∀ l, parseL s = some l → l.host = (s.drop 8).take (un 58 47 s 8 - 8)) := Lib.hid (fun l hl => (HF.out l hl).host)
  generalize hH : (s.drop 8).take (un 58 47 s 8 - 8) = H at HXH HHL HHO
  clear hH
  obtain ⟨e0, he0⟩ : ∃ e0, un 47 47 s (un 58 47 s 8) = e0 := ⟨_, rfl⟩
  rw [he0] at HU1 HS0 HLE HF
  have HE0 : RowKit.Hid (un 47 47 s (un 58 47 s 8) = e0) := Lib.hid he0
  clear he0
  generalize un 58 47 s 8 = a0 at HU0 HU1 HST HS0 ha8 hal HLE HE0 HXH HF HHO
  have ha8i : (8 : Int) ≤ (a0 : Int) := by omega
  have hali : (a0 : Int) ≤ ((str s).size : Int) := by rw [str_size]; omega
  have heq : ∀ z : List UInt8, ((str (s.take 8)).toList == z) = decide (s.take 8 = z) := fun z => by rw [eqS, str_dat]
  have HX0 : RowKit.Hid (∀ l, parseL s = some l → (l.sch = 1 ∧ s.take 8 = pre 1) ∨ (l.sch = 2 ∧ s.take 8 = pre 2)) := Lib.hid (fun l hl => (HF.out l hl).sch)
  generalize s.take 8 = X at heq HEX0 HX0 hp
  have j1 := (heq [114, 115, 121, 110, 99, 58, 47, 47]).trans (decide_eq_true hp)
  have HSL : RowKit.Hid (∀ l, parseL s = some l → l.sch = 1) := Lib.hid (fun l hl => by
    rcases HX0.out l hl with h | h
    · exact h.1
    · rw [hp] at h; exact absurd h.2 (by decide))
  clear heq hp
  obtain ⟨hz, m0, m1, m2, m3, m4, k0, k1, k2, k3, k4⟩ := locfacts HB2.out.mm
  go_upto_region 6 with (fail)
  rw [HEX0.out]
  go_upto_region 10 with (fail)
  generalize hv3 : World.setCell _ _ _ = v3
  have HB3 := Lib.hid (show PB w N 1 [] 0 [] false (.slice none 0 0) v3 by rw [← hv3]; exact HB2.out.set0 1)
  have HSS : RowKit.Hid ((1 : Nat) < 256) := Lib.hid (by decide)
  clear hv3 hz m0 m1 m2 m3 m4 k0 k1 k2 k3 k4
  obtain ⟨S, hS⟩ : ∃ S, 1 = S := ⟨_, rfl⟩
  rw [hS] at HB3 HSS HSL
  clear hS HB2
  clear HX0
  go_wp2_with fail
  refine (HU0.out v3).mono ?_
  rintro e w4 ⟨rfl, rfl⟩
  obtain ⟨hz, m0, m1, m2, m3, m4, k0, k1, k2, k3, k4⟩ := locfacts (b := .string (str [])) HB3.out.mm
  go_upto_region 12 with (fail)
  generalize hv4 : World.setCell _ _ _ = v4
  have HB4 := Lib.hid (show PB w N S H 0 [] false (.slice none 0 0) v4 by rw [← hv4, HXH.out]; exact HB3.out.set1 H)
  clear hv4 hz m0 m1 m2 m3 m4 k0 k1 k2 k3 k4
  by_cases hlt : a0 < s.length
  · have hki : (a0 : Int) < ((str s).size : Int) := by rw [str_size]; omega
    have hls : a0 < (str s).size := by rw [str_size]; exact hlt
    obtain ⟨x, hx⟩ : ∃ x, s[a0]? = some x := ⟨s[a0], List.getElem?_eq_getElem hlt⟩
    have hxs : (str s)[a0]'hls = x := by
      have h1 := HAT.out a0 hls
      rw [hx] at h1
      exact (Option.some.inj h1).symm
    rcases HST.out x hx with rfl | rfl
    · have i58 : ((((str s)[a0]'hls).toNat : Int) == 58) = true := by rw [hxs]; rfl
      have H58 := Lib.hid hx
      clear hx hxs
      go_wp2_with fail
      refine (HU1.out v4).mono ?_
      rintro e w5 ⟨rfl, rfl⟩
      by_cases h6 : e0 ≤ a0 + 6
      · have i6 : ¬ ((e0 : Int) - (a0 : Int) > 6) := by omega
        have hg := un_ge 47 47 s a0
        rw [HE0.out] at hg
        have hlt2 : a0 < e0 := by
          rcases Nat.lt_or_ge a0 e0 with h | h
          · exact h
          · exfalso
            have e : e0 = a0 := by omega
            have h47 := HS0.out 58 (by rw [e]; exact H58.out)
            revert h47
            decide
        have hle0 : e0 ≤ s.length := HLE.out
        clear hg
        go_wp2_with fail
        go_loopw [7] (fun i wr => ∃ (k : Nat), a0 + 1 ≤ k ∧ k ≤ e0 ∧ i = .int .i64 k ∧ (∀ x ∈ dgs s a0 k, 48 ≤ x.toNat ∧ x.toNat ≤ 57) ∧ PB w N S H (dvl (dgs s a0 k) : Nat) [] false (.slice none 0 0) wr) (fun i _ => e0 - (intOf i).toNat)
        case atStart => exact ⟨a0 + 1, Nat.le_refl _, by omega, by go_num, by rw [dgs_start]; simp, by rw [dgs_start]; exact HB4.out⟩
        case round =>
          obtain ⟨k, hk1, hk2, rfl, hdg, hpb⟩ := hrel
          obtain ⟨V, hV⟩ : ∃ V, V = wr := ⟨_, rfl⟩
          subst hV
          have HDG := Lib.hid hdg
          have HB := Lib.hid hpb
          clear hdg hpb
          by_cases hke : k < e0
          · have hke2 : (k : Int) < (e0 : Int) := by omega
            have hkl : k < (str s).size := by rw [str_size]; omega
            have hkl2 : (k : Int) < ((str s).size : Int) := by omega
            have HX9 := Lib.hid (HAT.out k hkl)
            have hsn := dgs_snoc s a0 k _ hk1 HX9.out
            have hpw : dvl (dgs s a0 k) < 100000 := by
              have h1 := dvl_pow _ HDG.out
              have h2 : (dgs s a0 k).length ≤ 5 := by unfold dgs; rw [List.length_drop, List.length_take]; omega
              exact Nat.lt_of_lt_of_le h1 (Nat.pow_le_pow_right (by decide) h2)
            have hdv := dvl_snoc (dgs s a0 k) ((str s)[k]'hkl)
            rw [← hsn] at hdv
            have HIN : RowKit.Hid (∀ l, parseL s = some l → 48 ≤ ((str s)[k]'hkl).toNat ∧ ((str s)[k]'hkl).toNat ≤ 57) := Lib.hid (fun l hl => ((HF.out l hl).some_ H58.out).2.1 _ (dgs_mem s a0 k e0 _ hk1 hke HX9.out))
            obtain ⟨n, hn⟩ : ∃ n, ((str s)[k]'hkl).toNat = n := ⟨_, rfl⟩
            rw [hn] at hdv HIN
            by_cases d1 : 48 ≤ n
            · by_cases d2 : n ≤ 57
              · have c1 : ¬ ((((str s)[k]'hkl).toNat : Int) < 48) := by rw [hn]; omega
                have c2 : ¬ ((((str s)[k]'hkl).toNat : Int) > 57) := by rw [hn]; omega
                have c3 : (48 : Int) ≤ (((str s)[k]'hkl).toNat : Int) ∧ (((str s)[k]'hkl).toNat : Int) ≤ 57 := by rw [hn]; omega
                obtain ⟨c3, c4⟩ := c3
                have HD2 : RowKit.Hid (∀ x ∈ dgs s a0 (k + 1), 48 ≤ x.toNat ∧ x.toNat ≤ 57) := Lib.hid (by
                  rw [hsn]
                  intro x hx
                  rcases List.mem_append.1 hx with hx | hx
                  · exact HDG.out x hx
                  · rw [List.mem_singleton.1 hx, hn]; exact ⟨d1, d2⟩)
                have HV2 : RowKit.Hid (10 * ((dvl (dgs s a0 k) : Nat) : Int) + ((((str s)[k]'hkl).toNat : Int) - 48) = ((dvl (dgs s a0 (k + 1)) : Nat) : Int)) := Lib.hid (by rw [hn, hdv]; omega)
                generalize hdq : dvl (dgs s a0 k) = q at HB HV2 hpw
                clear hsn hdv HX9 HIN hn hdq d1 d2
                have hq1 : (0 : Int) ≤ (q : Int) := by omega
                have hq2 : (q : Int) < 100000 := by omega
                have w1 : IntKind.i64.wrap (10 * (q : Int)) = 10 * (q : Int) := IntWalk.i64_in _ (by omega)
                have w2 : IntKind.u8.wrap ((((str s)[k]'hkl).toNat : Int) - 48) = (((str s)[k]'hkl).toNat : Int) - 48 := IntWalk.u8_in _ (by omega)
                have w3 : IntKind.i64.wrap (10 * (q : Int) + ((((str s)[k]'hkl).toNat : Int) - 48)) = 10 * (q : Int) + ((((str s)[k]'hkl).toNat : Int) - 48) := IntWalk.i64_in _ (by omega)
                have w4 : IntKind.i64.wrap ((((str s)[k]'hkl).toNat : Int) - 48) = (((str s)[k]'hkl).toNat : Int) - 48 := IntWalk.i64_in _ (by omega)
                obtain ⟨hz, m0, m1, m2, m3, m4, k0, k1_, k2, k3, k4⟩ := locfacts HB.out.mm
                go_wp2_with fail
                go_still_tail 10, (by kernel_rfl)
                change wpList _ _ _ _ _ V.drew
                have HBD := Lib.hid (HB.out.on (V' := V.drew) ⟨rfl, rfl, rfl, Nat.le_refl _, fun _ _ => rfl⟩)
                generalize V.drew = V2 at HBD ⊢
                clear hz m0 m1 m2 m3 m4 k0 k1_ k2 k3 k4
                obtain ⟨hz, m0, m1, m2, m3, m4, k0, k1_, k2, k3, k4⟩ := locfacts HBD.out.mm
                go_wp2_with fail
                try rw [HV2.out]
                generalize hv9 : World.setCell _ _ _ = v9
                have HB9 := Lib.hid (show PB w N S H (dvl (dgs s a0 (k + 1)) : Nat) [] false (.slice none 0 0) v9 by rw [← hv9]; exact HBD.out.set2 _)
                clear hv9
                exact ⟨⟨k + 1, by omega, by omega, by go_num, HD2.out, HB9.out⟩, by simp [intOf]; omega⟩
              · have HPN : RowKit.Hid (parseL s = none) := Lib.hid (HNO0.out (fun l hl => d2 (HIN.out l hl).2))
                have c1 : ¬ ((((str s)[k]'hkl).toNat : Int) < 48) := by rw [hn]; omega
                have c2 : ((((str s)[k]'hkl).toNat : Int) > 57) := by rw [hn]; omega
                clear hsn hdv HX9 HIN hn d1 d2
                obtain ⟨gz, g0, g1, g2, g3, g4, k0, k1, k2, k3, k4⟩ := locfacts (a := .int .u8 0) (b := .string ⟨#[]⟩) (c := .int .i64 0) (d := .slice none 0 0) (e := .bool false) HB.out.hN
                go_wp2_with fail
                have B := five_row (v0 := .int .u8 0) (v1 := .string ⟨#[]⟩) (v2 := .int .i64 0) (v3 := .slice none 0 0) (v4 := .bool false) (a := .int .u8 0) (b := .string ⟨#[]⟩) (c := .int .i64 0) (d := .slice none 0 0) (e := .bool false) HB.out.hN
                have HBX := Lib.hid (below_at5 HB.out.bl (Nat.le_refl _) (.int .u8 0) (.string ⟨#[]⟩) (.int .i64 0) (.slice none 0 0) (.bool false))
                generalize hfin : World.setCell (World.setCell (World.setCell (World.setCell (World.setCell _ _ _) _ _) _ _) _ _) _ _ = fin at B HBX ⊢
                clear hfin
                obtain ⟨-, b0, b1, b2, b3, b4, -, -, -, -, -⟩ := locfacts B
                refine bodyPost_ret (v := .tuple #[.agg #[.int .u8 0, .string ⟨#[]⟩, .int .i64 0, .slice none 0 0, .bool false], .int .i64 12]) (by simp [results, Tryd.results17, go_sem, b0, b1, b2, b3, b4]) rfl (bad_post HPN.out (by rw [HNN.out]; exact HBX.out))
            · have HPN : RowKit.Hid (parseL s = none) := Lib.hid (HNO0.out (fun l hl => d1 (HIN.out l hl).1))
              have c1 : ((((str s)[k]'hkl).toNat : Int) < 48) := by rw [hn]; omega
              clear hsn hdv HX9 HIN hn d1
              obtain ⟨gz, g0, g1, g2, g3, g4, k0, k1, k2, k3, k4⟩ := locfacts (a := .int .u8 0) (b := .string ⟨#[]⟩) (c := .int .i64 0) (d := .slice none 0 0) (e := .bool false) HB.out.hN
              go_wp2_with fail
              have B := five_row (v0 := .int .u8 0) (v1 := .string ⟨#[]⟩) (v2 := .int .i64 0) (v3 := .slice none 0 0) (v4 := .bool false) (a := .int .u8 0) (b := .string ⟨#[]⟩) (c := .int .i64 0) (d := .slice none 0 0) (e := .bool false) HB.out.hN
              have HBX := Lib.hid (below_at5 HB.out.bl (Nat.le_refl _) (.int .u8 0) (.string ⟨#[]⟩) (.int .i64 0) (.slice none 0 0) (.bool false))
              generalize hfin : World.setCell (World.setCell (World.setCell (World.setCell (World.setCell _ _ _) _ _) _ _) _ _) _ _ = fin at B HBX ⊢
              clear hfin
              obtain ⟨-, b0, b1, b2, b3, b4, -, -, -, -, -⟩ := locfacts B
              refine bodyPost_ret (v := .tuple #[.agg #[.int .u8 0, .string ⟨#[]⟩, .int .i64 0, .slice none 0 0, .bool false], .int .i64 12]) (by simp [results, Tryd.results17, go_sem, b0, b1, b2, b3, b4]) rfl (bad_post HPN.out (by rw [HNN.out]; exact HBX.out))
          · have hkk : k = e0 := by omega
            have hke2 : ¬ (k : Int) < (e0 : Int) := by omega
            subst hkk
            have HB5 := HB
            have HLP : RowKit.Hid (∀ l, parseL s = some l → l.sch = S ∧ l.host = H ∧ l.port = ((dvl (dgs s a0 k) : Nat) : Int)) := Lib.hid (fun l hl => ⟨HSL.out l hl, HHO.out l hl, ((HF.out l hl).some_ H58.out).2.2.1⟩)
            have HSO : RowKit.Hid (∀ l, parseL s = some l → Sofar l (s.drop k) [] false) := Lib.hid (fun l hl => by rw [((HF.out l hl).some_ H58.out).2.2.2]; exact sofar_start l)
            obtain ⟨pt_, hpt⟩ : ∃ pt_, ((dvl (dgs s a0 k) : Nat) : Int) = pt_ := ⟨_, rfl⟩
            rw [hpt] at HLP HB5
            have HBS := HB5
            have HA1 : RowKit.Hid (k ≤ s.length) := Lib.hid hle0
            clear HB HB4 HDG hpt
            go_wp2_with fail
            obtain ⟨a1, ha1⟩ : ∃ a1, k = a1 := ⟨_, rfl⟩
            rw [ha1] at HSO HA1
            try simp only [ha1]
            clear ha1
            go_loopw [5] (fun i wr => ∃ (k : Nat) (P : List (List UInt8)) (dd : Bool) (v : Value), a1 ≤ k ∧ k ≤ s.length ∧ i = .int .i64 k ∧ PB w N S H pt_ P dd v wr ∧ P.length ≤ k ∧ (∀ q ∈ P, q.length ≤ 1000) ∧ (∀ l, parseL s = some l → Sofar l (s.drop k) P dd)) (fun i _ => s.length - (intOf i).toNat)
            case atStart => exact ⟨a1, [], false, _, Nat.le_refl _, HA1.out, rfl, HBS.out, Nat.zero_le _, (fun q hq => by cases hq), HSO.out⟩
            case round =>
              clear HBS HSO
              obtain ⟨k, P, dd, v, hk1, hk2, rfl, hpb, hpl, hpq, hso⟩ := hrel
              obtain ⟨V, hV⟩ : ∃ V, V = wr := ⟨_, rfl⟩
              subst hV
              have HB := Lib.hid hpb
              have HPL := Lib.hid hpl
              have HPB := Lib.hid hpq
              have HSO := Lib.hid hso
              clear hpb hpl hpq hso
              by_cases hlt : k < s.length
              · have hki : (k : Int) < ((str s).size : Int) := by rw [str_size]; omega
                have HUN := Lib.hid (HU2.out (k + 1) (by omega))
                have h1 := un_ge 47 47 s (k + 1)
                have h2 := un_le 47 47 s (k + 1) (by omega)
                have HEX : RowKit.Hid (∀ e, (str s).extract (k + 1) e = str ((s.drop (k + 1)).take (e - (k + 1)))) := Lib.hid (fun e => ext_str9 s (k + 1) e)
                have HSD : RowKit.Hid (k + 1 = s.length → ∀ l, parseL s = some l → Sofar l (s.drop (k + 1)) P true) := Lib.hid (fun e l hl => sofar_dir (HF.out l hl).parts (HSO.out l hl) e)
                have HSP0 : RowKit.Hid (¬ (un 47 47 s (k + 1) = k + 1 ∧ un 47 47 s (k + 1) = s.length) → ∀ l, parseL s = some l → Sofar l (s.drop (un 47 47 s (k + 1))) (P ++ [(s.drop (k + 1)).take (un 47 47 s (k + 1) - (k + 1))]) dd) := Lib.hid (fun e l hl => sofar_part (HF.out l hl).parts (HSO.out l hl) hlt e)
                generalize un 47 47 s (k + 1) = e1 at HUN h1 h2 HSP0
                have HZI : RowKit.Hid (((str s).size : Int) = (s.length : Int)) := Lib.hid (by rw [str_size])
                clear HSO
                go_wp2_with fail
                refine (HUN.out V).mono ?_
                rintro e w9 ⟨rfl, hw9⟩
                rw [hw9]
                clear hw9 w9
                by_cases q1 : e1 = k + 1
                · have j1 : ((e1 : Int) == (k : Int) + 1) = true := by rw [beq_iff_eq]; omega
                  by_cases q2 : e1 = s.length
                  · have j2 : ((e1 : Int) == ((str s).size : Int)) = true := by rw [beq_iff_eq, HZI.out]; omega
                    have HS9 := Lib.hid (HSD.out (by omega))
                    have HN9 : RowKit.Hid (e1 = k + 1) := Lib.hid q1
                    have h3 : e1 ≤ s.length ∧ k < e1 := ⟨by omega, by omega⟩
                    obtain ⟨h3, h4⟩ := h3
                    clear HSP0 HSD h1 h2 q1 q2
                    obtain ⟨hz, m0, m1, m2, m3, m4, k0, k1_, k2, k3, k4⟩ := locfacts HB.out.mm
                    go_wp2_with fail
                    generalize hv9 : World.setCell _ _ _ = v9
                    have HB9 := Lib.hid (show PB w N S H pt_ P true v v9 by rw [← hv9]; exact HB.out.set4 true)
                    clear hv9
                    exact ⟨⟨e1, P, true, _, by omega, h3, by go_num, HB9.out, by have := HPL.out; omega, HPB.out, by rw [HN9.out]; exact HS9.out⟩, by simp [intOf]; omega⟩
                  · have j2 : ((e1 : Int) == ((str s).size : Int)) = false := by rw [beq_eq_false_iff_ne, HZI.out]; omega
                    have HSP1 := Lib.hid (HSP0.out (fun h => q2 h.2))
                    have HCZ : RowKit.Hid (((s.drop (k + 1)).take (e1 - (k + 1))).length ≤ 1000) := Lib.hid (by rw [List.length_take, List.length_drop]; omega)
                    have HEX := Lib.hid (HEX.out e1)
                    have HSP := HSP1
                    clear HSP0 HSD HSP1
                    obtain ⟨cc, hcc⟩ : ∃ cc, (s.drop (k + 1)).take (e1 - (k + 1)) = cc := ⟨_, rfl⟩
                    rw [hcc] at HCZ HEX HSP
                    clear hcc
                    have hki2 : (k : Int) + 1 ≤ (e1 : Int) := by omega
                    have hki3 : (e1 : Int) ≤ ((str s).size : Int) := by rw [HZI.out]; omega
                    have hwk : IntKind.i64.wrap ((k : Int) + 1) = (k : Int) + 1 := IntWalk.i64_in _ (by omega)
                    have hk0 : (0 : Int) ≤ (k : Int) + 1 := by omega
                    clear q1
                    try clear q2
                    go_wp2_with fail
                    refine wp_region_held_drew (S := fun _ => True) (by kernel_rfl) trivial (fun hHeld => ?_)
                    generalize hU : World.drew V = U at hHeld ⊢
                    have HLU := Lib.hid (show PB w N S H pt_ P dd v U by rw [← hU]; exact HB.out.on ⟨rfl, rfl, rfl, Nat.le_refl _, fun _ _ => rfl⟩)
                    clear hU
                    refine wpAnyH_take (i := 0) (oi := { dst := Option.some 99, op := Go.Op.fieldAddr 24 (Go.Operand.tmp 4) 3, type := 0, pos := "ref.go:176", after := #[], guard := Option.none }) (v := ?_) rfl (by kernel_rfl) (by kernel_rfl) (by kernel_rfl) (fun _ _ _ h => h) (Or.inl ⟨by rfl, ?_⟩) hHeld ?_
                    rotate_left
                    · intro w hSw
                      clear hSw
                      go_simp
                      try with_reducible rfl
                    try simp only [Act.put, List.setIfInBounds_toArray, List.set_cons_zero, List.set_cons_succ]
                    refine wpAnyH_take (i := 2) (oi := { dst := Option.some 101, op := Go.Op.move (Go.Operand.tmp 0), type := 9, pos := "ref.go:176", after := #[], guard := Option.none }) (v := ?_) rfl (by kernel_rfl) (by kernel_rfl) (by kernel_rfl) (fun _ _ _ h => h) (Or.inl ⟨by rfl, ?_⟩) hHeld ?_
                    rotate_left
                    · intro w hSw
                      clear hSw
                      go_simp
                      try with_reducible rfl
                    try simp only [Act.put, List.setIfInBounds_toArray, List.set_cons_zero, List.set_cons_succ]
                    refine wpAnyH_take (i := 3) (oi := { dst := Option.some 102, op := Go.Op.move (Go.Operand.tmp 5), type := 3, pos := "ref.go:176", after := #[], guard := Option.none }) (v := ?_) rfl (by kernel_rfl) (by kernel_rfl) (by kernel_rfl) (fun _ _ _ h => h) (Or.inl ⟨by rfl, ?_⟩) hHeld ?_
                    rotate_left
                    · intro w hSw
                      clear hSw
                      go_simp
                      try with_reducible rfl
                    try simp only [Act.put, List.setIfInBounds_toArray, List.set_cons_zero, List.set_cons_succ]
                    refine wpAnyH_take (i := 4) (oi := { dst := Option.some 103, op := Go.Op.binOp Go.BinOp.add 3 (Go.Operand.tmp 102) (Go.Operand.const (Go.Value.int Go.IntKind.i64 1)) 3, type := 3, pos := "ref.go:176", after := #[{ on := 3, ground := Go.Ground.data }], guard := Option.none }) (v := ?_) rfl (by kernel_rfl) (by kernel_rfl) (by kernel_rfl) (fun _ _ _ h => h) (Or.inl ⟨by rfl, ?_⟩) hHeld ?_
                    rotate_left
                    · intro w hSw
                      clear hSw
                      go_simp
                      try with_reducible rfl
                    try simp only [Act.put, List.setIfInBounds_toArray, List.set_cons_zero, List.set_cons_succ]
                    refine wpAnyH_take (i := 5) (oi := { dst := Option.some 104, op := Go.Op.move (Go.Operand.tmp 8), type := 3, pos := "ref.go:176", after := #[], guard := Option.none }) (v := ?_) rfl (by kernel_rfl) (by kernel_rfl) (by kernel_rfl) (fun _ _ _ h => h) (Or.inl ⟨by rfl, ?_⟩) hHeld ?_
                    rotate_left
                    · intro w hSw
                      clear hSw
                      go_simp
                      try with_reducible rfl
                    try simp only [Act.put, List.setIfInBounds_toArray, List.set_cons_zero, List.set_cons_succ]
                    refine wpAnyH_take (i := 6) (oi := { dst := Option.some 105, op := Go.Op.slice 9 (Go.Operand.tmp 101) (Option.some (Go.Operand.tmp 103)) (Option.some (Go.Operand.tmp 104)) Option.none, type := 9, pos := "ref.go:176", after := #[{ on := 2, ground := Go.Ground.data }, { on := 4, ground := Go.Ground.data }, { on := 5, ground := Go.Ground.data }], guard := Option.none }) (v := ?_) rfl (by kernel_rfl) (by kernel_rfl) (by kernel_rfl) (fun _ _ _ h => h) (Or.inl ⟨by rfl, ?_⟩) hHeld ?_
                    rotate_left
                    · intro w hSw
                      clear hSw
                      go_simp
                      try with_reducible rfl
                    try simp only [Act.put, List.setIfInBounds_toArray, List.set_cons_zero, List.set_cons_succ]
                    refine wpAnyH_ready (rs := [1, 7]) (by kernel_rfl) (by simp) (AllReadyH.cons (o := { dst := Option.some 100, op := Go.Op.load 22 (Go.Operand.tmp 99), type := 22, pos := "ref.go:176", after := #[{ on := 0, ground := Go.Ground.data }], guard := Option.none }) rfl (fun K hK => ?_) (AllReadyH.cons (o := { dst := Option.some 106, op := Go.Op.buildSlice 22 1 #[(0, Go.Operand.tmp 105)], type := 22, pos := "ref.go:176", after := #[{ on := 6, ground := Go.Ground.data }], guard := Option.none }) rfl (fun K hK => ?_) AllReadyH.nil))
                    · have hc := cell_row (j := 3) HLU.out.mm
                      have hlt := row_lt HLU.out.mm
                      go_simp
                      clear hc hlt
                      refine hK.out _ _ trivial (fun hHeld2 => ?_)
                      clear hK K hHeld
                      have hHeld := hHeld2
                      clear hHeld2
                      try simp only [Act.put, List.setIfInBounds_toArray, List.set_cons_zero, List.set_cons_succ]
                      refine wpAnyH_ready (rs := [7]) (by kernel_rfl) (by simp) (AllReadyH.cons (o := { dst := Option.some 106, op := Go.Op.buildSlice 22 1 #[(0, Go.Operand.tmp 105)], type := 22, pos := "ref.go:176", after := #[{ on := 6, ground := Go.Ground.data }], guard := Option.none }) rfl (fun K hK => ?_) AllReadyH.nil)
                      go_simp
                      try simp only [HEX.out]
                      generalize hz4 : World.alloc U _ = z4
                      have b4 : Below U.heap.size U z4 := by rw [← hz4]; exact below_new _ _
                      have q4 := Lib.hid (show z4.heap[U.heap.size]? = some (.cells #[.string (str cc)] 9 (0, 0)) by rw [← hz4]; exact heap_alloc_new _ _)
                      have HL4 := Lib.hid (HLU.out.on b4)
                      obtain ⟨B4, hB4⟩ : ∃ B4, U.heap.size = B4 := ⟨_, rfl⟩
                      rw [hB4] at q4
                      try simp only [hB4]
                      clear hz4 b4 hB4
                      refine hK.out _ _ trivial (fun hHeld2 => ?_)
                      clear hK K hHeld
                      have hHeld := hHeld2
                      clear hHeld2
                      try simp only [Act.put, List.setIfInBounds_toArray, List.set_cons_zero, List.set_cons_succ]
                      refine wpAnyH_ready (rs := [8]) (by kernel_rfl) (by simp) (AllReadyH.cons (o := { dst := Option.some 107, op := Go.Op.call { callee := Go.Callee.builtin Go.Builtin.append, args := #[Go.Operand.tmp 100, Go.Operand.tmp 106], argTypes := #[22, 22] }, type := 22, pos := "ref.go:176", after := #[{ on := 1, ground := Go.Ground.data }, { on := 7, ground := Go.Ground.data }], guard := Option.none }) rfl (fun K hK => ?_) AllReadyH.nil)
                      try rw [if_pos (by rfl)]
                      refine wp_append_strs (.tmp 100) (.tmp 106) rfl (N + 2) v P.length (strsV P) rfl HL4.out.own ⟨B4, 0, none⟩ 1 1 [.string (str cc)] rfl rfl (fun j u hj => by
                        have h1 := cell_row (j := j) q4.out
                        rw [addr_add, Nat.zero_add, h1]
                        simpa using hj) (by simp [Value.oneCell']) (by have := HPL.out; omega) HL4.out.sz ?_
                      intro v7 z5 o5 g5
                      have HL5 := Lib.hid (HL4.out.grown o5 g5)
                      obtain ⟨A7, c7, rfl⟩ := own_sl o5
                      clear o5 g5
                      refine hK.out _ _ trivial (fun hHeld2 => ?_)
                      clear hK K hHeld
                      have hHeld := hHeld2
                      clear hHeld2
                      try simp only [Act.put, List.setIfInBounds_toArray, List.set_cons_zero, List.set_cons_succ]
                      refine wpAnyH_take (i := 9) (oi := { dst := Option.some 108, op := Go.Op.fieldAddr 24 (Go.Operand.tmp 4) 3, type := 0, pos := "ref.go:176", after := #[{ on := 0, ground := Go.Ground.phase }, { on := 1, ground := Go.Ground.phase }, { on := 2, ground := Go.Ground.phase }, { on := 3, ground := Go.Ground.phase }, { on := 4, ground := Go.Ground.phase }, { on := 5, ground := Go.Ground.phase }, { on := 6, ground := Go.Ground.phase }, { on := 7, ground := Go.Ground.phase }, { on := 8, ground := Go.Ground.phase }], guard := Option.none }) (v := ?_) rfl (by kernel_rfl) (by kernel_rfl) (by kernel_rfl) (fun _ _ _ h => h) (Or.inl ⟨by rfl, ?_⟩) hHeld ?_
                      rotate_left
                      · intro w hSw
                        clear hSw
                        go_simp
                        try with_reducible rfl
                      try simp only [Act.put, List.setIfInBounds_toArray, List.set_cons_zero, List.set_cons_succ]
                      refine wpAnyH_ready (rs := [10]) (by kernel_rfl) (by simp) (AllReadyH.cons (o := { dst := Option.none, op := Go.Op.store 22 (Go.Operand.tmp 108) (Go.Operand.tmp 107), type := 0, pos := "ref.go:176", after := #[{ on := 9, ground := Go.Ground.data }, { on := 8, ground := Go.Ground.data }, { on := 8, ground := Go.Ground.chain }, { on := 0, ground := Go.Ground.phase }, { on := 1, ground := Go.Ground.phase }, { on := 2, ground := Go.Ground.phase }, { on := 3, ground := Go.Ground.phase }, { on := 4, ground := Go.Ground.phase }, { on := 5, ground := Go.Ground.phase }, { on := 6, ground := Go.Ground.phase }, { on := 7, ground := Go.Ground.phase }, { on := 8, ground := Go.Ground.phase }], guard := Option.none }) rfl (fun K hK => ?_) AllReadyH.nil)
                      obtain ⟨hz, e0, e1_, e2, e3, e4, f0, f1, f2, f3, f4⟩ := locfacts HL5.out.1
                      go_simp
                      clear hz e0 e1_ e2 e3 e4 f0 f1 f2 f3 f4
                      generalize hz9 : World.setCell z5 _ _ = z9
                      have HL9 := Lib.hid (show PB w N S H pt_ (P ++ [cc]) dd (.slice A7 (P.length + 1) c7) z9 by rw [← hz9]; exact HL5.out.2)
                      clear hz9
                      refine hK.out _ _ trivial (fun hHeld2 => ?_)
                      clear hK K hHeld
                      have hHeld := hHeld2
                      clear hHeld2
                      try simp only [Act.put, List.setIfInBounds_toArray, List.set_cons_zero, List.set_cons_succ]
                      refine wpAnyH_done (by kernel_rfl) ?_ _
                      go_wp2_with fail
                      exact ⟨⟨e1, P ++ [cc], dd, _, by omega, by omega, by go_num, HL9.out, by rw [List.length_append]; have := HPL.out; simp only [List.length_cons, List.length_nil]; omega, fun q hq => by
                        rcases List.mem_append.1 hq with hq | hq
                        · exact HPB.out q hq
                        · rw [List.mem_singleton.1 hq]; exact HCZ.out, HSP.out⟩, by simp [intOf]; omega⟩
                    · go_simp
                      try simp only [HEX.out]
                      generalize hz4 : World.alloc U _ = z4
                      have b4 : Below U.heap.size U z4 := by rw [← hz4]; exact below_new _ _
                      have q4 := Lib.hid (show z4.heap[U.heap.size]? = some (.cells #[.string (str cc)] 9 (0, 0)) by rw [← hz4]; exact heap_alloc_new _ _)
                      have HL4 := Lib.hid (HLU.out.on b4)
                      obtain ⟨B4, hB4⟩ : ∃ B4, U.heap.size = B4 := ⟨_, rfl⟩
                      rw [hB4] at q4
                      try simp only [hB4]
                      clear hz4 b4 hB4
                      refine hK.out _ _ trivial (fun hHeld2 => ?_)
                      clear hK K hHeld
                      have hHeld := hHeld2
                      clear hHeld2
                      try simp only [Act.put, List.setIfInBounds_toArray, List.set_cons_zero, List.set_cons_succ]
                      refine wpAnyH_ready (rs := [1]) (by kernel_rfl) (by simp) (AllReadyH.cons (o := { dst := Option.some 100, op := Go.Op.load 22 (Go.Operand.tmp 99), type := 22, pos := "ref.go:176", after := #[{ on := 0, ground := Go.Ground.data }], guard := Option.none }) rfl (fun K hK => ?_) AllReadyH.nil)
                      have hc := cell_row (j := 3) HL4.out.mm
                      have hlt := row_lt HL4.out.mm
                      go_simp
                      clear hc hlt
                      refine hK.out _ _ trivial (fun hHeld2 => ?_)
                      clear hK K hHeld
                      have hHeld := hHeld2
                      clear hHeld2
                      try simp only [Act.put, List.setIfInBounds_toArray, List.set_cons_zero, List.set_cons_succ]
                      refine wpAnyH_ready (rs := [8]) (by kernel_rfl) (by simp) (AllReadyH.cons (o := { dst := Option.some 107, op := Go.Op.call { callee := Go.Callee.builtin Go.Builtin.append, args := #[Go.Operand.tmp 100, Go.Operand.tmp 106], argTypes := #[22, 22] }, type := 22, pos := "ref.go:176", after := #[{ on := 1, ground := Go.Ground.data }, { on := 7, ground := Go.Ground.data }], guard := Option.none }) rfl (fun K hK => ?_) AllReadyH.nil)
                      try rw [if_pos (by rfl)]
                      refine wp_append_strs (.tmp 100) (.tmp 106) rfl (N + 2) v P.length (strsV P) rfl HL4.out.own ⟨B4, 0, none⟩ 1 1 [.string (str cc)] rfl rfl (fun j u hj => by
                        have h1 := cell_row (j := j) q4.out
                        rw [addr_add, Nat.zero_add, h1]
                        simpa using hj) (by simp [Value.oneCell']) (by have := HPL.out; omega) HL4.out.sz ?_
                      intro v7 z5 o5 g5
                      have HL5 := Lib.hid (HL4.out.grown o5 g5)
                      obtain ⟨A7, c7, rfl⟩ := own_sl o5
                      clear o5 g5
                      refine hK.out _ _ trivial (fun hHeld2 => ?_)
                      clear hK K hHeld
                      have hHeld := hHeld2
                      clear hHeld2
                      try simp only [Act.put, List.setIfInBounds_toArray, List.set_cons_zero, List.set_cons_succ]
                      refine wpAnyH_take (i := 9) (oi := { dst := Option.some 108, op := Go.Op.fieldAddr 24 (Go.Operand.tmp 4) 3, type := 0, pos := "ref.go:176", after := #[{ on := 0, ground := Go.Ground.phase }, { on := 1, ground := Go.Ground.phase }, { on := 2, ground := Go.Ground.phase }, { on := 3, ground := Go.Ground.phase }, { on := 4, ground := Go.Ground.phase }, { on := 5, ground := Go.Ground.phase }, { on := 6, ground := Go.Ground.phase }, { on := 7, ground := Go.Ground.phase }, { on := 8, ground := Go.Ground.phase }], guard := Option.none }) (v := ?_) rfl (by kernel_rfl) (by kernel_rfl) (by kernel_rfl) (fun _ _ _ h => h) (Or.inl ⟨by rfl, ?_⟩) hHeld ?_
                      rotate_left
                      · intro w hSw
                        clear hSw
                        go_simp
                        try with_reducible rfl
                      try simp only [Act.put, List.setIfInBounds_toArray, List.set_cons_zero, List.set_cons_succ]
                      refine wpAnyH_ready (rs := [10]) (by kernel_rfl) (by simp) (AllReadyH.cons (o := { dst := Option.none, op := Go.Op.store 22 (Go.Operand.tmp 108) (Go.Operand.tmp 107), type := 0, pos := "ref.go:176", after := #[{ on := 9, ground := Go.Ground.data }, { on := 8, ground := Go.Ground.data }, { on := 8, ground := Go.Ground.chain }, { on := 0, ground := Go.Ground.phase }, { on := 1, ground := Go.Ground.phase }, { on := 2, ground := Go.Ground.phase }, { on := 3, ground := Go.Ground.phase }, { on := 4, ground := Go.Ground.phase }, { on := 5, ground := Go.Ground.phase }, { on := 6, ground := Go.Ground.phase }, { on := 7, ground := Go.Ground.phase }, { on := 8, ground := Go.Ground.phase }], guard := Option.none }) rfl (fun K hK => ?_) AllReadyH.nil)
                      obtain ⟨hz, e0, e1_, e2, e3, e4, f0, f1, f2, f3, f4⟩ := locfacts HL5.out.1
                      go_simp
                      clear hz e0 e1_ e2 e3 e4 f0 f1 f2 f3 f4
                      generalize hz9 : World.setCell z5 _ _ = z9
                      have HL9 := Lib.hid (show PB w N S H pt_ (P ++ [cc]) dd (.slice A7 (P.length + 1) c7) z9 by rw [← hz9]; exact HL5.out.2)
                      clear hz9
                      refine hK.out _ _ trivial (fun hHeld2 => ?_)
                      clear hK K hHeld
                      have hHeld := hHeld2
                      clear hHeld2
                      try simp only [Act.put, List.setIfInBounds_toArray, List.set_cons_zero, List.set_cons_succ]
                      refine wpAnyH_done (by kernel_rfl) ?_ _
                      go_wp2_with fail
                      exact ⟨⟨e1, P ++ [cc], dd, _, by omega, by omega, by go_num, HL9.out, by rw [List.length_append]; have := HPL.out; simp only [List.length_cons, List.length_nil]; omega, fun q hq => by
                        rcases List.mem_append.1 hq with hq | hq
                        · exact HPB.out q hq
                        · rw [List.mem_singleton.1 hq]; exact HCZ.out, HSP.out⟩, by simp [intOf]; omega⟩
                · have j1 : ((e1 : Int) == (k : Int) + 1) = false := by rw [beq_eq_false_iff_ne]; omega
                  have HSP1 := Lib.hid (HSP0.out (fun h => q1 h.1))
                  have HCZ : RowKit.Hid (((s.drop (k + 1)).take (e1 - (k + 1))).length ≤ 1000) := Lib.hid (by rw [List.length_take, List.length_drop]; omega)
                  have HEX := Lib.hid (HEX.out e1)
                  have HSP := HSP1
                  clear HSP0 HSD HSP1
                  obtain ⟨cc, hcc⟩ : ∃ cc, (s.drop (k + 1)).take (e1 - (k + 1)) = cc := ⟨_, rfl⟩
                  rw [hcc] at HCZ HEX HSP
                  clear hcc
                  have hki2 : (k : Int) + 1 ≤ (e1 : Int) := by omega
                  have hki3 : (e1 : Int) ≤ ((str s).size : Int) := by rw [HZI.out]; omega
                  have hwk : IntKind.i64.wrap ((k : Int) + 1) = (k : Int) + 1 := IntWalk.i64_in _ (by omega)
                  have hk0 : (0 : Int) ≤ (k : Int) + 1 := by omega
                  clear q1
                  try clear q2
                  go_wp2_with fail
                  refine wp_region_held_drew (S := fun _ => True) (by kernel_rfl) trivial (fun hHeld => ?_)
                  generalize hU : World.drew V = U at hHeld ⊢
                  have HLU := Lib.hid (show PB w N S H pt_ P dd v U by rw [← hU]; exact HB.out.on ⟨rfl, rfl, rfl, Nat.le_refl _, fun _ _ => rfl⟩)
                  clear hU
                  refine wpAnyH_take (i := 0) (oi := { dst := Option.some 99, op := Go.Op.fieldAddr 24 (Go.Operand.tmp 4) 3, type := 0, pos := "ref.go:176", after := #[], guard := Option.none }) (v := ?_) rfl (by kernel_rfl) (by kernel_rfl) (by kernel_rfl) (fun _ _ _ h => h) (Or.inl ⟨by rfl, ?_⟩) hHeld ?_
                  rotate_left
                  · intro w hSw
                    clear hSw
                    go_simp
                    try with_reducible rfl
                  try simp only [Act.put, List.setIfInBounds_toArray, List.set_cons_zero, List.set_cons_succ]
                  refine wpAnyH_take (i := 2) (oi := { dst := Option.some 101, op := Go.Op.move (Go.Operand.tmp 0), type := 9, pos := "ref.go:176", after := #[], guard := Option.none }) (v := ?_) rfl (by kernel_rfl) (by kernel_rfl) (by kernel_rfl) (fun _ _ _ h => h) (Or.inl ⟨by rfl, ?_⟩) hHeld ?_
                  rotate_left
                  · intro w hSw
                    clear hSw
                    go_simp
                    try with_reducible rfl
                  try simp only [Act.put, List.setIfInBounds_toArray, List.set_cons_zero, List.set_cons_succ]
                  refine wpAnyH_take (i := 3) (oi := { dst := Option.some 102, op := Go.Op.move (Go.Operand.tmp 5), type := 3, pos := "ref.go:176", after := #[], guard := Option.none }) (v := ?_) rfl (by kernel_rfl) (by kernel_rfl) (by kernel_rfl) (fun _ _ _ h => h) (Or.inl ⟨by rfl, ?_⟩) hHeld ?_
                  rotate_left
                  · intro w hSw
                    clear hSw
                    go_simp
                    try with_reducible rfl
                  try simp only [Act.put, List.setIfInBounds_toArray, List.set_cons_zero, List.set_cons_succ]
                  refine wpAnyH_take (i := 4) (oi := { dst := Option.some 103, op := Go.Op.binOp Go.BinOp.add 3 (Go.Operand.tmp 102) (Go.Operand.const (Go.Value.int Go.IntKind.i64 1)) 3, type := 3, pos := "ref.go:176", after := #[{ on := 3, ground := Go.Ground.data }], guard := Option.none }) (v := ?_) rfl (by kernel_rfl) (by kernel_rfl) (by kernel_rfl) (fun _ _ _ h => h) (Or.inl ⟨by rfl, ?_⟩) hHeld ?_
                  rotate_left
                  · intro w hSw
                    clear hSw
                    go_simp
                    try with_reducible rfl
                  try simp only [Act.put, List.setIfInBounds_toArray, List.set_cons_zero, List.set_cons_succ]
                  refine wpAnyH_take (i := 5) (oi := { dst := Option.some 104, op := Go.Op.move (Go.Operand.tmp 8), type := 3, pos := "ref.go:176", after := #[], guard := Option.none }) (v := ?_) rfl (by kernel_rfl) (by kernel_rfl) (by kernel_rfl) (fun _ _ _ h => h) (Or.inl ⟨by rfl, ?_⟩) hHeld ?_
                  rotate_left
                  · intro w hSw
                    clear hSw
                    go_simp
                    try with_reducible rfl
                  try simp only [Act.put, List.setIfInBounds_toArray, List.set_cons_zero, List.set_cons_succ]
                  refine wpAnyH_take (i := 6) (oi := { dst := Option.some 105, op := Go.Op.slice 9 (Go.Operand.tmp 101) (Option.some (Go.Operand.tmp 103)) (Option.some (Go.Operand.tmp 104)) Option.none, type := 9, pos := "ref.go:176", after := #[{ on := 2, ground := Go.Ground.data }, { on := 4, ground := Go.Ground.data }, { on := 5, ground := Go.Ground.data }], guard := Option.none }) (v := ?_) rfl (by kernel_rfl) (by kernel_rfl) (by kernel_rfl) (fun _ _ _ h => h) (Or.inl ⟨by rfl, ?_⟩) hHeld ?_
                  rotate_left
                  · intro w hSw
                    clear hSw
                    go_simp
                    try with_reducible rfl
                  try simp only [Act.put, List.setIfInBounds_toArray, List.set_cons_zero, List.set_cons_succ]
                  refine wpAnyH_ready (rs := [1, 7]) (by kernel_rfl) (by simp) (AllReadyH.cons (o := { dst := Option.some 100, op := Go.Op.load 22 (Go.Operand.tmp 99), type := 22, pos := "ref.go:176", after := #[{ on := 0, ground := Go.Ground.data }], guard := Option.none }) rfl (fun K hK => ?_) (AllReadyH.cons (o := { dst := Option.some 106, op := Go.Op.buildSlice 22 1 #[(0, Go.Operand.tmp 105)], type := 22, pos := "ref.go:176", after := #[{ on := 6, ground := Go.Ground.data }], guard := Option.none }) rfl (fun K hK => ?_) AllReadyH.nil))
                  · have hc := cell_row (j := 3) HLU.out.mm
                    have hlt := row_lt HLU.out.mm
                    go_simp
                    clear hc hlt
                    refine hK.out _ _ trivial (fun hHeld2 => ?_)
                    clear hK K hHeld
                    have hHeld := hHeld2
                    clear hHeld2
                    try simp only [Act.put, List.setIfInBounds_toArray, List.set_cons_zero, List.set_cons_succ]
                    refine wpAnyH_ready (rs := [7]) (by kernel_rfl) (by simp) (AllReadyH.cons (o := { dst := Option.some 106, op := Go.Op.buildSlice 22 1 #[(0, Go.Operand.tmp 105)], type := 22, pos := "ref.go:176", after := #[{ on := 6, ground := Go.Ground.data }], guard := Option.none }) rfl (fun K hK => ?_) AllReadyH.nil)
                    go_simp
                    try simp only [HEX.out]
                    generalize hz4 : World.alloc U _ = z4
                    have b4 : Below U.heap.size U z4 := by rw [← hz4]; exact below_new _ _
                    have q4 := Lib.hid (show z4.heap[U.heap.size]? = some (.cells #[.string (str cc)] 9 (0, 0)) by rw [← hz4]; exact heap_alloc_new _ _)
                    have HL4 := Lib.hid (HLU.out.on b4)
                    obtain ⟨B4, hB4⟩ : ∃ B4, U.heap.size = B4 := ⟨_, rfl⟩
                    rw [hB4] at q4
                    try simp only [hB4]
                    clear hz4 b4 hB4
                    refine hK.out _ _ trivial (fun hHeld2 => ?_)
                    clear hK K hHeld
                    have hHeld := hHeld2
                    clear hHeld2
                    try simp only [Act.put, List.setIfInBounds_toArray, List.set_cons_zero, List.set_cons_succ]
                    refine wpAnyH_ready (rs := [8]) (by kernel_rfl) (by simp) (AllReadyH.cons (o := { dst := Option.some 107, op := Go.Op.call { callee := Go.Callee.builtin Go.Builtin.append, args := #[Go.Operand.tmp 100, Go.Operand.tmp 106], argTypes := #[22, 22] }, type := 22, pos := "ref.go:176", after := #[{ on := 1, ground := Go.Ground.data }, { on := 7, ground := Go.Ground.data }], guard := Option.none }) rfl (fun K hK => ?_) AllReadyH.nil)
                    try rw [if_pos (by rfl)]
                    refine wp_append_strs (.tmp 100) (.tmp 106) rfl (N + 2) v P.length (strsV P) rfl HL4.out.own ⟨B4, 0, none⟩ 1 1 [.string (str cc)] rfl rfl (fun j u hj => by
                      have h1 := cell_row (j := j) q4.out
                      rw [addr_add, Nat.zero_add, h1]
                      simpa using hj) (by simp [Value.oneCell']) (by have := HPL.out; omega) HL4.out.sz ?_
                    intro v7 z5 o5 g5
                    have HL5 := Lib.hid (HL4.out.grown o5 g5)
                    obtain ⟨A7, c7, rfl⟩ := own_sl o5
                    clear o5 g5
                    refine hK.out _ _ trivial (fun hHeld2 => ?_)
                    clear hK K hHeld
                    have hHeld := hHeld2
                    clear hHeld2
                    try simp only [Act.put, List.setIfInBounds_toArray, List.set_cons_zero, List.set_cons_succ]
                    refine wpAnyH_take (i := 9) (oi := { dst := Option.some 108, op := Go.Op.fieldAddr 24 (Go.Operand.tmp 4) 3, type := 0, pos := "ref.go:176", after := #[{ on := 0, ground := Go.Ground.phase }, { on := 1, ground := Go.Ground.phase }, { on := 2, ground := Go.Ground.phase }, { on := 3, ground := Go.Ground.phase }, { on := 4, ground := Go.Ground.phase }, { on := 5, ground := Go.Ground.phase }, { on := 6, ground := Go.Ground.phase }, { on := 7, ground := Go.Ground.phase }, { on := 8, ground := Go.Ground.phase }], guard := Option.none }) (v := ?_) rfl (by kernel_rfl) (by kernel_rfl) (by kernel_rfl) (fun _ _ _ h => h) (Or.inl ⟨by rfl, ?_⟩) hHeld ?_
                    rotate_left
                    · intro w hSw
                      clear hSw
                      go_simp
                      try with_reducible rfl
                    try simp only [Act.put, List.setIfInBounds_toArray, List.set_cons_zero, List.set_cons_succ]
                    refine wpAnyH_ready (rs := [10]) (by kernel_rfl) (by simp) (AllReadyH.cons (o := { dst := Option.none, op := Go.Op.store 22 (Go.Operand.tmp 108) (Go.Operand.tmp 107), type := 0, pos := "ref.go:176", after := #[{ on := 9, ground := Go.Ground.data }, { on := 8, ground := Go.Ground.data }, { on := 8, ground := Go.Ground.chain }, { on := 0, ground := Go.Ground.phase }, { on := 1, ground := Go.Ground.phase }, { on := 2, ground := Go.Ground.phase }, { on := 3, ground := Go.Ground.phase }, { on := 4, ground := Go.Ground.phase }, { on := 5, ground := Go.Ground.phase }, { on := 6, ground := Go.Ground.phase }, { on := 7, ground := Go.Ground.phase }, { on := 8, ground := Go.Ground.phase }], guard := Option.none }) rfl (fun K hK => ?_) AllReadyH.nil)
                    obtain ⟨hz, e0, e1_, e2, e3, e4, f0, f1, f2, f3, f4⟩ := locfacts HL5.out.1
                    go_simp
                    clear hz e0 e1_ e2 e3 e4 f0 f1 f2 f3 f4
                    generalize hz9 : World.setCell z5 _ _ = z9
                    have HL9 := Lib.hid (show PB w N S H pt_ (P ++ [cc]) dd (.slice A7 (P.length + 1) c7) z9 by rw [← hz9]; exact HL5.out.2)
                    clear hz9
                    refine hK.out _ _ trivial (fun hHeld2 => ?_)
                    clear hK K hHeld
                    have hHeld := hHeld2
                    clear hHeld2
                    try simp only [Act.put, List.setIfInBounds_toArray, List.set_cons_zero, List.set_cons_succ]
                    refine wpAnyH_done (by kernel_rfl) ?_ _
                    go_wp2_with fail
                    exact ⟨⟨e1, P ++ [cc], dd, _, by omega, by omega, by go_num, HL9.out, by rw [List.length_append]; have := HPL.out; simp only [List.length_cons, List.length_nil]; omega, fun q hq => by
                      rcases List.mem_append.1 hq with hq | hq
                      · exact HPB.out q hq
                      · rw [List.mem_singleton.1 hq]; exact HCZ.out, HSP.out⟩, by simp [intOf]; omega⟩
                  · go_simp
                    try simp only [HEX.out]
                    generalize hz4 : World.alloc U _ = z4
                    have b4 : Below U.heap.size U z4 := by rw [← hz4]; exact below_new _ _
                    have q4 := Lib.hid (show z4.heap[U.heap.size]? = some (.cells #[.string (str cc)] 9 (0, 0)) by rw [← hz4]; exact heap_alloc_new _ _)
                    have HL4 := Lib.hid (HLU.out.on b4)
                    obtain ⟨B4, hB4⟩ : ∃ B4, U.heap.size = B4 := ⟨_, rfl⟩
                    rw [hB4] at q4
                    try simp only [hB4]
                    clear hz4 b4 hB4
                    refine hK.out _ _ trivial (fun hHeld2 => ?_)
                    clear hK K hHeld
                    have hHeld := hHeld2
                    clear hHeld2
                    try simp only [Act.put, List.setIfInBounds_toArray, List.set_cons_zero, List.set_cons_succ]
                    refine wpAnyH_ready (rs := [1]) (by kernel_rfl) (by simp) (AllReadyH.cons (o := { dst := Option.some 100, op := Go.Op.load 22 (Go.Operand.tmp 99), type := 22, pos := "ref.go:176", after := #[{ on := 0, ground := Go.Ground.data }], guard := Option.none }) rfl (fun K hK => ?_) AllReadyH.nil)
                    have hc := cell_row (j := 3) HL4.out.mm
                    have hlt := row_lt HL4.out.mm
                    go_simp
                    clear hc hlt
                    refine hK.out _ _ trivial (fun hHeld2 => ?_)
                    clear hK K hHeld
                    have hHeld := hHeld2
                    clear hHeld2
                    try simp only [Act.put, List.setIfInBounds_toArray, List.set_cons_zero, List.set_cons_succ]
                    refine wpAnyH_ready (rs := [8]) (by kernel_rfl) (by simp) (AllReadyH.cons (o := { dst := Option.some 107, op := Go.Op.call { callee := Go.Callee.builtin Go.Builtin.append, args := #[Go.Operand.tmp 100, Go.Operand.tmp 106], argTypes := #[22, 22] }, type := 22, pos := "ref.go:176", after := #[{ on := 1, ground := Go.Ground.data }, { on := 7, ground := Go.Ground.data }], guard := Option.none }) rfl (fun K hK => ?_) AllReadyH.nil)
                    try rw [if_pos (by rfl)]
                    refine wp_append_strs (.tmp 100) (.tmp 106) rfl (N + 2) v P.length (strsV P) rfl HL4.out.own ⟨B4, 0, none⟩ 1 1 [.string (str cc)] rfl rfl (fun j u hj => by
                      have h1 := cell_row (j := j) q4.out
                      rw [addr_add, Nat.zero_add, h1]
                      simpa using hj) (by simp [Value.oneCell']) (by have := HPL.out; omega) HL4.out.sz ?_
                    intro v7 z5 o5 g5
                    have HL5 := Lib.hid (HL4.out.grown o5 g5)
                    obtain ⟨A7, c7, rfl⟩ := own_sl o5
                    clear o5 g5
                    refine hK.out _ _ trivial (fun hHeld2 => ?_)
                    clear hK K hHeld
                    have hHeld := hHeld2
                    clear hHeld2
                    try simp only [Act.put, List.setIfInBounds_toArray, List.set_cons_zero, List.set_cons_succ]
                    refine wpAnyH_take (i := 9) (oi := { dst := Option.some 108, op := Go.Op.fieldAddr 24 (Go.Operand.tmp 4) 3, type := 0, pos := "ref.go:176", after := #[{ on := 0, ground := Go.Ground.phase }, { on := 1, ground := Go.Ground.phase }, { on := 2, ground := Go.Ground.phase }, { on := 3, ground := Go.Ground.phase }, { on := 4, ground := Go.Ground.phase }, { on := 5, ground := Go.Ground.phase }, { on := 6, ground := Go.Ground.phase }, { on := 7, ground := Go.Ground.phase }, { on := 8, ground := Go.Ground.phase }], guard := Option.none }) (v := ?_) rfl (by kernel_rfl) (by kernel_rfl) (by kernel_rfl) (fun _ _ _ h => h) (Or.inl ⟨by rfl, ?_⟩) hHeld ?_
                    rotate_left
                    · intro w hSw
                      clear hSw
                      go_simp
                      try with_reducible rfl
                    try simp only [Act.put, List.setIfInBounds_toArray, List.set_cons_zero, List.set_cons_succ]
                    refine wpAnyH_ready (rs := [10]) (by kernel_rfl) (by simp) (AllReadyH.cons (o := { dst := Option.none, op := Go.Op.store 22 (Go.Operand.tmp 108) (Go.Operand.tmp 107), type := 0, pos := "ref.go:176", after := #[{ on := 9, ground := Go.Ground.data }, { on := 8, ground := Go.Ground.data }, { on := 8, ground := Go.Ground.chain }, { on := 0, ground := Go.Ground.phase }, { on := 1, ground := Go.Ground.phase }, { on := 2, ground := Go.Ground.phase }, { on := 3, ground := Go.Ground.phase }, { on := 4, ground := Go.Ground.phase }, { on := 5, ground := Go.Ground.phase }, { on := 6, ground := Go.Ground.phase }, { on := 7, ground := Go.Ground.phase }, { on := 8, ground := Go.Ground.phase }], guard := Option.none }) rfl (fun K hK => ?_) AllReadyH.nil)
                    obtain ⟨hz, e0, e1_, e2, e3, e4, f0, f1, f2, f3, f4⟩ := locfacts HL5.out.1
                    go_simp
                    clear hz e0 e1_ e2 e3 e4 f0 f1 f2 f3 f4
                    generalize hz9 : World.setCell z5 _ _ = z9
                    have HL9 := Lib.hid (show PB w N S H pt_ (P ++ [cc]) dd (.slice A7 (P.length + 1) c7) z9 by rw [← hz9]; exact HL5.out.2)
                    clear hz9
                    refine hK.out _ _ trivial (fun hHeld2 => ?_)
                    clear hK K hHeld
                    have hHeld := hHeld2
                    clear hHeld2
                    try simp only [Act.put, List.setIfInBounds_toArray, List.set_cons_zero, List.set_cons_succ]
                    refine wpAnyH_done (by kernel_rfl) ?_ _
                    go_wp2_with fail
                    exact ⟨⟨e1, P ++ [cc], dd, _, by omega, by omega, by go_num, HL9.out, by rw [List.length_append]; have := HPL.out; simp only [List.length_cons, List.length_nil]; omega, fun q hq => by
                      rcases List.mem_append.1 hq with hq | hq
                      · exact HPB.out q hq
                      · rw [List.mem_singleton.1 hq]; exact HCZ.out, HSP.out⟩, by simp [intOf]; omega⟩
              · have hki : ((str s).size : Int) ≤ (k : Int) := by rw [str_size]; omega
                have hkk : k = s.length := by omega
                have HE : RowKit.Hid (∀ l, parseL s = some l → l = ⟨S, H, pt_, P, dd⟩) := Lib.hid (fun l hl => by
                  have h1 := HSO.out l hl
                  rw [hkk, List.drop_length] at h1
                  obtain ⟨h2, h3⟩ := sofar_end h1
                  obtain ⟨h4, h5, h6⟩ := HLP.out l hl
                  cases l
                  simp only at h2 h3 h4 h5 h6
                  subst h2 h3 h4 h5 h6
                  rfl)
                obtain ⟨A, c, rfl⟩ := own_sl HB.out.own
                have HAT := Lib.hid (show LocAt ⟨S, H, pt_, P, dd⟩ A c V from ⟨HSS.out, HHL.out, (own_strs HB.out.own).1, (own_strs HB.out.own).2, fun q hq => by have := HPB.out q hq; omega⟩)
                have HC := Lib.hid (fun (V' : World) (hb : Below V.heap.size V V') => rcheck_any ⟨S, H, pt_, P, dd⟩ A c V' (HAT.out.on hb))
                have HW := Lib.hid (fun (V' : World) (hb : Below V.heap.size V V') (h0 : chk ⟨S, H, pt_, P, dd⟩ = 0) => show Calls Tryd.prog 34 #[locV ⟨S, H, pt_, P, dd⟩ A c] V' (fun e w' => e = .returned (.string (str (wrL ⟨S, H, pt_, P, dd⟩))) ∧ Below V'.heap.size V' w') from by
                  have g := (chk_zero h0).1
                  exact write_any S H pt_ A P c dd V' g.sch (host_len g.host) g.p0 g.p1 (HAT.out.on hb).parts (chk_zero h0).2.1 (fun q hq => name_len (g.names q hq)) HAT.out.cap)
                have HYES : RowKit.Hid (chk ⟨S, H, pt_, P, dd⟩ = 0 → wrL ⟨S, H, pt_, P, dd⟩ = s → parseL s = some ⟨S, H, pt_, P, dd⟩) := Lib.hid (fun h1 h2 => (parse_iff s _).2 ⟨h1, h2⟩)
                have HNO : RowKit.Hid (¬ (chk ⟨S, H, pt_, P, dd⟩ = 0 ∧ wrL ⟨S, H, pt_, P, dd⟩ = s) → parseL s = none) := Lib.hid (fun h => HNO0.out (fun l hl => h (by have e := HE.out l hl; subst e; exact (parse_iff s _).1 hl)))
                unfold locV at HC HW
                simp only at HC HW
                generalize chk ⟨S, H, pt_, P, dd⟩ = CK at HC HW HYES HNO
                generalize wrL ⟨S, H, pt_, P, dd⟩ = WR at HW HYES HNO
                clear HE hkk
                obtain ⟨hz, m0, m1, m2, m3, m4, -, -, -, -, -⟩ := locfacts HB.out.mm
                by_cases h0 : CK = 0
                · subst h0
                  go_wp2_with fail
                  refine (HC.out V (Below.refl _ _)).mono ?_
                  rintro e v5 ⟨rfl, hb⟩
                  have HB5 := Lib.hid (HB.out.on hb)
                  have HBB5 := Lib.hid hb
                  clear hz m0 m1 m2 m3 m4 hb
                  obtain ⟨hz, m0, m1, m2, m3, m4, -, -, -, -, -⟩ := locfacts HB5.out.mm
                  go_wp2_with fail
                  refine (HW.out v5 HBB5.out (by first | rfl | trivial)).mono ?_
                  rintro e v6 ⟨rfl, hb⟩
                  have HB6 := Lib.hid (HB5.out.on hb)
                  have HAT6 := Lib.hid (HAT.out.on (HBB5.out.trans (hb.mono HBB5.out.size)))
                  clear hz m0 m1 m2 m3 m4 hb
                  by_cases hw : WR = s
                  · have HPS := Lib.hid (HYES.out (by first | rfl | trivial) hw)
                    have iw : ((str WR).toList != (str s).toList) = false := by rw [hw]; simp
                    have iw2 : ((str WR).toList == (str s).toList) = true := by rw [hw]; exact beq_self_eq_true _
                    clear hw HYES HNO
                    obtain ⟨hz, m0, m1, m2, m3, m4, -, -, -, -, -⟩ := locfacts HB6.out.mm
                    obtain ⟨gz, g0, g1, g2, g3, g4, k0, k1, k2, k3, k4⟩ := locfacts (a := .int .u8 0) (b := .string ⟨#[]⟩) (c := .int .i64 0) (d := .slice none 0 0) (e := .bool false) HB6.out.hN
                    go_wp2_with fail
                    have B := five_row (v0 := .int .u8 S) (v1 := .string (str H)) (v2 := .int .i64 pt_) (v3 := .slice A P.length c) (v4 := .bool dd) (a := .int .u8 0) (b := .string ⟨#[]⟩) (c := .int .i64 0) (d := .slice none 0 0) (e := .bool false) HB6.out.hN
                    have HBX := Lib.hid (below_at5 HB6.out.bl (Nat.le_refl _) (.int .u8 S) (.string (str H)) (.int .i64 pt_) (.slice A P.length c) (.bool dd))
                    have HOX := Lib.hid (own_set5 (g := N) (b := N + 1) (Nat.lt_succ_self N) (own_mono HB6.out.own (Nat.le_succ _)) (.int .u8 S) (.string (str H)) (.int .i64 pt_) (.slice A P.length c) (.bool dd))
                    generalize hfin : World.setCell (World.setCell (World.setCell (World.setCell (World.setCell _ _ _) _ _) _ _) _ _) _ _ = fin at B HBX HOX ⊢
                    clear hfin
                    obtain ⟨-, b0, b1, b2, b3, b4, -, -, -, -, -⟩ := locfacts B
                    refine bodyPost_ret (v := .tuple #[.agg #[.int .u8 S, .string (str H), .int .i64 pt_, .slice A P.length c, .bool dd], .int .i64 0]) (by simp [results, Tryd.results17, go_sem, b0, b1, b2, b3, b4]) rfl (good_post HPS.out HAT6.out (by rw [HNN.out]; exact HOX.out) (by rw [HNN.out]; exact HBX.out))
                  · have HPN := Lib.hid (HNO.out (fun h => hw h.2))
                    have iw2 : ((str WR).toList == (str s).toList) = false := by
                      rw [eqS, str_dat, ByteArray.toList_eq, str_dat]
                      exact decide_eq_false hw
                    have iw : ((str WR).toList != (str s).toList) = true := by
                      show (!((str WR).toList == (str s).toList)) = true
                      rw [iw2]
                      rfl
                    clear hw HYES HNO
                    obtain ⟨gz, g0, g1, g2, g3, g4, k0, k1, k2, k3, k4⟩ := locfacts (a := .int .u8 0) (b := .string ⟨#[]⟩) (c := .int .i64 0) (d := .slice none 0 0) (e := .bool false) HB6.out.hN
                    go_wp2_with fail
                    have B := five_row (v0 := .int .u8 0) (v1 := .string ⟨#[]⟩) (v2 := .int .i64 0) (v3 := .slice none 0 0) (v4 := .bool false) (a := .int .u8 0) (b := .string ⟨#[]⟩) (c := .int .i64 0) (d := .slice none 0 0) (e := .bool false) HB6.out.hN
                    have HBX := Lib.hid (below_at5 HB6.out.bl (Nat.le_refl _) (.int .u8 0) (.string ⟨#[]⟩) (.int .i64 0) (.slice none 0 0) (.bool false))
                    generalize hfin : World.setCell (World.setCell (World.setCell (World.setCell (World.setCell _ _ _) _ _) _ _) _ _) _ _ = fin at B HBX ⊢
                    clear hfin
                    obtain ⟨-, b0, b1, b2, b3, b4, -, -, -, -, -⟩ := locfacts B
                    refine bodyPost_ret (v := .tuple #[.agg #[.int .u8 0, .string ⟨#[]⟩, .int .i64 0, .slice none 0 0, .bool false], .int .i64 12]) (by simp [results, Tryd.results17, go_sem, b0, b1, b2, b3, b4]) rfl (bad_post HPN.out (by rw [HNN.out]; exact HBX.out))
                · have ic : (CK != 0) = true := by rw [bne_iff_ne]; exact h0
                  have HPN := Lib.hid (HNO.out (fun h => h0 h.1))
                  clear h0 HYES HNO
                  go_wp2_with fail
                  refine (HC.out V (Below.refl _ _)).mono ?_
                  rintro e v5 ⟨rfl, hb⟩
                  have HB5 := Lib.hid (HB.out.on hb)
                  clear hz m0 m1 m2 m3 m4 hb
                  obtain ⟨gz, g0, g1, g2, g3, g4, k0, k1, k2, k3, k4⟩ := locfacts (a := .int .u8 0) (b := .string ⟨#[]⟩) (c := .int .i64 0) (d := .slice none 0 0) (e := .bool false) HB5.out.hN
                  go_wp2_with fail
                  have B := five_row (v0 := .int .u8 0) (v1 := .string ⟨#[]⟩) (v2 := .int .i64 0) (v3 := .slice none 0 0) (v4 := .bool false) (a := .int .u8 0) (b := .string ⟨#[]⟩) (c := .int .i64 0) (d := .slice none 0 0) (e := .bool false) HB5.out.hN
                  have HBX := Lib.hid (below_at5 HB5.out.bl (Nat.le_refl _) (.int .u8 0) (.string ⟨#[]⟩) (.int .i64 0) (.slice none 0 0) (.bool false))
                  generalize hfin : World.setCell (World.setCell (World.setCell (World.setCell (World.setCell _ _ _) _ _) _ _) _ _) _ _ = fin at B HBX ⊢
                  clear hfin
                  obtain ⟨-, b0, b1, b2, b3, b4, -, -, -, -, -⟩ := locfacts B
                  refine bodyPost_ret (v := .tuple #[.agg #[.int .u8 0, .string ⟨#[]⟩, .int .i64 0, .slice none 0 0, .bool false], .int .i64 12]) (by simp [results, Tryd.results17, go_sem, b0, b1, b2, b3, b4]) rfl (bad_post HPN.out (by rw [HNN.out]; exact HBX.out))
      · have HPN : RowKit.Hid (parseL s = none) := Lib.hid (HNO0.out (fun l hl => h6 ((HF.out l hl).some_ H58.out).1))
        have i6 : ((e0 : Int) - (a0 : Int) > 6) := by omega
        have hle0 : e0 ≤ s.length := HLE.out
        obtain ⟨gz, g0, g1, g2, g3, g4, k0, k1, k2, k3, k4⟩ := locfacts (a := .int .u8 0) (b := .string ⟨#[]⟩) (c := .int .i64 0) (d := .slice none 0 0) (e := .bool false) HB4.out.hN
        go_wp2_with fail
        have B := five_row (v0 := .int .u8 0) (v1 := .string ⟨#[]⟩) (v2 := .int .i64 0) (v3 := .slice none 0 0) (v4 := .bool false) (a := .int .u8 0) (b := .string ⟨#[]⟩) (c := .int .i64 0) (d := .slice none 0 0) (e := .bool false) HB4.out.hN
        have HBX := Lib.hid (below_at5 HB4.out.bl (Nat.le_refl _) (.int .u8 0) (.string ⟨#[]⟩) (.int .i64 0) (.slice none 0 0) (.bool false))
        generalize hfin : World.setCell (World.setCell (World.setCell (World.setCell (World.setCell _ _ _) _ _) _ _) _ _) _ _ = fin at B HBX ⊢
        clear hfin
        obtain ⟨-, b0, b1, b2, b3, b4, -, -, -, -, -⟩ := locfacts B
        refine bodyPost_ret (v := .tuple #[.agg #[.int .u8 0, .string ⟨#[]⟩, .int .i64 0, .slice none 0 0, .bool false], .int .i64 12]) (by simp [results, Tryd.results17, go_sem, b0, b1, b2, b3, b4]) rfl (bad_post HPN.out (by rw [HNN.out]; exact HBX.out))
    · have i58 : ((((str s)[a0]'hls).toNat : Int) == 58) = false := by rw [hxs]; rfl
      have H58 : RowKit.Hid (s[a0]? ≠ some 58) := Lib.hid (by rw [hx]; decide)
      clear hx hxs
      have HLP : RowKit.Hid (∀ l, parseL s = some l → l.sch = S ∧ l.host = H ∧ l.port = 0) := Lib.hid (fun l hl => ⟨HSL.out l hl, HHO.out l hl, ((HF.out l hl).none_ H58.out).1⟩)
      have HSO : RowKit.Hid (∀ l, parseL s = some l → Sofar l (s.drop a0) [] false) := Lib.hid (fun l hl => by rw [((HF.out l hl).none_ H58.out).2]; exact sofar_start l)
      obtain ⟨pt_, hpt⟩ : ∃ pt_ : Int, 0 = pt_ := ⟨_, rfl⟩
      have HBS := HB4
      rw [hpt] at HLP HBS
      have HA1 : RowKit.Hid (a0 ≤ s.length) := Lib.hid hal
      clear HB4 hpt
      go_wp2_with fail
      try clear hki hlt
      go_loopw [5] (fun i wr => ∃ (k : Nat) (P : List (List UInt8)) (dd : Bool) (v : Value), a0 ≤ k ∧ k ≤ s.length ∧ i = .int .i64 k ∧ PB w N S H pt_ P dd v wr ∧ P.length ≤ k ∧ (∀ q ∈ P, q.length ≤ 1000) ∧ (∀ l, parseL s = some l → Sofar l (s.drop k) P dd)) (fun i _ => s.length - (intOf i).toNat)
      case atStart => exact ⟨a0, [], false, _, Nat.le_refl _, HA1.out, rfl, HBS.out, Nat.zero_le _, (fun q hq => by cases hq), HSO.out⟩
      case round =>
        clear HBS HSO
        obtain ⟨k, P, dd, v, hk1, hk2, rfl, hpb, hpl, hpq, hso⟩ := hrel
        obtain ⟨V, hV⟩ : ∃ V, V = wr := ⟨_, rfl⟩
        subst hV
        have HB := Lib.hid hpb
        have HPL := Lib.hid hpl
        have HPB := Lib.hid hpq
        have HSO := Lib.hid hso
        clear hpb hpl hpq hso
        by_cases hlt : k < s.length
        · have hki : (k : Int) < ((str s).size : Int) := by rw [str_size]; omega
          have HUN := Lib.hid (HU2.out (k + 1) (by omega))
          have h1 := un_ge 47 47 s (k + 1)
          have h2 := un_le 47 47 s (k + 1) (by omega)
          have HEX : RowKit.Hid (∀ e, (str s).extract (k + 1) e = str ((s.drop (k + 1)).take (e - (k + 1)))) := Lib.hid (fun e => ext_str9 s (k + 1) e)
          have HSD : RowKit.Hid (k + 1 = s.length → ∀ l, parseL s = some l → Sofar l (s.drop (k + 1)) P true) := Lib.hid (fun e l hl => sofar_dir (HF.out l hl).parts (HSO.out l hl) e)
          have HSP0 : RowKit.Hid (¬ (un 47 47 s (k + 1) = k + 1 ∧ un 47 47 s (k + 1) = s.length) → ∀ l, parseL s = some l → Sofar l (s.drop (un 47 47 s (k + 1))) (P ++ [(s.drop (k + 1)).take (un 47 47 s (k + 1) - (k + 1))]) dd) := Lib.hid (fun e l hl => sofar_part (HF.out l hl).parts (HSO.out l hl) hlt e)
          generalize un 47 47 s (k + 1) = e1 at HUN h1 h2 HSP0
          have HZI : RowKit.Hid (((str s).size : Int) = (s.length : Int)) := Lib.hid (by rw [str_size])
          clear HSO
          go_wp2_with fail
          refine (HUN.out V).mono ?_
          rintro e w9 ⟨rfl, hw9⟩
          rw [hw9]
          clear hw9 w9
          by_cases q1 : e1 = k + 1
          · have j1 : ((e1 : Int) == (k : Int) + 1) = true := by rw [beq_iff_eq]; omega
            by_cases q2 : e1 = s.length
            · have j2 : ((e1 : Int) == ((str s).size : Int)) = true := by rw [beq_iff_eq, HZI.out]; omega
              have HS9 := Lib.hid (HSD.out (by omega))
              have HN9 : RowKit.Hid (e1 = k + 1) := Lib.hid q1
              have h3 : e1 ≤ s.length ∧ k < e1 := ⟨by omega, by omega⟩
              obtain ⟨h3, h4⟩ := h3
              clear HSP0 HSD h1 h2 q1 q2
              obtain ⟨hz, m0, m1, m2, m3, m4, k0, k1_, k2, k3, k4⟩ := locfacts HB.out.mm
              go_wp2_with fail
              generalize hv9 : World.setCell _ _ _ = v9
              have HB9 := Lib.hid (show PB w N S H pt_ P true v v9 by rw [← hv9]; exact HB.out.set4 true)
              clear hv9
              exact ⟨⟨e1, P, true, _, by omega, h3, by go_num, HB9.out, by have := HPL.out; omega, HPB.out, by rw [HN9.out]; exact HS9.out⟩, by simp [intOf]; omega⟩
            · have j2 : ((e1 : Int) == ((str s).size : Int)) = false := by rw [beq_eq_false_iff_ne, HZI.out]; omega
              have HSP1 := Lib.hid (HSP0.out (fun h => q2 h.2))
              have HCZ : RowKit.Hid (((s.drop (k + 1)).take (e1 - (k + 1))).length ≤ 1000) := Lib.hid (by rw [List.length_take, List.length_drop]; omega)
              have HEX := Lib.hid (HEX.out e1)
              have HSP := HSP1
              clear HSP0 HSD HSP1
              obtain ⟨cc, hcc⟩ : ∃ cc, (s.drop (k + 1)).take (e1 - (k + 1)) = cc := ⟨_, rfl⟩
              rw [hcc] at HCZ HEX HSP
              clear hcc
              have hki2 : (k : Int) + 1 ≤ (e1 : Int) := by omega
              have hki3 : (e1 : Int) ≤ ((str s).size : Int) := by rw [HZI.out]; omega
              have hwk : IntKind.i64.wrap ((k : Int) + 1) = (k : Int) + 1 := IntWalk.i64_in _ (by omega)
              have hk0 : (0 : Int) ≤ (k : Int) + 1 := by omega
              clear q1
              try clear q2
              go_wp2_with fail
              refine wp_region_held_drew (S := fun _ => True) (by kernel_rfl) trivial (fun hHeld => ?_)
              generalize hU : World.drew V = U at hHeld ⊢
              have HLU := Lib.hid (show PB w N S H pt_ P dd v U by rw [← hU]; exact HB.out.on ⟨rfl, rfl, rfl, Nat.le_refl _, fun _ _ => rfl⟩)
              clear hU
              refine wpAnyH_take (i := 0) (oi := { dst := Option.some 99, op := Go.Op.fieldAddr 24 (Go.Operand.tmp 4) 3, type := 0, pos := "ref.go:176", after := #[], guard := Option.none }) (v := ?_) rfl (by kernel_rfl) (by kernel_rfl) (by kernel_rfl) (fun _ _ _ h => h) (Or.inl ⟨by rfl, ?_⟩) hHeld ?_
              rotate_left
              · intro w hSw
                clear hSw
                go_simp
                try with_reducible rfl
              try simp only [Act.put, List.setIfInBounds_toArray, List.set_cons_zero, List.set_cons_succ]
              refine wpAnyH_take (i := 2) (oi := { dst := Option.some 101, op := Go.Op.move (Go.Operand.tmp 0), type := 9, pos := "ref.go:176", after := #[], guard := Option.none }) (v := ?_) rfl (by kernel_rfl) (by kernel_rfl) (by kernel_rfl) (fun _ _ _ h => h) (Or.inl ⟨by rfl, ?_⟩) hHeld ?_
              rotate_left
              · intro w hSw
                clear hSw
                go_simp
                try with_reducible rfl
              try simp only [Act.put, List.setIfInBounds_toArray, List.set_cons_zero, List.set_cons_succ]
              refine wpAnyH_take (i := 3) (oi := { dst := Option.some 102, op := Go.Op.move (Go.Operand.tmp 5), type := 3, pos := "ref.go:176", after := #[], guard := Option.none }) (v := ?_) rfl (by kernel_rfl) (by kernel_rfl) (by kernel_rfl) (fun _ _ _ h => h) (Or.inl ⟨by rfl, ?_⟩) hHeld ?_
              rotate_left
              · intro w hSw
                clear hSw
                go_simp
                try with_reducible rfl
              try simp only [Act.put, List.setIfInBounds_toArray, List.set_cons_zero, List.set_cons_succ]
              refine wpAnyH_take (i := 4) (oi := { dst := Option.some 103, op := Go.Op.binOp Go.BinOp.add 3 (Go.Operand.tmp 102) (Go.Operand.const (Go.Value.int Go.IntKind.i64 1)) 3, type := 3, pos := "ref.go:176", after := #[{ on := 3, ground := Go.Ground.data }], guard := Option.none }) (v := ?_) rfl (by kernel_rfl) (by kernel_rfl) (by kernel_rfl) (fun _ _ _ h => h) (Or.inl ⟨by rfl, ?_⟩) hHeld ?_
              rotate_left
              · intro w hSw
                clear hSw
                go_simp
                try with_reducible rfl
              try simp only [Act.put, List.setIfInBounds_toArray, List.set_cons_zero, List.set_cons_succ]
              refine wpAnyH_take (i := 5) (oi := { dst := Option.some 104, op := Go.Op.move (Go.Operand.tmp 8), type := 3, pos := "ref.go:176", after := #[], guard := Option.none }) (v := ?_) rfl (by kernel_rfl) (by kernel_rfl) (by kernel_rfl) (fun _ _ _ h => h) (Or.inl ⟨by rfl, ?_⟩) hHeld ?_
              rotate_left
              · intro w hSw
                clear hSw
                go_simp
                try with_reducible rfl
              try simp only [Act.put, List.setIfInBounds_toArray, List.set_cons_zero, List.set_cons_succ]
              refine wpAnyH_take (i := 6) (oi := { dst := Option.some 105, op := Go.Op.slice 9 (Go.Operand.tmp 101) (Option.some (Go.Operand.tmp 103)) (Option.some (Go.Operand.tmp 104)) Option.none, type := 9, pos := "ref.go:176", after := #[{ on := 2, ground := Go.Ground.data }, { on := 4, ground := Go.Ground.data }, { on := 5, ground := Go.Ground.data }], guard := Option.none }) (v := ?_) rfl (by kernel_rfl) (by kernel_rfl) (by kernel_rfl) (fun _ _ _ h => h) (Or.inl ⟨by rfl, ?_⟩) hHeld ?_
              rotate_left
              · intro w hSw
                clear hSw
                go_simp
                try with_reducible rfl
              try simp only [Act.put, List.setIfInBounds_toArray, List.set_cons_zero, List.set_cons_succ]
              refine wpAnyH_ready (rs := [1, 7]) (by kernel_rfl) (by simp) (AllReadyH.cons (o := { dst := Option.some 100, op := Go.Op.load 22 (Go.Operand.tmp 99), type := 22, pos := "ref.go:176", after := #[{ on := 0, ground := Go.Ground.data }], guard := Option.none }) rfl (fun K hK => ?_) (AllReadyH.cons (o := { dst := Option.some 106, op := Go.Op.buildSlice 22 1 #[(0, Go.Operand.tmp 105)], type := 22, pos := "ref.go:176", after := #[{ on := 6, ground := Go.Ground.data }], guard := Option.none }) rfl (fun K hK => ?_) AllReadyH.nil))
              · have hc := cell_row (j := 3) HLU.out.mm
                have hlt := row_lt HLU.out.mm
                go_simp
                clear hc hlt
                refine hK.out _ _ trivial (fun hHeld2 => ?_)
                clear hK K hHeld
                have hHeld := hHeld2
                clear hHeld2
                try simp only [Act.put, List.setIfInBounds_toArray, List.set_cons_zero, List.set_cons_succ]
                refine wpAnyH_ready (rs := [7]) (by kernel_rfl) (by simp) (AllReadyH.cons (o := { dst := Option.some 106, op := Go.Op.buildSlice 22 1 #[(0, Go.Operand.tmp 105)], type := 22, pos := "ref.go:176", after := #[{ on := 6, ground := Go.Ground.data }], guard := Option.none }) rfl (fun K hK => ?_) AllReadyH.nil)
                go_simp
                try simp only [HEX.out]
                generalize hz4 : World.alloc U _ = z4
                have b4 : Below U.heap.size U z4 := by rw [← hz4]; exact below_new _ _
                have q4 := Lib.hid (show z4.heap[U.heap.size]? = some (.cells #[.string (str cc)] 9 (0, 0)) by rw [← hz4]; exact heap_alloc_new _ _)
                have HL4 := Lib.hid (HLU.out.on b4)
                obtain ⟨B4, hB4⟩ : ∃ B4, U.heap.size = B4 := ⟨_, rfl⟩
                rw [hB4] at q4
                try simp only [hB4]
                clear hz4 b4 hB4
                refine hK.out _ _ trivial (fun hHeld2 => ?_)
                clear hK K hHeld
                have hHeld := hHeld2
                clear hHeld2
                try simp only [Act.put, List.setIfInBounds_toArray, List.set_cons_zero, List.set_cons_succ]
                refine wpAnyH_ready (rs := [8]) (by kernel_rfl) (by simp) (AllReadyH.cons (o := { dst := Option.some 107, op := Go.Op.call { callee := Go.Callee.builtin Go.Builtin.append, args := #[Go.Operand.tmp 100, Go.Operand.tmp 106], argTypes := #[22, 22] }, type := 22, pos := "ref.go:176", after := #[{ on := 1, ground := Go.Ground.data }, { on := 7, ground := Go.Ground.data }], guard := Option.none }) rfl (fun K hK => ?_) AllReadyH.nil)
                try rw [if_pos (by rfl)]
                refine wp_append_strs (.tmp 100) (.tmp 106) rfl (N + 2) v P.length (strsV P) rfl HL4.out.own ⟨B4, 0, none⟩ 1 1 [.string (str cc)] rfl rfl (fun j u hj => by
                  have h1 := cell_row (j := j) q4.out
                  rw [addr_add, Nat.zero_add, h1]
                  simpa using hj) (by simp [Value.oneCell']) (by have := HPL.out; omega) HL4.out.sz ?_
                intro v7 z5 o5 g5
                have HL5 := Lib.hid (HL4.out.grown o5 g5)
                obtain ⟨A7, c7, rfl⟩ := own_sl o5
                clear o5 g5
                refine hK.out _ _ trivial (fun hHeld2 => ?_)
                clear hK K hHeld
                have hHeld := hHeld2
                clear hHeld2
                try simp only [Act.put, List.setIfInBounds_toArray, List.set_cons_zero, List.set_cons_succ]
                refine wpAnyH_take (i := 9) (oi := { dst := Option.some 108, op := Go.Op.fieldAddr 24 (Go.Operand.tmp 4) 3, type := 0, pos := "ref.go:176", after := #[{ on := 0, ground := Go.Ground.phase }, { on := 1, ground := Go.Ground.phase }, { on := 2, ground := Go.Ground.phase }, { on := 3, ground := Go.Ground.phase }, { on := 4, ground := Go.Ground.phase }, { on := 5, ground := Go.Ground.phase }, { on := 6, ground := Go.Ground.phase }, { on := 7, ground := Go.Ground.phase }, { on := 8, ground := Go.Ground.phase }], guard := Option.none }) (v := ?_) rfl (by kernel_rfl) (by kernel_rfl) (by kernel_rfl) (fun _ _ _ h => h) (Or.inl ⟨by rfl, ?_⟩) hHeld ?_
                rotate_left
                · intro w hSw
                  clear hSw
                  go_simp
                  try with_reducible rfl
                try simp only [Act.put, List.setIfInBounds_toArray, List.set_cons_zero, List.set_cons_succ]
                refine wpAnyH_ready (rs := [10]) (by kernel_rfl) (by simp) (AllReadyH.cons (o := { dst := Option.none, op := Go.Op.store 22 (Go.Operand.tmp 108) (Go.Operand.tmp 107), type := 0, pos := "ref.go:176", after := #[{ on := 9, ground := Go.Ground.data }, { on := 8, ground := Go.Ground.data }, { on := 8, ground := Go.Ground.chain }, { on := 0, ground := Go.Ground.phase }, { on := 1, ground := Go.Ground.phase }, { on := 2, ground := Go.Ground.phase }, { on := 3, ground := Go.Ground.phase }, { on := 4, ground := Go.Ground.phase }, { on := 5, ground := Go.Ground.phase }, { on := 6, ground := Go.Ground.phase }, { on := 7, ground := Go.Ground.phase }, { on := 8, ground := Go.Ground.phase }], guard := Option.none }) rfl (fun K hK => ?_) AllReadyH.nil)
                obtain ⟨hz, e0, e1_, e2, e3, e4, f0, f1, f2, f3, f4⟩ := locfacts HL5.out.1
                go_simp
                clear hz e0 e1_ e2 e3 e4 f0 f1 f2 f3 f4
                generalize hz9 : World.setCell z5 _ _ = z9
                have HL9 := Lib.hid (show PB w N S H pt_ (P ++ [cc]) dd (.slice A7 (P.length + 1) c7) z9 by rw [← hz9]; exact HL5.out.2)
                clear hz9
                refine hK.out _ _ trivial (fun hHeld2 => ?_)
                clear hK K hHeld
                have hHeld := hHeld2
                clear hHeld2
                try simp only [Act.put, List.setIfInBounds_toArray, List.set_cons_zero, List.set_cons_succ]
                refine wpAnyH_done (by kernel_rfl) ?_ _
                go_wp2_with fail
                exact ⟨⟨e1, P ++ [cc], dd, _, by omega, by omega, by go_num, HL9.out, by rw [List.length_append]; have := HPL.out; simp only [List.length_cons, List.length_nil]; omega, fun q hq => by
                  rcases List.mem_append.1 hq with hq | hq
                  · exact HPB.out q hq
                  · rw [List.mem_singleton.1 hq]; exact HCZ.out, HSP.out⟩, by simp [intOf]; omega⟩
              · go_simp
                try simp only [HEX.out]
                generalize hz4 : World.alloc U _ = z4
                have b4 : Below U.heap.size U z4 := by rw [← hz4]; exact below_new _ _
                have q4 := Lib.hid (show z4.heap[U.heap.size]? = some (.cells #[.string (str cc)] 9 (0, 0)) by rw [← hz4]; exact heap_alloc_new _ _)
                have HL4 := Lib.hid (HLU.out.on b4)
                obtain ⟨B4, hB4⟩ : ∃ B4, U.heap.size = B4 := ⟨_, rfl⟩
                rw [hB4] at q4
                try simp only [hB4]
                clear hz4 b4 hB4
                refine hK.out _ _ trivial (fun hHeld2 => ?_)
                clear hK K hHeld
                have hHeld := hHeld2
                clear hHeld2
                try simp only [Act.put, List.setIfInBounds_toArray, List.set_cons_zero, List.set_cons_succ]
                refine wpAnyH_ready (rs := [1]) (by kernel_rfl) (by simp) (AllReadyH.cons (o := { dst := Option.some 100, op := Go.Op.load 22 (Go.Operand.tmp 99), type := 22, pos := "ref.go:176", after := #[{ on := 0, ground := Go.Ground.data }], guard := Option.none }) rfl (fun K hK => ?_) AllReadyH.nil)
                have hc := cell_row (j := 3) HL4.out.mm
                have hlt := row_lt HL4.out.mm
                go_simp
                clear hc hlt
                refine hK.out _ _ trivial (fun hHeld2 => ?_)
                clear hK K hHeld
                have hHeld := hHeld2
                clear hHeld2
                try simp only [Act.put, List.setIfInBounds_toArray, List.set_cons_zero, List.set_cons_succ]
                refine wpAnyH_ready (rs := [8]) (by kernel_rfl) (by simp) (AllReadyH.cons (o := { dst := Option.some 107, op := Go.Op.call { callee := Go.Callee.builtin Go.Builtin.append, args := #[Go.Operand.tmp 100, Go.Operand.tmp 106], argTypes := #[22, 22] }, type := 22, pos := "ref.go:176", after := #[{ on := 1, ground := Go.Ground.data }, { on := 7, ground := Go.Ground.data }], guard := Option.none }) rfl (fun K hK => ?_) AllReadyH.nil)
                try rw [if_pos (by rfl)]
                refine wp_append_strs (.tmp 100) (.tmp 106) rfl (N + 2) v P.length (strsV P) rfl HL4.out.own ⟨B4, 0, none⟩ 1 1 [.string (str cc)] rfl rfl (fun j u hj => by
                  have h1 := cell_row (j := j) q4.out
                  rw [addr_add, Nat.zero_add, h1]
                  simpa using hj) (by simp [Value.oneCell']) (by have := HPL.out; omega) HL4.out.sz ?_
                intro v7 z5 o5 g5
                have HL5 := Lib.hid (HL4.out.grown o5 g5)
                obtain ⟨A7, c7, rfl⟩ := own_sl o5
                clear o5 g5
                refine hK.out _ _ trivial (fun hHeld2 => ?_)
                clear hK K hHeld
                have hHeld := hHeld2
                clear hHeld2
                try simp only [Act.put, List.setIfInBounds_toArray, List.set_cons_zero, List.set_cons_succ]
                refine wpAnyH_take (i := 9) (oi := { dst := Option.some 108, op := Go.Op.fieldAddr 24 (Go.Operand.tmp 4) 3, type := 0, pos := "ref.go:176", after := #[{ on := 0, ground := Go.Ground.phase }, { on := 1, ground := Go.Ground.phase }, { on := 2, ground := Go.Ground.phase }, { on := 3, ground := Go.Ground.phase }, { on := 4, ground := Go.Ground.phase }, { on := 5, ground := Go.Ground.phase }, { on := 6, ground := Go.Ground.phase }, { on := 7, ground := Go.Ground.phase }, { on := 8, ground := Go.Ground.phase }], guard := Option.none }) (v := ?_) rfl (by kernel_rfl) (by kernel_rfl) (by kernel_rfl) (fun _ _ _ h => h) (Or.inl ⟨by rfl, ?_⟩) hHeld ?_
                rotate_left
                · intro w hSw
                  clear hSw
                  go_simp
                  try with_reducible rfl
                try simp only [Act.put, List.setIfInBounds_toArray, List.set_cons_zero, List.set_cons_succ]
                refine wpAnyH_ready (rs := [10]) (by kernel_rfl) (by simp) (AllReadyH.cons (o := { dst := Option.none, op := Go.Op.store 22 (Go.Operand.tmp 108) (Go.Operand.tmp 107), type := 0, pos := "ref.go:176", after := #[{ on := 9, ground := Go.Ground.data }, { on := 8, ground := Go.Ground.data }, { on := 8, ground := Go.Ground.chain }, { on := 0, ground := Go.Ground.phase }, { on := 1, ground := Go.Ground.phase }, { on := 2, ground := Go.Ground.phase }, { on := 3, ground := Go.Ground.phase }, { on := 4, ground := Go.Ground.phase }, { on := 5, ground := Go.Ground.phase }, { on := 6, ground := Go.Ground.phase }, { on := 7, ground := Go.Ground.phase }, { on := 8, ground := Go.Ground.phase }], guard := Option.none }) rfl (fun K hK => ?_) AllReadyH.nil)
                obtain ⟨hz, e0, e1_, e2, e3, e4, f0, f1, f2, f3, f4⟩ := locfacts HL5.out.1
                go_simp
                clear hz e0 e1_ e2 e3 e4 f0 f1 f2 f3 f4
                generalize hz9 : World.setCell z5 _ _ = z9
                have HL9 := Lib.hid (show PB w N S H pt_ (P ++ [cc]) dd (.slice A7 (P.length + 1) c7) z9 by rw [← hz9]; exact HL5.out.2)
                clear hz9
                refine hK.out _ _ trivial (fun hHeld2 => ?_)
                clear hK K hHeld
                have hHeld := hHeld2
                clear hHeld2
                try simp only [Act.put, List.setIfInBounds_toArray, List.set_cons_zero, List.set_cons_succ]
                refine wpAnyH_done (by kernel_rfl) ?_ _
                go_wp2_with fail
                exact ⟨⟨e1, P ++ [cc], dd, _, by omega, by omega, by go_num, HL9.out, by rw [List.length_append]; have := HPL.out; simp only [List.length_cons, List.length_nil]; omega, fun q hq => by
                  rcases List.mem_append.1 hq with hq | hq
                  · exact HPB.out q hq
                  · rw [List.mem_singleton.1 hq]; exact HCZ.out, HSP.out⟩, by simp [intOf]; omega⟩
          · have j1 : ((e1 : Int) == (k : Int) + 1) = false := by rw [beq_eq_false_iff_ne]; omega
            have HSP1 := Lib.hid (HSP0.out (fun h => q1 h.1))
            have HCZ : RowKit.Hid (((s.drop (k + 1)).take (e1 - (k + 1))).length ≤ 1000) := Lib.hid (by rw [List.length_take, List.length_drop]; omega)
            have HEX := Lib.hid (HEX.out e1)
            have HSP := HSP1
            clear HSP0 HSD HSP1
            obtain ⟨cc, hcc⟩ : ∃ cc, (s.drop (k + 1)).take (e1 - (k + 1)) = cc := ⟨_, rfl⟩
            rw [hcc] at HCZ HEX HSP
            clear hcc
            have hki2 : (k : Int) + 1 ≤ (e1 : Int) := by omega
            have hki3 : (e1 : Int) ≤ ((str s).size : Int) := by rw [HZI.out]; omega
            have hwk : IntKind.i64.wrap ((k : Int) + 1) = (k : Int) + 1 := IntWalk.i64_in _ (by omega)
            have hk0 : (0 : Int) ≤ (k : Int) + 1 := by omega
            clear q1
            try clear q2
            go_wp2_with fail
            refine wp_region_held_drew (S := fun _ => True) (by kernel_rfl) trivial (fun hHeld => ?_)
            generalize hU : World.drew V = U at hHeld ⊢
            have HLU := Lib.hid (show PB w N S H pt_ P dd v U by rw [← hU]; exact HB.out.on ⟨rfl, rfl, rfl, Nat.le_refl _, fun _ _ => rfl⟩)
            clear hU
            refine wpAnyH_take (i := 0) (oi := { dst := Option.some 99, op := Go.Op.fieldAddr 24 (Go.Operand.tmp 4) 3, type := 0, pos := "ref.go:176", after := #[], guard := Option.none }) (v := ?_) rfl (by kernel_rfl) (by kernel_rfl) (by kernel_rfl) (fun _ _ _ h => h) (Or.inl ⟨by rfl, ?_⟩) hHeld ?_
            rotate_left
            · intro w hSw
              clear hSw
              go_simp
              try with_reducible rfl
            try simp only [Act.put, List.setIfInBounds_toArray, List.set_cons_zero, List.set_cons_succ]
            refine wpAnyH_take (i := 2) (oi := { dst := Option.some 101, op := Go.Op.move (Go.Operand.tmp 0), type := 9, pos := "ref.go:176", after := #[], guard := Option.none }) (v := ?_) rfl (by kernel_rfl) (by kernel_rfl) (by kernel_rfl) (fun _ _ _ h => h) (Or.inl ⟨by rfl, ?_⟩) hHeld ?_
            rotate_left
            · intro w hSw
              clear hSw
              go_simp
              try with_reducible rfl
            try simp only [Act.put, List.setIfInBounds_toArray, List.set_cons_zero, List.set_cons_succ]
            refine wpAnyH_take (i := 3) (oi := { dst := Option.some 102, op := Go.Op.move (Go.Operand.tmp 5), type := 3, pos := "ref.go:176", after := #[], guard := Option.none }) (v := ?_) rfl (by kernel_rfl) (by kernel_rfl) (by kernel_rfl) (fun _ _ _ h => h) (Or.inl ⟨by rfl, ?_⟩) hHeld ?_
            rotate_left
            · intro w hSw
              clear hSw
              go_simp
              try with_reducible rfl
            try simp only [Act.put, List.setIfInBounds_toArray, List.set_cons_zero, List.set_cons_succ]
            refine wpAnyH_take (i := 4) (oi := { dst := Option.some 103, op := Go.Op.binOp Go.BinOp.add 3 (Go.Operand.tmp 102) (Go.Operand.const (Go.Value.int Go.IntKind.i64 1)) 3, type := 3, pos := "ref.go:176", after := #[{ on := 3, ground := Go.Ground.data }], guard := Option.none }) (v := ?_) rfl (by kernel_rfl) (by kernel_rfl) (by kernel_rfl) (fun _ _ _ h => h) (Or.inl ⟨by rfl, ?_⟩) hHeld ?_
            rotate_left
            · intro w hSw
              clear hSw
              go_simp
              try with_reducible rfl
            try simp only [Act.put, List.setIfInBounds_toArray, List.set_cons_zero, List.set_cons_succ]
            refine wpAnyH_take (i := 5) (oi := { dst := Option.some 104, op := Go.Op.move (Go.Operand.tmp 8), type := 3, pos := "ref.go:176", after := #[], guard := Option.none }) (v := ?_) rfl (by kernel_rfl) (by kernel_rfl) (by kernel_rfl) (fun _ _ _ h => h) (Or.inl ⟨by rfl, ?_⟩) hHeld ?_
            rotate_left
            · intro w hSw
              clear hSw
              go_simp
              try with_reducible rfl
            try simp only [Act.put, List.setIfInBounds_toArray, List.set_cons_zero, List.set_cons_succ]
            refine wpAnyH_take (i := 6) (oi := { dst := Option.some 105, op := Go.Op.slice 9 (Go.Operand.tmp 101) (Option.some (Go.Operand.tmp 103)) (Option.some (Go.Operand.tmp 104)) Option.none, type := 9, pos := "ref.go:176", after := #[{ on := 2, ground := Go.Ground.data }, { on := 4, ground := Go.Ground.data }, { on := 5, ground := Go.Ground.data }], guard := Option.none }) (v := ?_) rfl (by kernel_rfl) (by kernel_rfl) (by kernel_rfl) (fun _ _ _ h => h) (Or.inl ⟨by rfl, ?_⟩) hHeld ?_
            rotate_left
            · intro w hSw
              clear hSw
              go_simp
              try with_reducible rfl
            try simp only [Act.put, List.setIfInBounds_toArray, List.set_cons_zero, List.set_cons_succ]
            refine wpAnyH_ready (rs := [1, 7]) (by kernel_rfl) (by simp) (AllReadyH.cons (o := { dst := Option.some 100, op := Go.Op.load 22 (Go.Operand.tmp 99), type := 22, pos := "ref.go:176", after := #[{ on := 0, ground := Go.Ground.data }], guard := Option.none }) rfl (fun K hK => ?_) (AllReadyH.cons (o := { dst := Option.some 106, op := Go.Op.buildSlice 22 1 #[(0, Go.Operand.tmp 105)], type := 22, pos := "ref.go:176", after := #[{ on := 6, ground := Go.Ground.data }], guard := Option.none }) rfl (fun K hK => ?_) AllReadyH.nil))
            · have hc := cell_row (j := 3) HLU.out.mm
              have hlt := row_lt HLU.out.mm
              go_simp
              clear hc hlt
              refine hK.out _ _ trivial (fun hHeld2 => ?_)
              clear hK K hHeld
              have hHeld := hHeld2
              clear hHeld2
              try simp only [Act.put, List.setIfInBounds_toArray, List.set_cons_zero, List.set_cons_succ]
              refine wpAnyH_ready (rs := [7]) (by kernel_rfl) (by simp) (AllReadyH.cons (o := { dst := Option.some 106, op := Go.Op.buildSlice 22 1 #[(0, Go.Operand.tmp 105)], type := 22, pos := "ref.go:176", after := #[{ on := 6, ground := Go.Ground.data }], guard := Option.none }) rfl (fun K hK => ?_) AllReadyH.nil)
              go_simp
              try simp only [HEX.out]
              generalize hz4 : World.alloc U _ = z4
              have b4 : Below U.heap.size U z4 := by rw [← hz4]; exact below_new _ _
              have q4 := Lib.hid (show z4.heap[U.heap.size]? = some (.cells #[.string (str cc)] 9 (0, 0)) by rw [← hz4]; exact heap_alloc_new _ _)
              have HL4 := Lib.hid (HLU.out.on b4)
              obtain ⟨B4, hB4⟩ : ∃ B4, U.heap.size = B4 := ⟨_, rfl⟩
              rw [hB4] at q4
              try simp only [hB4]
              clear hz4 b4 hB4
              refine hK.out _ _ trivial (fun hHeld2 => ?_)
              clear hK K hHeld
              have hHeld := hHeld2
              clear hHeld2
              try simp only [Act.put, List.setIfInBounds_toArray, List.set_cons_zero, List.set_cons_succ]
              refine wpAnyH_ready (rs := [8]) (by kernel_rfl) (by simp) (AllReadyH.cons (o := { dst := Option.some 107, op := Go.Op.call { callee := Go.Callee.builtin Go.Builtin.append, args := #[Go.Operand.tmp 100, Go.Operand.tmp 106], argTypes := #[22, 22] }, type := 22, pos := "ref.go:176", after := #[{ on := 1, ground := Go.Ground.data }, { on := 7, ground := Go.Ground.data }], guard := Option.none }) rfl (fun K hK => ?_) AllReadyH.nil)
              try rw [if_pos (by rfl)]
              refine wp_append_strs (.tmp 100) (.tmp 106) rfl (N + 2) v P.length (strsV P) rfl HL4.out.own ⟨B4, 0, none⟩ 1 1 [.string (str cc)] rfl rfl (fun j u hj => by
                have h1 := cell_row (j := j) q4.out
                rw [addr_add, Nat.zero_add, h1]
                simpa using hj) (by simp [Value.oneCell']) (by have := HPL.out; omega) HL4.out.sz ?_
              intro v7 z5 o5 g5
              have HL5 := Lib.hid (HL4.out.grown o5 g5)
              obtain ⟨A7, c7, rfl⟩ := own_sl o5
              clear o5 g5
              refine hK.out _ _ trivial (fun hHeld2 => ?_)
              clear hK K hHeld
              have hHeld := hHeld2
              clear hHeld2
              try simp only [Act.put, List.setIfInBounds_toArray, List.set_cons_zero, List.set_cons_succ]
              refine wpAnyH_take (i := 9) (oi := { dst := Option.some 108, op := Go.Op.fieldAddr 24 (Go.Operand.tmp 4) 3, type := 0, pos := "ref.go:176", after := #[{ on := 0, ground := Go.Ground.phase }, { on := 1, ground := Go.Ground.phase }, { on := 2, ground := Go.Ground.phase }, { on := 3, ground := Go.Ground.phase }, { on := 4, ground := Go.Ground.phase }, { on := 5, ground := Go.Ground.phase }, { on := 6, ground := Go.Ground.phase }, { on := 7, ground := Go.Ground.phase }, { on := 8, ground := Go.Ground.phase }], guard := Option.none }) (v := ?_) rfl (by kernel_rfl) (by kernel_rfl) (by kernel_rfl) (fun _ _ _ h => h) (Or.inl ⟨by rfl, ?_⟩) hHeld ?_
              rotate_left
              · intro w hSw
                clear hSw
                go_simp
                try with_reducible rfl
              try simp only [Act.put, List.setIfInBounds_toArray, List.set_cons_zero, List.set_cons_succ]
              refine wpAnyH_ready (rs := [10]) (by kernel_rfl) (by simp) (AllReadyH.cons (o := { dst := Option.none, op := Go.Op.store 22 (Go.Operand.tmp 108) (Go.Operand.tmp 107), type := 0, pos := "ref.go:176", after := #[{ on := 9, ground := Go.Ground.data }, { on := 8, ground := Go.Ground.data }, { on := 8, ground := Go.Ground.chain }, { on := 0, ground := Go.Ground.phase }, { on := 1, ground := Go.Ground.phase }, { on := 2, ground := Go.Ground.phase }, { on := 3, ground := Go.Ground.phase }, { on := 4, ground := Go.Ground.phase }, { on := 5, ground := Go.Ground.phase }, { on := 6, ground := Go.Ground.phase }, { on := 7, ground := Go.Ground.phase }, { on := 8, ground := Go.Ground.phase }], guard := Option.none }) rfl (fun K hK => ?_) AllReadyH.nil)
              obtain ⟨hz, e0, e1_, e2, e3, e4, f0, f1, f2, f3, f4⟩ := locfacts HL5.out.1
              go_simp
              clear hz e0 e1_ e2 e3 e4 f0 f1 f2 f3 f4
              generalize hz9 : World.setCell z5 _ _ = z9
              have HL9 := Lib.hid (show PB w N S H pt_ (P ++ [cc]) dd (.slice A7 (P.length + 1) c7) z9 by rw [← hz9]; exact HL5.out.2)
              clear hz9
              refine hK.out _ _ trivial (fun hHeld2 => ?_)
              clear hK K hHeld
              have hHeld := hHeld2
              clear hHeld2
              try simp only [Act.put, List.setIfInBounds_toArray, List.set_cons_zero, List.set_cons_succ]
              refine wpAnyH_done (by kernel_rfl) ?_ _
              go_wp2_with fail
              exact ⟨⟨e1, P ++ [cc], dd, _, by omega, by omega, by go_num, HL9.out, by rw [List.length_append]; have := HPL.out; simp only [List.length_cons, List.length_nil]; omega, fun q hq => by
                rcases List.mem_append.1 hq with hq | hq
                · exact HPB.out q hq
                · rw [List.mem_singleton.1 hq]; exact HCZ.out, HSP.out⟩, by simp [intOf]; omega⟩
            · go_simp
              try simp only [HEX.out]
              generalize hz4 : World.alloc U _ = z4
              have b4 : Below U.heap.size U z4 := by rw [← hz4]; exact below_new _ _
              have q4 := Lib.hid (show z4.heap[U.heap.size]? = some (.cells #[.string (str cc)] 9 (0, 0)) by rw [← hz4]; exact heap_alloc_new _ _)
              have HL4 := Lib.hid (HLU.out.on b4)
              obtain ⟨B4, hB4⟩ : ∃ B4, U.heap.size = B4 := ⟨_, rfl⟩
              rw [hB4] at q4
              try simp only [hB4]
              clear hz4 b4 hB4
              refine hK.out _ _ trivial (fun hHeld2 => ?_)
              clear hK K hHeld
              have hHeld := hHeld2
              clear hHeld2
              try simp only [Act.put, List.setIfInBounds_toArray, List.set_cons_zero, List.set_cons_succ]
              refine wpAnyH_ready (rs := [1]) (by kernel_rfl) (by simp) (AllReadyH.cons (o := { dst := Option.some 100, op := Go.Op.load 22 (Go.Operand.tmp 99), type := 22, pos := "ref.go:176", after := #[{ on := 0, ground := Go.Ground.data }], guard := Option.none }) rfl (fun K hK => ?_) AllReadyH.nil)
              have hc := cell_row (j := 3) HL4.out.mm
              have hlt := row_lt HL4.out.mm
              go_simp
              clear hc hlt
              refine hK.out _ _ trivial (fun hHeld2 => ?_)
              clear hK K hHeld
              have hHeld := hHeld2
              clear hHeld2
              try simp only [Act.put, List.setIfInBounds_toArray, List.set_cons_zero, List.set_cons_succ]
              refine wpAnyH_ready (rs := [8]) (by kernel_rfl) (by simp) (AllReadyH.cons (o := { dst := Option.some 107, op := Go.Op.call { callee := Go.Callee.builtin Go.Builtin.append, args := #[Go.Operand.tmp 100, Go.Operand.tmp 106], argTypes := #[22, 22] }, type := 22, pos := "ref.go:176", after := #[{ on := 1, ground := Go.Ground.data }, { on := 7, ground := Go.Ground.data }], guard := Option.none }) rfl (fun K hK => ?_) AllReadyH.nil)
              try rw [if_pos (by rfl)]
              refine wp_append_strs (.tmp 100) (.tmp 106) rfl (N + 2) v P.length (strsV P) rfl HL4.out.own ⟨B4, 0, none⟩ 1 1 [.string (str cc)] rfl rfl (fun j u hj => by
                have h1 := cell_row (j := j) q4.out
                rw [addr_add, Nat.zero_add, h1]
                simpa using hj) (by simp [Value.oneCell']) (by have := HPL.out; omega) HL4.out.sz ?_
              intro v7 z5 o5 g5
              have HL5 := Lib.hid (HL4.out.grown o5 g5)
              obtain ⟨A7, c7, rfl⟩ := own_sl o5
              clear o5 g5
              refine hK.out _ _ trivial (fun hHeld2 => ?_)
              clear hK K hHeld
              have hHeld := hHeld2
              clear hHeld2
              try simp only [Act.put, List.setIfInBounds_toArray, List.set_cons_zero, List.set_cons_succ]
              refine wpAnyH_take (i := 9) (oi := { dst := Option.some 108, op := Go.Op.fieldAddr 24 (Go.Operand.tmp 4) 3, type := 0, pos := "ref.go:176", after := #[{ on := 0, ground := Go.Ground.phase }, { on := 1, ground := Go.Ground.phase }, { on := 2, ground := Go.Ground.phase }, { on := 3, ground := Go.Ground.phase }, { on := 4, ground := Go.Ground.phase }, { on := 5, ground := Go.Ground.phase }, { on := 6, ground := Go.Ground.phase }, { on := 7, ground := Go.Ground.phase }, { on := 8, ground := Go.Ground.phase }], guard := Option.none }) (v := ?_) rfl (by kernel_rfl) (by kernel_rfl) (by kernel_rfl) (fun _ _ _ h => h) (Or.inl ⟨by rfl, ?_⟩) hHeld ?_
              rotate_left
              · intro w hSw
                clear hSw
                go_simp
                try with_reducible rfl
              try simp only [Act.put, List.setIfInBounds_toArray, List.set_cons_zero, List.set_cons_succ]
              refine wpAnyH_ready (rs := [10]) (by kernel_rfl) (by simp) (AllReadyH.cons (o := { dst := Option.none, op := Go.Op.store 22 (Go.Operand.tmp 108) (Go.Operand.tmp 107), type := 0, pos := "ref.go:176", after := #[{ on := 9, ground := Go.Ground.data }, { on := 8, ground := Go.Ground.data }, { on := 8, ground := Go.Ground.chain }, { on := 0, ground := Go.Ground.phase }, { on := 1, ground := Go.Ground.phase }, { on := 2, ground := Go.Ground.phase }, { on := 3, ground := Go.Ground.phase }, { on := 4, ground := Go.Ground.phase }, { on := 5, ground := Go.Ground.phase }, { on := 6, ground := Go.Ground.phase }, { on := 7, ground := Go.Ground.phase }, { on := 8, ground := Go.Ground.phase }], guard := Option.none }) rfl (fun K hK => ?_) AllReadyH.nil)
              obtain ⟨hz, e0, e1_, e2, e3, e4, f0, f1, f2, f3, f4⟩ := locfacts HL5.out.1
              go_simp
              clear hz e0 e1_ e2 e3 e4 f0 f1 f2 f3 f4
              generalize hz9 : World.setCell z5 _ _ = z9
              have HL9 := Lib.hid (show PB w N S H pt_ (P ++ [cc]) dd (.slice A7 (P.length + 1) c7) z9 by rw [← hz9]; exact HL5.out.2)
              clear hz9
              refine hK.out _ _ trivial (fun hHeld2 => ?_)
              clear hK K hHeld
              have hHeld := hHeld2
              clear hHeld2
              try simp only [Act.put, List.setIfInBounds_toArray, List.set_cons_zero, List.set_cons_succ]
              refine wpAnyH_done (by kernel_rfl) ?_ _
              go_wp2_with fail
              exact ⟨⟨e1, P ++ [cc], dd, _, by omega, by omega, by go_num, HL9.out, by rw [List.length_append]; have := HPL.out; simp only [List.length_cons, List.length_nil]; omega, fun q hq => by
                rcases List.mem_append.1 hq with hq | hq
                · exact HPB.out q hq
                · rw [List.mem_singleton.1 hq]; exact HCZ.out, HSP.out⟩, by simp [intOf]; omega⟩
        · have hki : ((str s).size : Int) ≤ (k : Int) := by rw [str_size]; omega
          have hkk : k = s.length := by omega
          have HE : RowKit.Hid (∀ l, parseL s = some l → l = ⟨S, H, pt_, P, dd⟩) := Lib.hid (fun l hl => by
            have h1 := HSO.out l hl
            rw [hkk, List.drop_length] at h1
            obtain ⟨h2, h3⟩ := sofar_end h1
            obtain ⟨h4, h5, h6⟩ := HLP.out l hl
            cases l
            simp only at h2 h3 h4 h5 h6
            subst h2 h3 h4 h5 h6
            rfl)
          obtain ⟨A, c, rfl⟩ := own_sl HB.out.own
          have HAT := Lib.hid (show LocAt ⟨S, H, pt_, P, dd⟩ A c V from ⟨HSS.out, HHL.out, (own_strs HB.out.own).1, (own_strs HB.out.own).2, fun q hq => by have := HPB.out q hq; omega⟩)
          have HC := Lib.hid (fun (V' : World) (hb : Below V.heap.size V V') => rcheck_any ⟨S, H, pt_, P, dd⟩ A c V' (HAT.out.on hb))
          have HW := Lib.hid (fun (V' : World) (hb : Below V.heap.size V V') (h0 : chk ⟨S, H, pt_, P, dd⟩ = 0) => show Calls Tryd.prog 34 #[locV ⟨S, H, pt_, P, dd⟩ A c] V' (fun e w' => e = .returned (.string (str (wrL ⟨S, H, pt_, P, dd⟩))) ∧ Below V'.heap.size V' w') from by
            have g := (chk_zero h0).1
            exact write_any S H pt_ A P c dd V' g.sch (host_len g.host) g.p0 g.p1 (HAT.out.on hb).parts (chk_zero h0).2.1 (fun q hq => name_len (g.names q hq)) HAT.out.cap)
          have HYES : RowKit.Hid (chk ⟨S, H, pt_, P, dd⟩ = 0 → wrL ⟨S, H, pt_, P, dd⟩ = s → parseL s = some ⟨S, H, pt_, P, dd⟩) := Lib.hid (fun h1 h2 => (parse_iff s _).2 ⟨h1, h2⟩)
          have HNO : RowKit.Hid (¬ (chk ⟨S, H, pt_, P, dd⟩ = 0 ∧ wrL ⟨S, H, pt_, P, dd⟩ = s) → parseL s = none) := Lib.hid (fun h => HNO0.out (fun l hl => h (by have e := HE.out l hl; subst e; exact (parse_iff s _).1 hl)))
          unfold locV at HC HW
          simp only at HC HW
          generalize chk ⟨S, H, pt_, P, dd⟩ = CK at HC HW HYES HNO
          generalize wrL ⟨S, H, pt_, P, dd⟩ = WR at HW HYES HNO
          clear HE hkk
          obtain ⟨hz, m0, m1, m2, m3, m4, -, -, -, -, -⟩ := locfacts HB.out.mm
          by_cases h0 : CK = 0
          · subst h0
            go_wp2_with fail
            refine (HC.out V (Below.refl _ _)).mono ?_
            rintro e v5 ⟨rfl, hb⟩
            have HB5 := Lib.hid (HB.out.on hb)
            have HBB5 := Lib.hid hb
            clear hz m0 m1 m2 m3 m4 hb
            obtain ⟨hz, m0, m1, m2, m3, m4, -, -, -, -, -⟩ := locfacts HB5.out.mm
            go_wp2_with fail
            refine (HW.out v5 HBB5.out (by first | rfl | trivial)).mono ?_
            rintro e v6 ⟨rfl, hb⟩
            have HB6 := Lib.hid (HB5.out.on hb)
            have HAT6 := Lib.hid (HAT.out.on (HBB5.out.trans (hb.mono HBB5.out.size)))
            clear hz m0 m1 m2 m3 m4 hb
            by_cases hw : WR = s
            · have HPS := Lib.hid (HYES.out (by first | rfl | trivial) hw)
              have iw : ((str WR).toList != (str s).toList) = false := by rw [hw]; simp
              have iw2 : ((str WR).toList == (str s).toList) = true := by rw [hw]; exact beq_self_eq_true _
              clear hw HYES HNO
              obtain ⟨hz, m0, m1, m2, m3, m4, -, -, -, -, -⟩ := locfacts HB6.out.mm
              obtain ⟨gz, g0, g1, g2, g3, g4, k0, k1, k2, k3, k4⟩ := locfacts (a := .int .u8 0) (b := .string ⟨#[]⟩) (c := .int .i64 0) (d := .slice none 0 0) (e := .bool false) HB6.out.hN
              go_wp2_with fail
              have B := five_row (v0 := .int .u8 S) (v1 := .string (str H)) (v2 := .int .i64 pt_) (v3 := .slice A P.length c) (v4 := .bool dd) (a := .int .u8 0) (b := .string ⟨#[]⟩) (c := .int .i64 0) (d := .slice none 0 0) (e := .bool false) HB6.out.hN
              have HBX := Lib.hid (below_at5 HB6.out.bl (Nat.le_refl _) (.int .u8 S) (.string (str H)) (.int .i64 pt_) (.slice A P.length c) (.bool dd))
              have HOX := Lib.hid (own_set5 (g := N) (b := N + 1) (Nat.lt_succ_self N) (own_mono HB6.out.own (Nat.le_succ _)) (.int .u8 S) (.string (str H)) (.int .i64 pt_) (.slice A P.length c) (.bool dd))
              generalize hfin : World.setCell (World.setCell (World.setCell (World.setCell (World.setCell _ _ _) _ _) _ _) _ _) _ _ = fin at B HBX HOX ⊢
              clear hfin
              obtain ⟨-, b0, b1, b2, b3, b4, -, -, -, -, -⟩ := locfacts B
              refine bodyPost_ret (v := .tuple #[.agg #[.int .u8 S, .string (str H), .int .i64 pt_, .slice A P.length c, .bool dd], .int .i64 0]) (by simp [results, Tryd.results17, go_sem, b0, b1, b2, b3, b4]) rfl (good_post HPS.out HAT6.out (by rw [HNN.out]; exact HOX.out) (by rw [HNN.out]; exact HBX.out))
            · have HPN := Lib.hid (HNO.out (fun h => hw h.2))
              have iw2 : ((str WR).toList == (str s).toList) = false := by
                rw [eqS, str_dat, ByteArray.toList_eq, str_dat]
                exact decide_eq_false hw
              have iw : ((str WR).toList != (str s).toList) = true := by
                show (!((str WR).toList == (str s).toList)) = true
                rw [iw2]
                rfl
              clear hw HYES HNO
              obtain ⟨gz, g0, g1, g2, g3, g4, k0, k1, k2, k3, k4⟩ := locfacts (a := .int .u8 0) (b := .string ⟨#[]⟩) (c := .int .i64 0) (d := .slice none 0 0) (e := .bool false) HB6.out.hN
              go_wp2_with fail
              have B := five_row (v0 := .int .u8 0) (v1 := .string ⟨#[]⟩) (v2 := .int .i64 0) (v3 := .slice none 0 0) (v4 := .bool false) (a := .int .u8 0) (b := .string ⟨#[]⟩) (c := .int .i64 0) (d := .slice none 0 0) (e := .bool false) HB6.out.hN
              have HBX := Lib.hid (below_at5 HB6.out.bl (Nat.le_refl _) (.int .u8 0) (.string ⟨#[]⟩) (.int .i64 0) (.slice none 0 0) (.bool false))
              generalize hfin : World.setCell (World.setCell (World.setCell (World.setCell (World.setCell _ _ _) _ _) _ _) _ _) _ _ = fin at B HBX ⊢
              clear hfin
              obtain ⟨-, b0, b1, b2, b3, b4, -, -, -, -, -⟩ := locfacts B
              refine bodyPost_ret (v := .tuple #[.agg #[.int .u8 0, .string ⟨#[]⟩, .int .i64 0, .slice none 0 0, .bool false], .int .i64 12]) (by simp [results, Tryd.results17, go_sem, b0, b1, b2, b3, b4]) rfl (bad_post HPN.out (by rw [HNN.out]; exact HBX.out))
          · have ic : (CK != 0) = true := by rw [bne_iff_ne]; exact h0
            have HPN := Lib.hid (HNO.out (fun h => h0 h.1))
            clear h0 HYES HNO
            go_wp2_with fail
            refine (HC.out V (Below.refl _ _)).mono ?_
            rintro e v5 ⟨rfl, hb⟩
            have HB5 := Lib.hid (HB.out.on hb)
            clear hz m0 m1 m2 m3 m4 hb
            obtain ⟨gz, g0, g1, g2, g3, g4, k0, k1, k2, k3, k4⟩ := locfacts (a := .int .u8 0) (b := .string ⟨#[]⟩) (c := .int .i64 0) (d := .slice none 0 0) (e := .bool false) HB5.out.hN
            go_wp2_with fail
            have B := five_row (v0 := .int .u8 0) (v1 := .string ⟨#[]⟩) (v2 := .int .i64 0) (v3 := .slice none 0 0) (v4 := .bool false) (a := .int .u8 0) (b := .string ⟨#[]⟩) (c := .int .i64 0) (d := .slice none 0 0) (e := .bool false) HB5.out.hN
            have HBX := Lib.hid (below_at5 HB5.out.bl (Nat.le_refl _) (.int .u8 0) (.string ⟨#[]⟩) (.int .i64 0) (.slice none 0 0) (.bool false))
            generalize hfin : World.setCell (World.setCell (World.setCell (World.setCell (World.setCell _ _ _) _ _) _ _) _ _) _ _ = fin at B HBX ⊢
            clear hfin
            obtain ⟨-, b0, b1, b2, b3, b4, -, -, -, -, -⟩ := locfacts B
            refine bodyPost_ret (v := .tuple #[.agg #[.int .u8 0, .string ⟨#[]⟩, .int .i64 0, .slice none 0 0, .bool false], .int .i64 12]) (by simp [results, Tryd.results17, go_sem, b0, b1, b2, b3, b4]) rfl (bad_post HPN.out (by rw [HNN.out]; exact HBX.out))
  · have hki : ¬ (a0 : Int) < ((str s).size : Int) := by rw [str_size]; omega
    have H58 : RowKit.Hid (s[a0]? ≠ some 58) := Lib.hid (by rw [List.getElem?_eq_none (by omega)]; simp)
    have HLP : RowKit.Hid (∀ l, parseL s = some l → l.sch = S ∧ l.host = H ∧ l.port = 0) := Lib.hid (fun l hl => ⟨HSL.out l hl, HHO.out l hl, ((HF.out l hl).none_ H58.out).1⟩)
    have HSO : RowKit.Hid (∀ l, parseL s = some l → Sofar l (s.drop a0) [] false) := Lib.hid (fun l hl => by rw [((HF.out l hl).none_ H58.out).2]; exact sofar_start l)
    obtain ⟨pt_, hpt⟩ : ∃ pt_ : Int, 0 = pt_ := ⟨_, rfl⟩
    have HBS := HB4
    rw [hpt] at HLP HBS
    have HA1 : RowKit.Hid (a0 ≤ s.length) := Lib.hid hal
    clear HB4 hpt
    go_wp2_with fail
    try clear hki hlt
    go_loopw [5] (fun i wr => ∃ (k : Nat) (P : List (List UInt8)) (dd : Bool) (v : Value), a0 ≤ k ∧ k ≤ s.length ∧ i = .int .i64 k ∧ PB w N S H pt_ P dd v wr ∧ P.length ≤ k ∧ (∀ q ∈ P, q.length ≤ 1000) ∧ (∀ l, parseL s = some l → Sofar l (s.drop k) P dd)) (fun i _ => s.length - (intOf i).toNat)
    case atStart => exact ⟨a0, [], false, _, Nat.le_refl _, HA1.out, rfl, HBS.out, Nat.zero_le _, (fun q hq => by cases hq), HSO.out⟩
    case round =>
      clear HBS HSO
      obtain ⟨k, P, dd, v, hk1, hk2, rfl, hpb, hpl, hpq, hso⟩ := hrel
      obtain ⟨V, hV⟩ : ∃ V, V = wr := ⟨_, rfl⟩
      subst hV
      have HB := Lib.hid hpb
      have HPL := Lib.hid hpl
      have HPB := Lib.hid hpq
      have HSO := Lib.hid hso
      clear hpb hpl hpq hso
      by_cases hlt : k < s.length
      · have hki : (k : Int) < ((str s).size : Int) := by rw [str_size]; omega
        have HUN := Lib.hid (HU2.out (k + 1) (by omega))
        have h1 := un_ge 47 47 s (k + 1)
        have h2 := un_le 47 47 s (k + 1) (by omega)
        have HEX : RowKit.Hid (∀ e, (str s).extract (k + 1) e = str ((s.drop (k + 1)).take (e - (k + 1)))) := Lib.hid (fun e => ext_str9 s (k + 1) e)
        have HSD : RowKit.Hid (k + 1 = s.length → ∀ l, parseL s = some l → Sofar l (s.drop (k + 1)) P true) := Lib.hid (fun e l hl => sofar_dir (HF.out l hl).parts (HSO.out l hl) e)
        have HSP0 : RowKit.Hid (¬ (un 47 47 s (k + 1) = k + 1 ∧ un 47 47 s (k + 1) = s.length) → ∀ l, parseL s = some l → Sofar l (s.drop (un 47 47 s (k + 1))) (P ++ [(s.drop (k + 1)).take (un 47 47 s (k + 1) - (k + 1))]) dd) := Lib.hid (fun e l hl => sofar_part (HF.out l hl).parts (HSO.out l hl) hlt e)
        generalize un 47 47 s (k + 1) = e1 at HUN h1 h2 HSP0
        have HZI : RowKit.Hid (((str s).size : Int) = (s.length : Int)) := Lib.hid (by rw [str_size])
        clear HSO
        go_wp2_with fail
        refine (HUN.out V).mono ?_
        rintro e w9 ⟨rfl, hw9⟩
        rw [hw9]
        clear hw9 w9
        by_cases q1 : e1 = k + 1
        · have j1 : ((e1 : Int) == (k : Int) + 1) = true := by rw [beq_iff_eq]; omega
          by_cases q2 : e1 = s.length
          · have j2 : ((e1 : Int) == ((str s).size : Int)) = true := by rw [beq_iff_eq, HZI.out]; omega
            have HS9 := Lib.hid (HSD.out (by omega))
            have HN9 : RowKit.Hid (e1 = k + 1) := Lib.hid q1
            have h3 : e1 ≤ s.length ∧ k < e1 := ⟨by omega, by omega⟩
            obtain ⟨h3, h4⟩ := h3
            clear HSP0 HSD h1 h2 q1 q2
            obtain ⟨hz, m0, m1, m2, m3, m4, k0, k1_, k2, k3, k4⟩ := locfacts HB.out.mm
            go_wp2_with fail
            generalize hv9 : World.setCell _ _ _ = v9
            have HB9 := Lib.hid (show PB w N S H pt_ P true v v9 by rw [← hv9]; exact HB.out.set4 true)
            clear hv9
            exact ⟨⟨e1, P, true, _, by omega, h3, by go_num, HB9.out, by have := HPL.out; omega, HPB.out, by rw [HN9.out]; exact HS9.out⟩, by simp [intOf]; omega⟩
          · have j2 : ((e1 : Int) == ((str s).size : Int)) = false := by rw [beq_eq_false_iff_ne, HZI.out]; omega
            have HSP1 := Lib.hid (HSP0.out (fun h => q2 h.2))
            have HCZ : RowKit.Hid (((s.drop (k + 1)).take (e1 - (k + 1))).length ≤ 1000) := Lib.hid (by rw [List.length_take, List.length_drop]; omega)
            have HEX := Lib.hid (HEX.out e1)
            have HSP := HSP1
            clear HSP0 HSD HSP1
            obtain ⟨cc, hcc⟩ : ∃ cc, (s.drop (k + 1)).take (e1 - (k + 1)) = cc := ⟨_, rfl⟩
            rw [hcc] at HCZ HEX HSP
            clear hcc
            have hki2 : (k : Int) + 1 ≤ (e1 : Int) := by omega
            have hki3 : (e1 : Int) ≤ ((str s).size : Int) := by rw [HZI.out]; omega
            have hwk : IntKind.i64.wrap ((k : Int) + 1) = (k : Int) + 1 := IntWalk.i64_in _ (by omega)
            have hk0 : (0 : Int) ≤ (k : Int) + 1 := by omega
            clear q1
            try clear q2
            go_wp2_with fail
            refine wp_region_held_drew (S := fun _ => True) (by kernel_rfl) trivial (fun hHeld => ?_)
            generalize hU : World.drew V = U at hHeld ⊢
            have HLU := Lib.hid (show PB w N S H pt_ P dd v U by rw [← hU]; exact HB.out.on ⟨rfl, rfl, rfl, Nat.le_refl _, fun _ _ => rfl⟩)
            clear hU
            refine wpAnyH_take (i := 0) (oi := { dst := Option.some 99, op := Go.Op.fieldAddr 24 (Go.Operand.tmp 4) 3, type := 0, pos := "ref.go:176", after := #[], guard := Option.none }) (v := ?_) rfl (by kernel_rfl) (by kernel_rfl) (by kernel_rfl) (fun _ _ _ h => h) (Or.inl ⟨by rfl, ?_⟩) hHeld ?_
            rotate_left
            · intro w hSw
              clear hSw
              go_simp
              try with_reducible rfl
            try simp only [Act.put, List.setIfInBounds_toArray, List.set_cons_zero, List.set_cons_succ]
            refine wpAnyH_take (i := 2) (oi := { dst := Option.some 101, op := Go.Op.move (Go.Operand.tmp 0), type := 9, pos := "ref.go:176", after := #[], guard := Option.none }) (v := ?_) rfl (by kernel_rfl) (by kernel_rfl) (by kernel_rfl) (fun _ _ _ h => h) (Or.inl ⟨by rfl, ?_⟩) hHeld ?_
            rotate_left
            · intro w hSw
              clear hSw
              go_simp
              try with_reducible rfl
            try simp only [Act.put, List.setIfInBounds_toArray, List.set_cons_zero, List.set_cons_succ]
            refine wpAnyH_take (i := 3) (oi := { dst := Option.some 102, op := Go.Op.move (Go.Operand.tmp 5), type := 3, pos := "ref.go:176", after := #[], guard := Option.none }) (v := ?_) rfl (by kernel_rfl) (by kernel_rfl) (by kernel_rfl) (fun _ _ _ h => h) (Or.inl ⟨by rfl, ?_⟩) hHeld ?_
            rotate_left
            · intro w hSw
              clear hSw
              go_simp
              try with_reducible rfl
            try simp only [Act.put, List.setIfInBounds_toArray, List.set_cons_zero, List.set_cons_succ]
            refine wpAnyH_take (i := 4) (oi := { dst := Option.some 103, op := Go.Op.binOp Go.BinOp.add 3 (Go.Operand.tmp 102) (Go.Operand.const (Go.Value.int Go.IntKind.i64 1)) 3, type := 3, pos := "ref.go:176", after := #[{ on := 3, ground := Go.Ground.data }], guard := Option.none }) (v := ?_) rfl (by kernel_rfl) (by kernel_rfl) (by kernel_rfl) (fun _ _ _ h => h) (Or.inl ⟨by rfl, ?_⟩) hHeld ?_
            rotate_left
            · intro w hSw
              clear hSw
              go_simp
              try with_reducible rfl
            try simp only [Act.put, List.setIfInBounds_toArray, List.set_cons_zero, List.set_cons_succ]
            refine wpAnyH_take (i := 5) (oi := { dst := Option.some 104, op := Go.Op.move (Go.Operand.tmp 8), type := 3, pos := "ref.go:176", after := #[], guard := Option.none }) (v := ?_) rfl (by kernel_rfl) (by kernel_rfl) (by kernel_rfl) (fun _ _ _ h => h) (Or.inl ⟨by rfl, ?_⟩) hHeld ?_
            rotate_left
            · intro w hSw
              clear hSw
              go_simp
              try with_reducible rfl
            try simp only [Act.put, List.setIfInBounds_toArray, List.set_cons_zero, List.set_cons_succ]
            refine wpAnyH_take (i := 6) (oi := { dst := Option.some 105, op := Go.Op.slice 9 (Go.Operand.tmp 101) (Option.some (Go.Operand.tmp 103)) (Option.some (Go.Operand.tmp 104)) Option.none, type := 9, pos := "ref.go:176", after := #[{ on := 2, ground := Go.Ground.data }, { on := 4, ground := Go.Ground.data }, { on := 5, ground := Go.Ground.data }], guard := Option.none }) (v := ?_) rfl (by kernel_rfl) (by kernel_rfl) (by kernel_rfl) (fun _ _ _ h => h) (Or.inl ⟨by rfl, ?_⟩) hHeld ?_
            rotate_left
            · intro w hSw
              clear hSw
              go_simp
              try with_reducible rfl
            try simp only [Act.put, List.setIfInBounds_toArray, List.set_cons_zero, List.set_cons_succ]
            refine wpAnyH_ready (rs := [1, 7]) (by kernel_rfl) (by simp) (AllReadyH.cons (o := { dst := Option.some 100, op := Go.Op.load 22 (Go.Operand.tmp 99), type := 22, pos := "ref.go:176", after := #[{ on := 0, ground := Go.Ground.data }], guard := Option.none }) rfl (fun K hK => ?_) (AllReadyH.cons (o := { dst := Option.some 106, op := Go.Op.buildSlice 22 1 #[(0, Go.Operand.tmp 105)], type := 22, pos := "ref.go:176", after := #[{ on := 6, ground := Go.Ground.data }], guard := Option.none }) rfl (fun K hK => ?_) AllReadyH.nil))
            · have hc := cell_row (j := 3) HLU.out.mm
              have hlt := row_lt HLU.out.mm
              go_simp
              clear hc hlt
              refine hK.out _ _ trivial (fun hHeld2 => ?_)
              clear hK K hHeld
              have hHeld := hHeld2
              clear hHeld2
              try simp only [Act.put, List.setIfInBounds_toArray, List.set_cons_zero, List.set_cons_succ]
              refine wpAnyH_ready (rs := [7]) (by kernel_rfl) (by simp) (AllReadyH.cons (o := { dst := Option.some 106, op := Go.Op.buildSlice 22 1 #[(0, Go.Operand.tmp 105)], type := 22, pos := "ref.go:176", after := #[{ on := 6, ground := Go.Ground.data }], guard := Option.none }) rfl (fun K hK => ?_) AllReadyH.nil)
              go_simp
              try simp only [HEX.out]
              generalize hz4 : World.alloc U _ = z4
              have b4 : Below U.heap.size U z4 := by rw [← hz4]; exact below_new _ _
              have q4 := Lib.hid (show z4.heap[U.heap.size]? = some (.cells #[.string (str cc)] 9 (0, 0)) by rw [← hz4]; exact heap_alloc_new _ _)
              have HL4 := Lib.hid (HLU.out.on b4)
              obtain ⟨B4, hB4⟩ : ∃ B4, U.heap.size = B4 := ⟨_, rfl⟩
              rw [hB4] at q4
              try simp only [hB4]
              clear hz4 b4 hB4
              refine hK.out _ _ trivial (fun hHeld2 => ?_)
              clear hK K hHeld
              have hHeld := hHeld2
              clear hHeld2
              try simp only [Act.put, List.setIfInBounds_toArray, List.set_cons_zero, List.set_cons_succ]
              refine wpAnyH_ready (rs := [8]) (by kernel_rfl) (by simp) (AllReadyH.cons (o := { dst := Option.some 107, op := Go.Op.call { callee := Go.Callee.builtin Go.Builtin.append, args := #[Go.Operand.tmp 100, Go.Operand.tmp 106], argTypes := #[22, 22] }, type := 22, pos := "ref.go:176", after := #[{ on := 1, ground := Go.Ground.data }, { on := 7, ground := Go.Ground.data }], guard := Option.none }) rfl (fun K hK => ?_) AllReadyH.nil)
              try rw [if_pos (by rfl)]
              refine wp_append_strs (.tmp 100) (.tmp 106) rfl (N + 2) v P.length (strsV P) rfl HL4.out.own ⟨B4, 0, none⟩ 1 1 [.string (str cc)] rfl rfl (fun j u hj => by
                have h1 := cell_row (j := j) q4.out
                rw [addr_add, Nat.zero_add, h1]
                simpa using hj) (by simp [Value.oneCell']) (by have := HPL.out; omega) HL4.out.sz ?_
              intro v7 z5 o5 g5
              have HL5 := Lib.hid (HL4.out.grown o5 g5)
              obtain ⟨A7, c7, rfl⟩ := own_sl o5
              clear o5 g5
              refine hK.out _ _ trivial (fun hHeld2 => ?_)
              clear hK K hHeld
              have hHeld := hHeld2
              clear hHeld2
              try simp only [Act.put, List.setIfInBounds_toArray, List.set_cons_zero, List.set_cons_succ]
              refine wpAnyH_take (i := 9) (oi := { dst := Option.some 108, op := Go.Op.fieldAddr 24 (Go.Operand.tmp 4) 3, type := 0, pos := "ref.go:176", after := #[{ on := 0, ground := Go.Ground.phase }, { on := 1, ground := Go.Ground.phase }, { on := 2, ground := Go.Ground.phase }, { on := 3, ground := Go.Ground.phase }, { on := 4, ground := Go.Ground.phase }, { on := 5, ground := Go.Ground.phase }, { on := 6, ground := Go.Ground.phase }, { on := 7, ground := Go.Ground.phase }, { on := 8, ground := Go.Ground.phase }], guard := Option.none }) (v := ?_) rfl (by kernel_rfl) (by kernel_rfl) (by kernel_rfl) (fun _ _ _ h => h) (Or.inl ⟨by rfl, ?_⟩) hHeld ?_
              rotate_left
              · intro w hSw
                clear hSw
                go_simp
                try with_reducible rfl
              try simp only [Act.put, List.setIfInBounds_toArray, List.set_cons_zero, List.set_cons_succ]
              refine wpAnyH_ready (rs := [10]) (by kernel_rfl) (by simp) (AllReadyH.cons (o := { dst := Option.none, op := Go.Op.store 22 (Go.Operand.tmp 108) (Go.Operand.tmp 107), type := 0, pos := "ref.go:176", after := #[{ on := 9, ground := Go.Ground.data }, { on := 8, ground := Go.Ground.data }, { on := 8, ground := Go.Ground.chain }, { on := 0, ground := Go.Ground.phase }, { on := 1, ground := Go.Ground.phase }, { on := 2, ground := Go.Ground.phase }, { on := 3, ground := Go.Ground.phase }, { on := 4, ground := Go.Ground.phase }, { on := 5, ground := Go.Ground.phase }, { on := 6, ground := Go.Ground.phase }, { on := 7, ground := Go.Ground.phase }, { on := 8, ground := Go.Ground.phase }], guard := Option.none }) rfl (fun K hK => ?_) AllReadyH.nil)
              obtain ⟨hz, e0, e1_, e2, e3, e4, f0, f1, f2, f3, f4⟩ := locfacts HL5.out.1
              go_simp
              clear hz e0 e1_ e2 e3 e4 f0 f1 f2 f3 f4
              generalize hz9 : World.setCell z5 _ _ = z9
              have HL9 := Lib.hid (show PB w N S H pt_ (P ++ [cc]) dd (.slice A7 (P.length + 1) c7) z9 by rw [← hz9]; exact HL5.out.2)
              clear hz9
              refine hK.out _ _ trivial (fun hHeld2 => ?_)
              clear hK K hHeld
              have hHeld := hHeld2
              clear hHeld2
              try simp only [Act.put, List.setIfInBounds_toArray, List.set_cons_zero, List.set_cons_succ]
              refine wpAnyH_done (by kernel_rfl) ?_ _
              go_wp2_with fail
              exact ⟨⟨e1, P ++ [cc], dd, _, by omega, by omega, by go_num, HL9.out, by rw [List.length_append]; have := HPL.out; simp only [List.length_cons, List.length_nil]; omega, fun q hq => by
                rcases List.mem_append.1 hq with hq | hq
                · exact HPB.out q hq
                · rw [List.mem_singleton.1 hq]; exact HCZ.out, HSP.out⟩, by simp [intOf]; omega⟩
            · go_simp
              try simp only [HEX.out]
              generalize hz4 : World.alloc U _ = z4
              have b4 : Below U.heap.size U z4 := by rw [← hz4]; exact below_new _ _
              have q4 := Lib.hid (show z4.heap[U.heap.size]? = some (.cells #[.string (str cc)] 9 (0, 0)) by rw [← hz4]; exact heap_alloc_new _ _)
              have HL4 := Lib.hid (HLU.out.on b4)
              obtain ⟨B4, hB4⟩ : ∃ B4, U.heap.size = B4 := ⟨_, rfl⟩
              rw [hB4] at q4
              try simp only [hB4]
              clear hz4 b4 hB4
              refine hK.out _ _ trivial (fun hHeld2 => ?_)
              clear hK K hHeld
              have hHeld := hHeld2
              clear hHeld2
              try simp only [Act.put, List.setIfInBounds_toArray, List.set_cons_zero, List.set_cons_succ]
              refine wpAnyH_ready (rs := [1]) (by kernel_rfl) (by simp) (AllReadyH.cons (o := { dst := Option.some 100, op := Go.Op.load 22 (Go.Operand.tmp 99), type := 22, pos := "ref.go:176", after := #[{ on := 0, ground := Go.Ground.data }], guard := Option.none }) rfl (fun K hK => ?_) AllReadyH.nil)
              have hc := cell_row (j := 3) HL4.out.mm
              have hlt := row_lt HL4.out.mm
              go_simp
              clear hc hlt
              refine hK.out _ _ trivial (fun hHeld2 => ?_)
              clear hK K hHeld
              have hHeld := hHeld2
              clear hHeld2
              try simp only [Act.put, List.setIfInBounds_toArray, List.set_cons_zero, List.set_cons_succ]
              refine wpAnyH_ready (rs := [8]) (by kernel_rfl) (by simp) (AllReadyH.cons (o := { dst := Option.some 107, op := Go.Op.call { callee := Go.Callee.builtin Go.Builtin.append, args := #[Go.Operand.tmp 100, Go.Operand.tmp 106], argTypes := #[22, 22] }, type := 22, pos := "ref.go:176", after := #[{ on := 1, ground := Go.Ground.data }, { on := 7, ground := Go.Ground.data }], guard := Option.none }) rfl (fun K hK => ?_) AllReadyH.nil)
              try rw [if_pos (by rfl)]
              refine wp_append_strs (.tmp 100) (.tmp 106) rfl (N + 2) v P.length (strsV P) rfl HL4.out.own ⟨B4, 0, none⟩ 1 1 [.string (str cc)] rfl rfl (fun j u hj => by
                have h1 := cell_row (j := j) q4.out
                rw [addr_add, Nat.zero_add, h1]
                simpa using hj) (by simp [Value.oneCell']) (by have := HPL.out; omega) HL4.out.sz ?_
              intro v7 z5 o5 g5
              have HL5 := Lib.hid (HL4.out.grown o5 g5)
              obtain ⟨A7, c7, rfl⟩ := own_sl o5
              clear o5 g5
              refine hK.out _ _ trivial (fun hHeld2 => ?_)
              clear hK K hHeld
              have hHeld := hHeld2
              clear hHeld2
              try simp only [Act.put, List.setIfInBounds_toArray, List.set_cons_zero, List.set_cons_succ]
              refine wpAnyH_take (i := 9) (oi := { dst := Option.some 108, op := Go.Op.fieldAddr 24 (Go.Operand.tmp 4) 3, type := 0, pos := "ref.go:176", after := #[{ on := 0, ground := Go.Ground.phase }, { on := 1, ground := Go.Ground.phase }, { on := 2, ground := Go.Ground.phase }, { on := 3, ground := Go.Ground.phase }, { on := 4, ground := Go.Ground.phase }, { on := 5, ground := Go.Ground.phase }, { on := 6, ground := Go.Ground.phase }, { on := 7, ground := Go.Ground.phase }, { on := 8, ground := Go.Ground.phase }], guard := Option.none }) (v := ?_) rfl (by kernel_rfl) (by kernel_rfl) (by kernel_rfl) (fun _ _ _ h => h) (Or.inl ⟨by rfl, ?_⟩) hHeld ?_
              rotate_left
              · intro w hSw
                clear hSw
                go_simp
                try with_reducible rfl
              try simp only [Act.put, List.setIfInBounds_toArray, List.set_cons_zero, List.set_cons_succ]
              refine wpAnyH_ready (rs := [10]) (by kernel_rfl) (by simp) (AllReadyH.cons (o := { dst := Option.none, op := Go.Op.store 22 (Go.Operand.tmp 108) (Go.Operand.tmp 107), type := 0, pos := "ref.go:176", after := #[{ on := 9, ground := Go.Ground.data }, { on := 8, ground := Go.Ground.data }, { on := 8, ground := Go.Ground.chain }, { on := 0, ground := Go.Ground.phase }, { on := 1, ground := Go.Ground.phase }, { on := 2, ground := Go.Ground.phase }, { on := 3, ground := Go.Ground.phase }, { on := 4, ground := Go.Ground.phase }, { on := 5, ground := Go.Ground.phase }, { on := 6, ground := Go.Ground.phase }, { on := 7, ground := Go.Ground.phase }, { on := 8, ground := Go.Ground.phase }], guard := Option.none }) rfl (fun K hK => ?_) AllReadyH.nil)
              obtain ⟨hz, e0, e1_, e2, e3, e4, f0, f1, f2, f3, f4⟩ := locfacts HL5.out.1
              go_simp
              clear hz e0 e1_ e2 e3 e4 f0 f1 f2 f3 f4
              generalize hz9 : World.setCell z5 _ _ = z9
              have HL9 := Lib.hid (show PB w N S H pt_ (P ++ [cc]) dd (.slice A7 (P.length + 1) c7) z9 by rw [← hz9]; exact HL5.out.2)
              clear hz9
              refine hK.out _ _ trivial (fun hHeld2 => ?_)
              clear hK K hHeld
              have hHeld := hHeld2
              clear hHeld2
              try simp only [Act.put, List.setIfInBounds_toArray, List.set_cons_zero, List.set_cons_succ]
              refine wpAnyH_done (by kernel_rfl) ?_ _
              go_wp2_with fail
              exact ⟨⟨e1, P ++ [cc], dd, _, by omega, by omega, by go_num, HL9.out, by rw [List.length_append]; have := HPL.out; simp only [List.length_cons, List.length_nil]; omega, fun q hq => by
                rcases List.mem_append.1 hq with hq | hq
                · exact HPB.out q hq
                · rw [List.mem_singleton.1 hq]; exact HCZ.out, HSP.out⟩, by simp [intOf]; omega⟩
        · have j1 : ((e1 : Int) == (k : Int) + 1) = false := by rw [beq_eq_false_iff_ne]; omega
          have HSP1 := Lib.hid (HSP0.out (fun h => q1 h.1))
          have HCZ : RowKit.Hid (((s.drop (k + 1)).take (e1 - (k + 1))).length ≤ 1000) := Lib.hid (by rw [List.length_take, List.length_drop]; omega)
          have HEX := Lib.hid (HEX.out e1)
          have HSP := HSP1
          clear HSP0 HSD HSP1
          obtain ⟨cc, hcc⟩ : ∃ cc, (s.drop (k + 1)).take (e1 - (k + 1)) = cc := ⟨_, rfl⟩
          rw [hcc] at HCZ HEX HSP
          clear hcc
          have hki2 : (k : Int) + 1 ≤ (e1 : Int) := by omega
          have hki3 : (e1 : Int) ≤ ((str s).size : Int) := by rw [HZI.out]; omega
          have hwk : IntKind.i64.wrap ((k : Int) + 1) = (k : Int) + 1 := IntWalk.i64_in _ (by omega)
          have hk0 : (0 : Int) ≤ (k : Int) + 1 := by omega
          clear q1
          try clear q2
          go_wp2_with fail
          refine wp_region_held_drew (S := fun _ => True) (by kernel_rfl) trivial (fun hHeld => ?_)
          generalize hU : World.drew V = U at hHeld ⊢
          have HLU := Lib.hid (show PB w N S H pt_ P dd v U by rw [← hU]; exact HB.out.on ⟨rfl, rfl, rfl, Nat.le_refl _, fun _ _ => rfl⟩)
          clear hU
          refine wpAnyH_take (i := 0) (oi := { dst := Option.some 99, op := Go.Op.fieldAddr 24 (Go.Operand.tmp 4) 3, type := 0, pos := "ref.go:176", after := #[], guard := Option.none }) (v := ?_) rfl (by kernel_rfl) (by kernel_rfl) (by kernel_rfl) (fun _ _ _ h => h) (Or.inl ⟨by rfl, ?_⟩) hHeld ?_
          rotate_left
          · intro w hSw
            clear hSw
            go_simp
            try with_reducible rfl
          try simp only [Act.put, List.setIfInBounds_toArray, List.set_cons_zero, List.set_cons_succ]
          refine wpAnyH_take (i := 2) (oi := { dst := Option.some 101, op := Go.Op.move (Go.Operand.tmp 0), type := 9, pos := "ref.go:176", after := #[], guard := Option.none }) (v := ?_) rfl (by kernel_rfl) (by kernel_rfl) (by kernel_rfl) (fun _ _ _ h => h) (Or.inl ⟨by rfl, ?_⟩) hHeld ?_
          rotate_left
          · intro w hSw
            clear hSw
            go_simp
            try with_reducible rfl
          try simp only [Act.put, List.setIfInBounds_toArray, List.set_cons_zero, List.set_cons_succ]
          refine wpAnyH_take (i := 3) (oi := { dst := Option.some 102, op := Go.Op.move (Go.Operand.tmp 5), type := 3, pos := "ref.go:176", after := #[], guard := Option.none }) (v := ?_) rfl (by kernel_rfl) (by kernel_rfl) (by kernel_rfl) (fun _ _ _ h => h) (Or.inl ⟨by rfl, ?_⟩) hHeld ?_
          rotate_left
          · intro w hSw
            clear hSw
            go_simp
            try with_reducible rfl
          try simp only [Act.put, List.setIfInBounds_toArray, List.set_cons_zero, List.set_cons_succ]
          refine wpAnyH_take (i := 4) (oi := { dst := Option.some 103, op := Go.Op.binOp Go.BinOp.add 3 (Go.Operand.tmp 102) (Go.Operand.const (Go.Value.int Go.IntKind.i64 1)) 3, type := 3, pos := "ref.go:176", after := #[{ on := 3, ground := Go.Ground.data }], guard := Option.none }) (v := ?_) rfl (by kernel_rfl) (by kernel_rfl) (by kernel_rfl) (fun _ _ _ h => h) (Or.inl ⟨by rfl, ?_⟩) hHeld ?_
          rotate_left
          · intro w hSw
            clear hSw
            go_simp
            try with_reducible rfl
          try simp only [Act.put, List.setIfInBounds_toArray, List.set_cons_zero, List.set_cons_succ]
          refine wpAnyH_take (i := 5) (oi := { dst := Option.some 104, op := Go.Op.move (Go.Operand.tmp 8), type := 3, pos := "ref.go:176", after := #[], guard := Option.none }) (v := ?_) rfl (by kernel_rfl) (by kernel_rfl) (by kernel_rfl) (fun _ _ _ h => h) (Or.inl ⟨by rfl, ?_⟩) hHeld ?_
          rotate_left
          · intro w hSw
            clear hSw
            go_simp
            try with_reducible rfl
          try simp only [Act.put, List.setIfInBounds_toArray, List.set_cons_zero, List.set_cons_succ]
          refine wpAnyH_take (i := 6) (oi := { dst := Option.some 105, op := Go.Op.slice 9 (Go.Operand.tmp 101) (Option.some (Go.Operand.tmp 103)) (Option.some (Go.Operand.tmp 104)) Option.none, type := 9, pos := "ref.go:176", after := #[{ on := 2, ground := Go.Ground.data }, { on := 4, ground := Go.Ground.data }, { on := 5, ground := Go.Ground.data }], guard := Option.none }) (v := ?_) rfl (by kernel_rfl) (by kernel_rfl) (by kernel_rfl) (fun _ _ _ h => h) (Or.inl ⟨by rfl, ?_⟩) hHeld ?_
          rotate_left
          · intro w hSw
            clear hSw
            go_simp
            try with_reducible rfl
          try simp only [Act.put, List.setIfInBounds_toArray, List.set_cons_zero, List.set_cons_succ]
          refine wpAnyH_ready (rs := [1, 7]) (by kernel_rfl) (by simp) (AllReadyH.cons (o := { dst := Option.some 100, op := Go.Op.load 22 (Go.Operand.tmp 99), type := 22, pos := "ref.go:176", after := #[{ on := 0, ground := Go.Ground.data }], guard := Option.none }) rfl (fun K hK => ?_) (AllReadyH.cons (o := { dst := Option.some 106, op := Go.Op.buildSlice 22 1 #[(0, Go.Operand.tmp 105)], type := 22, pos := "ref.go:176", after := #[{ on := 6, ground := Go.Ground.data }], guard := Option.none }) rfl (fun K hK => ?_) AllReadyH.nil))
          · have hc := cell_row (j := 3) HLU.out.mm
            have hlt := row_lt HLU.out.mm
            go_simp
            clear hc hlt
            refine hK.out _ _ trivial (fun hHeld2 => ?_)
            clear hK K hHeld
            have hHeld := hHeld2
            clear hHeld2
            try simp only [Act.put, List.setIfInBounds_toArray, List.set_cons_zero, List.set_cons_succ]
            refine wpAnyH_ready (rs := [7]) (by kernel_rfl) (by simp) (AllReadyH.cons (o := { dst := Option.some 106, op := Go.Op.buildSlice 22 1 #[(0, Go.Operand.tmp 105)], type := 22, pos := "ref.go:176", after := #[{ on := 6, ground := Go.Ground.data }], guard := Option.none }) rfl (fun K hK => ?_) AllReadyH.nil)
            go_simp
            try simp only [HEX.out]
            generalize hz4 : World.alloc U _ = z4
            have b4 : Below U.heap.size U z4 := by rw [← hz4]; exact below_new _ _
            have q4 := Lib.hid (show z4.heap[U.heap.size]? = some (.cells #[.string (str cc)] 9 (0, 0)) by rw [← hz4]; exact heap_alloc_new _ _)
            have HL4 := Lib.hid (HLU.out.on b4)
            obtain ⟨B4, hB4⟩ : ∃ B4, U.heap.size = B4 := ⟨_, rfl⟩
            rw [hB4] at q4
            try simp only [hB4]
            clear hz4 b4 hB4
            refine hK.out _ _ trivial (fun hHeld2 => ?_)
            clear hK K hHeld
            have hHeld := hHeld2
            clear hHeld2
            try simp only [Act.put, List.setIfInBounds_toArray, List.set_cons_zero, List.set_cons_succ]
            refine wpAnyH_ready (rs := [8]) (by kernel_rfl) (by simp) (AllReadyH.cons (o := { dst := Option.some 107, op := Go.Op.call { callee := Go.Callee.builtin Go.Builtin.append, args := #[Go.Operand.tmp 100, Go.Operand.tmp 106], argTypes := #[22, 22] }, type := 22, pos := "ref.go:176", after := #[{ on := 1, ground := Go.Ground.data }, { on := 7, ground := Go.Ground.data }], guard := Option.none }) rfl (fun K hK => ?_) AllReadyH.nil)
            try rw [if_pos (by rfl)]
            refine wp_append_strs (.tmp 100) (.tmp 106) rfl (N + 2) v P.length (strsV P) rfl HL4.out.own ⟨B4, 0, none⟩ 1 1 [.string (str cc)] rfl rfl (fun j u hj => by
              have h1 := cell_row (j := j) q4.out
              rw [addr_add, Nat.zero_add, h1]
              simpa using hj) (by simp [Value.oneCell']) (by have := HPL.out; omega) HL4.out.sz ?_
            intro v7 z5 o5 g5
            have HL5 := Lib.hid (HL4.out.grown o5 g5)
            obtain ⟨A7, c7, rfl⟩ := own_sl o5
            clear o5 g5
            refine hK.out _ _ trivial (fun hHeld2 => ?_)
            clear hK K hHeld
            have hHeld := hHeld2
            clear hHeld2
            try simp only [Act.put, List.setIfInBounds_toArray, List.set_cons_zero, List.set_cons_succ]
            refine wpAnyH_take (i := 9) (oi := { dst := Option.some 108, op := Go.Op.fieldAddr 24 (Go.Operand.tmp 4) 3, type := 0, pos := "ref.go:176", after := #[{ on := 0, ground := Go.Ground.phase }, { on := 1, ground := Go.Ground.phase }, { on := 2, ground := Go.Ground.phase }, { on := 3, ground := Go.Ground.phase }, { on := 4, ground := Go.Ground.phase }, { on := 5, ground := Go.Ground.phase }, { on := 6, ground := Go.Ground.phase }, { on := 7, ground := Go.Ground.phase }, { on := 8, ground := Go.Ground.phase }], guard := Option.none }) (v := ?_) rfl (by kernel_rfl) (by kernel_rfl) (by kernel_rfl) (fun _ _ _ h => h) (Or.inl ⟨by rfl, ?_⟩) hHeld ?_
            rotate_left
            · intro w hSw
              clear hSw
              go_simp
              try with_reducible rfl
            try simp only [Act.put, List.setIfInBounds_toArray, List.set_cons_zero, List.set_cons_succ]
            refine wpAnyH_ready (rs := [10]) (by kernel_rfl) (by simp) (AllReadyH.cons (o := { dst := Option.none, op := Go.Op.store 22 (Go.Operand.tmp 108) (Go.Operand.tmp 107), type := 0, pos := "ref.go:176", after := #[{ on := 9, ground := Go.Ground.data }, { on := 8, ground := Go.Ground.data }, { on := 8, ground := Go.Ground.chain }, { on := 0, ground := Go.Ground.phase }, { on := 1, ground := Go.Ground.phase }, { on := 2, ground := Go.Ground.phase }, { on := 3, ground := Go.Ground.phase }, { on := 4, ground := Go.Ground.phase }, { on := 5, ground := Go.Ground.phase }, { on := 6, ground := Go.Ground.phase }, { on := 7, ground := Go.Ground.phase }, { on := 8, ground := Go.Ground.phase }], guard := Option.none }) rfl (fun K hK => ?_) AllReadyH.nil)
            obtain ⟨hz, e0, e1_, e2, e3, e4, f0, f1, f2, f3, f4⟩ := locfacts HL5.out.1
            go_simp
            clear hz e0 e1_ e2 e3 e4 f0 f1 f2 f3 f4
            generalize hz9 : World.setCell z5 _ _ = z9
            have HL9 := Lib.hid (show PB w N S H pt_ (P ++ [cc]) dd (.slice A7 (P.length + 1) c7) z9 by rw [← hz9]; exact HL5.out.2)
            clear hz9
            refine hK.out _ _ trivial (fun hHeld2 => ?_)
            clear hK K hHeld
            have hHeld := hHeld2
            clear hHeld2
            try simp only [Act.put, List.setIfInBounds_toArray, List.set_cons_zero, List.set_cons_succ]
            refine wpAnyH_done (by kernel_rfl) ?_ _
            go_wp2_with fail
            exact ⟨⟨e1, P ++ [cc], dd, _, by omega, by omega, by go_num, HL9.out, by rw [List.length_append]; have := HPL.out; simp only [List.length_cons, List.length_nil]; omega, fun q hq => by
              rcases List.mem_append.1 hq with hq | hq
              · exact HPB.out q hq
              · rw [List.mem_singleton.1 hq]; exact HCZ.out, HSP.out⟩, by simp [intOf]; omega⟩
          · go_simp
            try simp only [HEX.out]
            generalize hz4 : World.alloc U _ = z4
            have b4 : Below U.heap.size U z4 := by rw [← hz4]; exact below_new _ _
            have q4 := Lib.hid (show z4.heap[U.heap.size]? = some (.cells #[.string (str cc)] 9 (0, 0)) by rw [← hz4]; exact heap_alloc_new _ _)
            have HL4 := Lib.hid (HLU.out.on b4)
            obtain ⟨B4, hB4⟩ : ∃ B4, U.heap.size = B4 := ⟨_, rfl⟩
            rw [hB4] at q4
            try simp only [hB4]
            clear hz4 b4 hB4
            refine hK.out _ _ trivial (fun hHeld2 => ?_)
            clear hK K hHeld
            have hHeld := hHeld2
            clear hHeld2
            try simp only [Act.put, List.setIfInBounds_toArray, List.set_cons_zero, List.set_cons_succ]
            refine wpAnyH_ready (rs := [1]) (by kernel_rfl) (by simp) (AllReadyH.cons (o := { dst := Option.some 100, op := Go.Op.load 22 (Go.Operand.tmp 99), type := 22, pos := "ref.go:176", after := #[{ on := 0, ground := Go.Ground.data }], guard := Option.none }) rfl (fun K hK => ?_) AllReadyH.nil)
            have hc := cell_row (j := 3) HL4.out.mm
            have hlt := row_lt HL4.out.mm
            go_simp
            clear hc hlt
            refine hK.out _ _ trivial (fun hHeld2 => ?_)
            clear hK K hHeld
            have hHeld := hHeld2
            clear hHeld2
            try simp only [Act.put, List.setIfInBounds_toArray, List.set_cons_zero, List.set_cons_succ]
            refine wpAnyH_ready (rs := [8]) (by kernel_rfl) (by simp) (AllReadyH.cons (o := { dst := Option.some 107, op := Go.Op.call { callee := Go.Callee.builtin Go.Builtin.append, args := #[Go.Operand.tmp 100, Go.Operand.tmp 106], argTypes := #[22, 22] }, type := 22, pos := "ref.go:176", after := #[{ on := 1, ground := Go.Ground.data }, { on := 7, ground := Go.Ground.data }], guard := Option.none }) rfl (fun K hK => ?_) AllReadyH.nil)
            try rw [if_pos (by rfl)]
            refine wp_append_strs (.tmp 100) (.tmp 106) rfl (N + 2) v P.length (strsV P) rfl HL4.out.own ⟨B4, 0, none⟩ 1 1 [.string (str cc)] rfl rfl (fun j u hj => by
              have h1 := cell_row (j := j) q4.out
              rw [addr_add, Nat.zero_add, h1]
              simpa using hj) (by simp [Value.oneCell']) (by have := HPL.out; omega) HL4.out.sz ?_
            intro v7 z5 o5 g5
            have HL5 := Lib.hid (HL4.out.grown o5 g5)
            obtain ⟨A7, c7, rfl⟩ := own_sl o5
            clear o5 g5
            refine hK.out _ _ trivial (fun hHeld2 => ?_)
            clear hK K hHeld
            have hHeld := hHeld2
            clear hHeld2
            try simp only [Act.put, List.setIfInBounds_toArray, List.set_cons_zero, List.set_cons_succ]
            refine wpAnyH_take (i := 9) (oi := { dst := Option.some 108, op := Go.Op.fieldAddr 24 (Go.Operand.tmp 4) 3, type := 0, pos := "ref.go:176", after := #[{ on := 0, ground := Go.Ground.phase }, { on := 1, ground := Go.Ground.phase }, { on := 2, ground := Go.Ground.phase }, { on := 3, ground := Go.Ground.phase }, { on := 4, ground := Go.Ground.phase }, { on := 5, ground := Go.Ground.phase }, { on := 6, ground := Go.Ground.phase }, { on := 7, ground := Go.Ground.phase }, { on := 8, ground := Go.Ground.phase }], guard := Option.none }) (v := ?_) rfl (by kernel_rfl) (by kernel_rfl) (by kernel_rfl) (fun _ _ _ h => h) (Or.inl ⟨by rfl, ?_⟩) hHeld ?_
            rotate_left
            · intro w hSw
              clear hSw
              go_simp
              try with_reducible rfl
            try simp only [Act.put, List.setIfInBounds_toArray, List.set_cons_zero, List.set_cons_succ]
            refine wpAnyH_ready (rs := [10]) (by kernel_rfl) (by simp) (AllReadyH.cons (o := { dst := Option.none, op := Go.Op.store 22 (Go.Operand.tmp 108) (Go.Operand.tmp 107), type := 0, pos := "ref.go:176", after := #[{ on := 9, ground := Go.Ground.data }, { on := 8, ground := Go.Ground.data }, { on := 8, ground := Go.Ground.chain }, { on := 0, ground := Go.Ground.phase }, { on := 1, ground := Go.Ground.phase }, { on := 2, ground := Go.Ground.phase }, { on := 3, ground := Go.Ground.phase }, { on := 4, ground := Go.Ground.phase }, { on := 5, ground := Go.Ground.phase }, { on := 6, ground := Go.Ground.phase }, { on := 7, ground := Go.Ground.phase }, { on := 8, ground := Go.Ground.phase }], guard := Option.none }) rfl (fun K hK => ?_) AllReadyH.nil)
            obtain ⟨hz, e0, e1_, e2, e3, e4, f0, f1, f2, f3, f4⟩ := locfacts HL5.out.1
            go_simp
            clear hz e0 e1_ e2 e3 e4 f0 f1 f2 f3 f4
            generalize hz9 : World.setCell z5 _ _ = z9
            have HL9 := Lib.hid (show PB w N S H pt_ (P ++ [cc]) dd (.slice A7 (P.length + 1) c7) z9 by rw [← hz9]; exact HL5.out.2)
            clear hz9
            refine hK.out _ _ trivial (fun hHeld2 => ?_)
            clear hK K hHeld
            have hHeld := hHeld2
            clear hHeld2
            try simp only [Act.put, List.setIfInBounds_toArray, List.set_cons_zero, List.set_cons_succ]
            refine wpAnyH_done (by kernel_rfl) ?_ _
            go_wp2_with fail
            exact ⟨⟨e1, P ++ [cc], dd, _, by omega, by omega, by go_num, HL9.out, by rw [List.length_append]; have := HPL.out; simp only [List.length_cons, List.length_nil]; omega, fun q hq => by
              rcases List.mem_append.1 hq with hq | hq
              · exact HPB.out q hq
              · rw [List.mem_singleton.1 hq]; exact HCZ.out, HSP.out⟩, by simp [intOf]; omega⟩
      · have hki : ((str s).size : Int) ≤ (k : Int) := by rw [str_size]; omega
        have hkk : k = s.length := by omega
        have HE : RowKit.Hid (∀ l, parseL s = some l → l = ⟨S, H, pt_, P, dd⟩) := Lib.hid (fun l hl => by
          have h1 := HSO.out l hl
          rw [hkk, List.drop_length] at h1
          obtain ⟨h2, h3⟩ := sofar_end h1
          obtain ⟨h4, h5, h6⟩ := HLP.out l hl
          cases l
          simp only at h2 h3 h4 h5 h6
          subst h2 h3 h4 h5 h6
          rfl)
        obtain ⟨A, c, rfl⟩ := own_sl HB.out.own
        have HAT := Lib.hid (show LocAt ⟨S, H, pt_, P, dd⟩ A c V from ⟨HSS.out, HHL.out, (own_strs HB.out.own).1, (own_strs HB.out.own).2, fun q hq => by have := HPB.out q hq; omega⟩)
        have HC := Lib.hid (fun (V' : World) (hb : Below V.heap.size V V') => rcheck_any ⟨S, H, pt_, P, dd⟩ A c V' (HAT.out.on hb))
        have HW := Lib.hid (fun (V' : World) (hb : Below V.heap.size V V') (h0 : chk ⟨S, H, pt_, P, dd⟩ = 0) => show Calls Tryd.prog 34 #[locV ⟨S, H, pt_, P, dd⟩ A c] V' (fun e w' => e = .returned (.string (str (wrL ⟨S, H, pt_, P, dd⟩))) ∧ Below V'.heap.size V' w') from by
          have g := (chk_zero h0).1
          exact write_any S H pt_ A P c dd V' g.sch (host_len g.host) g.p0 g.p1 (HAT.out.on hb).parts (chk_zero h0).2.1 (fun q hq => name_len (g.names q hq)) HAT.out.cap)
        have HYES : RowKit.Hid (chk ⟨S, H, pt_, P, dd⟩ = 0 → wrL ⟨S, H, pt_, P, dd⟩ = s → parseL s = some ⟨S, H, pt_, P, dd⟩) := Lib.hid (fun h1 h2 => (parse_iff s _).2 ⟨h1, h2⟩)
        have HNO : RowKit.Hid (¬ (chk ⟨S, H, pt_, P, dd⟩ = 0 ∧ wrL ⟨S, H, pt_, P, dd⟩ = s) → parseL s = none) := Lib.hid (fun h => HNO0.out (fun l hl => h (by have e := HE.out l hl; subst e; exact (parse_iff s _).1 hl)))
        unfold locV at HC HW
        simp only at HC HW
        generalize chk ⟨S, H, pt_, P, dd⟩ = CK at HC HW HYES HNO
        generalize wrL ⟨S, H, pt_, P, dd⟩ = WR at HW HYES HNO
        clear HE hkk
        obtain ⟨hz, m0, m1, m2, m3, m4, -, -, -, -, -⟩ := locfacts HB.out.mm
        by_cases h0 : CK = 0
        · subst h0
          go_wp2_with fail
          refine (HC.out V (Below.refl _ _)).mono ?_
          rintro e v5 ⟨rfl, hb⟩
          have HB5 := Lib.hid (HB.out.on hb)
          have HBB5 := Lib.hid hb
          clear hz m0 m1 m2 m3 m4 hb
          obtain ⟨hz, m0, m1, m2, m3, m4, -, -, -, -, -⟩ := locfacts HB5.out.mm
          go_wp2_with fail
          refine (HW.out v5 HBB5.out (by first | rfl | trivial)).mono ?_
          rintro e v6 ⟨rfl, hb⟩
          have HB6 := Lib.hid (HB5.out.on hb)
          have HAT6 := Lib.hid (HAT.out.on (HBB5.out.trans (hb.mono HBB5.out.size)))
          clear hz m0 m1 m2 m3 m4 hb
          by_cases hw : WR = s
          · have HPS := Lib.hid (HYES.out (by first | rfl | trivial) hw)
            have iw : ((str WR).toList != (str s).toList) = false := by rw [hw]; simp
            have iw2 : ((str WR).toList == (str s).toList) = true := by rw [hw]; exact beq_self_eq_true _
            clear hw HYES HNO
            obtain ⟨hz, m0, m1, m2, m3, m4, -, -, -, -, -⟩ := locfacts HB6.out.mm
            obtain ⟨gz, g0, g1, g2, g3, g4, k0, k1, k2, k3, k4⟩ := locfacts (a := .int .u8 0) (b := .string ⟨#[]⟩) (c := .int .i64 0) (d := .slice none 0 0) (e := .bool false) HB6.out.hN
            go_wp2_with fail
            have B := five_row (v0 := .int .u8 S) (v1 := .string (str H)) (v2 := .int .i64 pt_) (v3 := .slice A P.length c) (v4 := .bool dd) (a := .int .u8 0) (b := .string ⟨#[]⟩) (c := .int .i64 0) (d := .slice none 0 0) (e := .bool false) HB6.out.hN
            have HBX := Lib.hid (below_at5 HB6.out.bl (Nat.le_refl _) (.int .u8 S) (.string (str H)) (.int .i64 pt_) (.slice A P.length c) (.bool dd))
            have HOX := Lib.hid (own_set5 (g := N) (b := N + 1) (Nat.lt_succ_self N) (own_mono HB6.out.own (Nat.le_succ _)) (.int .u8 S) (.string (str H)) (.int .i64 pt_) (.slice A P.length c) (.bool dd))
            generalize hfin : World.setCell (World.setCell (World.setCell (World.setCell (World.setCell _ _ _) _ _) _ _) _ _) _ _ = fin at B HBX HOX ⊢
            clear hfin
            obtain ⟨-, b0, b1, b2, b3, b4, -, -, -, -, -⟩ := locfacts B
            refine bodyPost_ret (v := .tuple #[.agg #[.int .u8 S, .string (str H), .int .i64 pt_, .slice A P.length c, .bool dd], .int .i64 0]) (by simp [results, Tryd.results17, go_sem, b0, b1, b2, b3, b4]) rfl (good_post HPS.out HAT6.out (by rw [HNN.out]; exact HOX.out) (by rw [HNN.out]; exact HBX.out))
          · have HPN := Lib.hid (HNO.out (fun h => hw h.2))
            have iw2 : ((str WR).toList == (str s).toList) = false := by
              rw [eqS, str_dat, ByteArray.toList_eq, str_dat]
              exact decide_eq_false hw
            have iw : ((str WR).toList != (str s).toList) = true := by
              show (!((str WR).toList == (str s).toList)) = true
              rw [iw2]
              rfl
            clear hw HYES HNO
            obtain ⟨gz, g0, g1, g2, g3, g4, k0, k1, k2, k3, k4⟩ := locfacts (a := .int .u8 0) (b := .string ⟨#[]⟩) (c := .int .i64 0) (d := .slice none 0 0) (e := .bool false) HB6.out.hN
            go_wp2_with fail
            have B := five_row (v0 := .int .u8 0) (v1 := .string ⟨#[]⟩) (v2 := .int .i64 0) (v3 := .slice none 0 0) (v4 := .bool false) (a := .int .u8 0) (b := .string ⟨#[]⟩) (c := .int .i64 0) (d := .slice none 0 0) (e := .bool false) HB6.out.hN
            have HBX := Lib.hid (below_at5 HB6.out.bl (Nat.le_refl _) (.int .u8 0) (.string ⟨#[]⟩) (.int .i64 0) (.slice none 0 0) (.bool false))
            generalize hfin : World.setCell (World.setCell (World.setCell (World.setCell (World.setCell _ _ _) _ _) _ _) _ _) _ _ = fin at B HBX ⊢
            clear hfin
            obtain ⟨-, b0, b1, b2, b3, b4, -, -, -, -, -⟩ := locfacts B
            refine bodyPost_ret (v := .tuple #[.agg #[.int .u8 0, .string ⟨#[]⟩, .int .i64 0, .slice none 0 0, .bool false], .int .i64 12]) (by simp [results, Tryd.results17, go_sem, b0, b1, b2, b3, b4]) rfl (bad_post HPN.out (by rw [HNN.out]; exact HBX.out))
        · have ic : (CK != 0) = true := by rw [bne_iff_ne]; exact h0
          have HPN := Lib.hid (HNO.out (fun h => h0 h.1))
          clear h0 HYES HNO
          go_wp2_with fail
          refine (HC.out V (Below.refl _ _)).mono ?_
          rintro e v5 ⟨rfl, hb⟩
          have HB5 := Lib.hid (HB.out.on hb)
          clear hz m0 m1 m2 m3 m4 hb
          obtain ⟨gz, g0, g1, g2, g3, g4, k0, k1, k2, k3, k4⟩ := locfacts (a := .int .u8 0) (b := .string ⟨#[]⟩) (c := .int .i64 0) (d := .slice none 0 0) (e := .bool false) HB5.out.hN
          go_wp2_with fail
          have B := five_row (v0 := .int .u8 0) (v1 := .string ⟨#[]⟩) (v2 := .int .i64 0) (v3 := .slice none 0 0) (v4 := .bool false) (a := .int .u8 0) (b := .string ⟨#[]⟩) (c := .int .i64 0) (d := .slice none 0 0) (e := .bool false) HB5.out.hN
          have HBX := Lib.hid (below_at5 HB5.out.bl (Nat.le_refl _) (.int .u8 0) (.string ⟨#[]⟩) (.int .i64 0) (.slice none 0 0) (.bool false))
          generalize hfin : World.setCell (World.setCell (World.setCell (World.setCell (World.setCell _ _ _) _ _) _ _) _ _) _ _ = fin at B HBX ⊢
          clear hfin
          obtain ⟨-, b0, b1, b2, b3, b4, -, -, -, -, -⟩ := locfacts B
          refine bodyPost_ret (v := .tuple #[.agg #[.int .u8 0, .string ⟨#[]⟩, .int .i64 0, .slice none 0 0, .bool false], .int .i64 12]) (by simp [results, Tryd.results17, go_sem, b0, b1, b2, b3, b4]) rfl (bad_post HPN.out (by rw [HNN.out]; exact HBX.out))
end Go.Proofs.YthagoafcphaadaaDoor
