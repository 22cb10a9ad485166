/-
  THE WALK over the reference's reading in base64.
-/
import Derived.Test.YtjgebpgdiinmbaaDigTxD
namespace Go.Proofs.Ytjgebpgdiinmbaa
open Go.RowKit Sha
set_option linter.unusedVariables false
set_option linter.unusedSimpArgs false
theorem bt_lt (N i : Nat) : bt N i < 256 := by
  unfold bt
  split <;> omega
theorem finB_no {N p i : Nat} {rest : Option (List UInt8)} (h1 : 3 - p ≤ i) (h2 : i < 3) (hp : p ≤ 2) (h : bt N i ≠ 0) : finB N p rest = none := by
  unfold finB
  rw [if_neg]
  intro e
  obtain rfl | rfl : i = 1 ∨ i = 2 := by omega
  · exact h (e.1 (by omega))
  · exact h (e.2 (by omega))
theorem finB_yes {N p : Nat} {rest : Option (List UInt8)} (hp : p ≤ 2) (h : ∀ i, 3 - p ≤ i → i < 3 → bt N i = 0) : finB N p rest = rest.map fun l => (bytes3 N).take (3 - p) ++ l := by
  unfold finB
  rw [if_pos ⟨fun e => h 1 (by omega) (by omega), fun e => h 2 (by omega) (by omega)⟩]
set_option maxRecDepth 100000 in
set_option maxHeartbeats 8000000 in
theorem rfb_any (s : ByteArray) (hl : s.size ≤ 100000) (w : World) :
    Calls Try.prog 7 #[.string s] w fun e w' => ∃ v, e = .returned (.tuple #[v, .int .i64 (erR (rfb s.data.toList))]) ∧ OwnR w' w.heap.size v (rfb s.data.toList) ∧ Below w.heap.size w w' := by
  obtain ⟨R, hR⟩ : ∃ R, rfb s.data.toList = R := ⟨_, rfl⟩
  rw [hR]
  have hp : ∀ (c : UInt8) (w : World), Calls Try.prog 15 #[.string ⟨#[65, 66, 67, 68, 69, 70, 71, 72, 73, 74, 75, 76, 77, 78, 79, 80, 81, 82, 83, 84, 85, 86, 87, 88, 89, 90, 97, 98, 99, 100, 101, 102, 103, 104, 105, 106, 107, 108, 109, 110, 111, 112, 113, 114, 115, 116, 117, 118, 119, 120, 121, 122, 48, 49, 50, 51, 52, 53, 54, 55, 56, 57, 43, 47]⟩, .int .u8 (c.toNat : Int)] w fun e w' => e = .returned (.int .i64 (dv b64L c)) ∧ w' = w := fun c w => place_x b64L (by decide) c w
  have HR := Lib.hid hR
  have HP := Lib.hid hp
  obtain ⟨i0, hi, hz0, hz1, hz2⟩ := info_parts Try.info_byte
  clear hR hp
  by_cases hodd : s.size % 4 = 0
  · have hm : ((s.size : Int) % 4 != 0) = false := by rw [bne_eq_false_iff_eq]; omega
    have HM4 := Lib.hid hodd
    clear hodd
    go_enter Try.func7, Try.ntmps7
    go_wp2_with fail
    go_loopw [4, 5] (fun v i wr => ∃ (K : Nat) (done : List UInt8), K ≤ s.size ∧ i = .int .i64 (K : Int) ∧ RowKit.Hid (K % 4 = 0 ∧ done.length ≤ K) ∧ RowKit.Hid (R = (rfb (s.data.toList.drop K)).map (fun l => done ++ l)) ∧ RowKit.Hid (wr.ownsRow w.heap.size 5 1 v done.length (bvals done)) ∧ RowKit.Hid (Below w.heap.size w wr)) (fun _ i _ => s.size - (intOf i).toNat)
    case atStart => exact ⟨0, [], by omega, rfl, Lib.hid ⟨rfl, Nat.le_refl _⟩, Lib.hid (by rw [← HR.out]; simp), Lib.hid ⟨rfl, Or.inl ⟨rfl, rfl⟩⟩, Lib.hid (Below.refl _ _)⟩
    case round =>
      obtain ⟨K, done, hk, rfl, HK, HD, HO, HB⟩ := hrel
      clear HR
      by_cases hlt : K < s.size
      · have hki : (K : Int) < (s.size : Int) := by omega
        have hK4 : K + 4 ≤ s.size := by have := HK.out.1; have := HM4.out; omega
        obtain ⟨Q, hQ⟩ : ∃ Q : List UInt8, Q = (s.data.toList.drop K).take 4 := ⟨_, rfl⟩
        obtain ⟨r, hr⟩ : ∃ r, s.data.toList.drop (K + 4) = r := ⟨_, rfl⟩
        have hrl : r = [] ↔ (K : Int) + 4 = (s.size : Int) := by
          rw [← hr, List.drop_eq_nil_iff]
          have : s.data.toList.length = s.size := by simp
          omega
        have hQl : Q.length = 4 := by rw [hQ, List.length_take, List.length_drop]; have : s.data.toList.length = s.size := by simp
                                      omega
        have hQj : ∀ j (h : j < 4), Q[j]? = some (s[K + j]'(by omega)) := fun j h => by
          rw [hQ, List.getElem?_take, if_pos h, List.getElem?_drop, List.getElem?_eq_getElem (by simp; omega)]
          rfl
        have hd : R = (cB (r = []) (rfb r) Q 0 0 0).map (fun l => done ++ l) := by
          rw [HD.out]
          have e : s.data.toList.drop K = Q ++ r := by rw [hQ, ← hr, ← List.drop_drop, List.take_append_drop]
          rw [e]
          match Q, hQl with
          | [a, b, c, d], _ => rw [← cB_eq]; rfl
        have HRL := Lib.hid hrl
        have HQJ := Lib.hid hQj
        have HQL := Lib.hid hQl
        have HR4 := Lib.hid hr
        have HD0 := Lib.hid hd
        clear hQ hr hrl hQl hQj hd HD
        go_wp2_with fail
        go_loopw [6, 7, 8] (fun n p i wz => ∃ (j N pd : Nat), j ≤ 4 ∧ i = .int .i64 (j : Int) ∧ n = .int .i64 (N : Int) ∧ p = .int .i64 (pd : Int) ∧ N < 64 ^ j ∧ (pd = 0 ∨ (pd + 2 ≤ j ∧ RowKit.Hid (r = []))) ∧ RowKit.Hid (R = (cB (r = []) (rfb r) (Q.drop j) j N pd).map (fun l => done ++ l)) ∧ RowKit.Hid (wz.ownsRow w.heap.size 5 1 u4 done.length (bvals done)) ∧ RowKit.Hid (Below w.heap.size w wz)) (fun _ _ i _ => 4 - (intOf i).toNat)
        case atStart => exact ⟨0, 0, 0, by omega, rfl, rfl, rfl, by decide, Or.inl rfl, HD0, HO, HB⟩
        case round =>
          clear HD0 HO HB
          obtain ⟨j, N, pd, hj, rfl, rfl, rfl, hN, hpd, HD, HO, HB⟩ := hrel
          have hN4 : N < 16777216 := Nat.lt_of_lt_of_le hN (Nat.le_trans (Nat.pow_le_pow_right (by omega) hj) (by decide))
          have hpd2 : pd ≤ 2 := by rcases hpd with h | h <;> omega
          by_cases hj4 : j < 4
          · have hN3 : N < 262144 := Nat.lt_of_lt_of_le hN (Nat.le_trans (Nat.pow_le_pow_right (n := 64) (i := j) (j := 3) (by omega) (by omega)) (by decide))
            have hji : (j : Int) < 4 := by omega
            have hNs : ∀ x, x < 64 → N * 64 + x < 64 ^ (j + 1) := fun x hx => by rw [Nat.pow_succ]; omega
            obtain ⟨c, hc⟩ : ∃ c, s[K + j]'(by omega) = c := ⟨_, rfl⟩
            have hidx := run_index_s s ((K : Int) + (j : Int)) (K + j) (by omega) (by omega)
            have hqc := HQJ.out j hj4
            rw [hc] at hidx hqc
            have hqd : Q.drop j = c :: Q.drop (j + 1) := by
              obtain ⟨hlt2, e⟩ := List.getElem?_eq_some_iff.1 hqc
              rw [List.drop_eq_getElem_cons hlt2, e]
            have hdd := HD.out
            rw [hqd] at hdd
            have HPC := Lib.hid (fun w => HP.out c w)
            have hwKj : IntKind.i64.wrap ((K : Int) + (j : Int)) = ((K + j : Nat) : Int) := IntWalk.i64_in _ (by omega)
            have HDD := Lib.hid hdd
            have HNS := Lib.hid hNs
            clear hc hqc hqd hdd hN hNs
            by_cases hc61 : c = 61
            · have hb61 : ((c.toNat : Int) == 61) = true := by rw [hc61]; rfl
              have hneg : dv b64L c < 0 := by rw [hc61]; exact dv_pad
              obtain ⟨x, hx⟩ : ∃ x, dv b64L c = x := ⟨_, rfl⟩
              rw [hx] at HPC hneg
              have HX := Lib.hid hx
              clear hx
              by_cases hj1 : 1 < j
              · have hj1i : (1 : Int) < (j : Int) := by omega
                by_cases hlast : (K : Int) + 4 = (s.size : Int)
                · have hlb : ((K : Int) + 4 == (s.size : Int)) = true := by rw [beq_iff_eq]; exact hlast
                  have hnew := HDD.out
                  rw [cB_pad ⟨hc61, hj1, HRL.out.2 hlast⟩] at hnew
                  have HNEW := Lib.hid hnew
                  have HNIL := Lib.hid (HRL.out.2 hlast)
                  clear hnew hc61 hlast
                  go_wp2_with fail
                  refine (HPC.out _).mono ?_
                  rintro e w9 ⟨rfl, rfl⟩
                  go_wp2_with fail
                  refine ⟨⟨j + 1, N * 64, pd + 1, by omega, by go_num, by go_num, by go_num, HNS.out 0 (by omega), Or.inr ⟨by rcases hpd with h | h <;> omega, HNIL⟩, HNEW, HO, HB⟩, by simp [intOf]; omega⟩
                · have hlb : ((K : Int) + 4 == (s.size : Int)) = false := by rw [beq_eq_false_iff_ne]; exact hlast
                  have hno : R = none := by
                    rw [HDD.out, cB_err (fun e => hlast (HRL.out.1 e.2.2)) (Or.inr (by rw [HX.out]; exact hneg))]
                    rfl
                  have HNO := Lib.hid hno
                  clear hno hc61 hlast
                  by_cases hpp : 0 < pd
                  · have hpi : (0 : Int) < (pd : Int) := by omega
                    go_wp2_with fail
                    refine (HPC.out _).mono ?_
                    rintro e w9 ⟨rfl, rfl⟩
                    go_wp2_with fail
                    go_ret2
                    rw [HNO.out]
                    exact ⟨_, rfl, rfl, HB.out⟩
                  · have hpi : ¬ (0 : Int) < (pd : Int) := by omega
                    go_wp2_with fail
                    refine (HPC.out _).mono ?_
                    rintro e w9 ⟨rfl, rfl⟩
                    go_wp2_with fail
                    go_ret2
                    rw [HNO.out]
                    exact ⟨_, rfl, rfl, HB.out⟩
              · have hj1i : ¬ (1 : Int) < (j : Int) := by omega
                have hno : R = none := by
                  rw [HDD.out, cB_err (fun e => hj1 e.2.1) (Or.inr (by rw [HX.out]; exact hneg))]
                  rfl
                have HNO := Lib.hid hno
                clear hno hc61
                have hpi : ¬ (0 : Int) < (pd : Int) := by rcases hpd with h | h <;> omega
                go_wp2_with fail
                refine (HPC.out _).mono ?_
                rintro e w9 ⟨rfl, rfl⟩
                go_wp2_with fail
                go_ret2
                rw [HNO.out]
                exact ⟨_, rfl, rfl, HB.out⟩
            · have hb61 : ((c.toNat : Int) == 61) = false := by
                rw [beq_eq_false_iff_ne]
                intro e
                exact hc61 (UInt8.toNat_inj.1 (by have : (61 : UInt8).toNat = 61 := rfl
                                                  omega))
              obtain ⟨x, hx⟩ : ∃ x, dv b64L c = x := ⟨_, rfl⟩
              have hx64 : x < 64 := by rw [← hx]; exact dv_lt b64L c
              rw [hx] at HPC
              by_cases hpp : 0 < pd
              · have hno : R = none := by
                  rw [HDD.out, cB_err (fun e => hc61 e.1) (Or.inl hpp)]
                  rfl
                have HNO := Lib.hid hno
                have hpi : (0 : Int) < (pd : Int) := by omega
                clear hno hc61 hx
                go_wp2_with fail
                refine (HPC.out _).mono ?_
                rintro e w9 ⟨rfl, rfl⟩
                go_wp2_with fail
                go_ret2
                rw [HNO.out]
                exact ⟨_, rfl, rfl, HB.out⟩
              · have hpi : ¬ (0 : Int) < (pd : Int) := by omega
                by_cases hneg : x < 0
                · have hno : R = none := by
                    rw [HDD.out, cB_err (fun e => hc61 e.1) (Or.inr (by rw [hx]; exact hneg))]
                    rfl
                  have HNO := Lib.hid hno
                  clear hno hc61 hx
                  go_wp2_with fail
                  refine (HPC.out _).mono ?_
                  rintro e w9 ⟨rfl, rfl⟩
                  go_wp2_with fail
                  go_ret2
                  rw [HNO.out]
                  exact ⟨_, rfl, rfl, HB.out⟩
                · have hnew := HDD.out
                  rw [cB_go (fun e => hc61 e.1) (by rw [hx]; omega), hx] at hnew
                  obtain ⟨d, rfl⟩ := Int.eq_ofNat_of_zero_le (show 0 ≤ x by omega)
                  rw [Int.toNat_natCast] at hnew
                  have HNEW := Lib.hid hnew
                  clear hnew hc61 hx
                  go_wp2_with fail
                  refine (HPC.out _).mono ?_
                  rintro e w9 ⟨rfl, rfl⟩
                  go_wp2_with fail
                  refine ⟨⟨j + 1, N * 64 + d, pd, by omega, by go_num, by go_num, by go_num, HNS.out d (by omega), Or.inl (by omega), HNEW, HO, HB⟩, by simp [intOf]; omega⟩
          · have hjg : ¬ (j : Int) < 4 := by omega
            obtain rfl : j = 4 := by omega
            have hnew := HD.out
            rw [List.drop_of_length_le (by rw [HQL.out]; omega), cB_end] at hnew
            have HNEW := Lib.hid hnew
            clear hnew HD hN
            go_wp2_with fail
            obtain ⟨N0, hN0⟩ : ∃ N0, wr.heap.size = N0 := ⟨_, rfl⟩
            have q0 : (N : Int) / 65536 = ((bt N 0 : Nat) : Int) := by simp only [bt]; omega
            have q1 : (N : Int) / 256 % 256 = ((bt N 1 : Nat) : Int) := by simp only [bt]; omega
            have q2 : (N : Int) % 256 = ((bt N 2 : Nat) : Int) := by simp only [bt]; omega
            rw [q0, q1, q2]
            generalize hW4 : World.alloc wr _ = W4
            have hcc : ∀ j, j < 3 → W4.cell? ⟨N0, j, none⟩ = some (.int .u8 ((bt N j : Nat) : Int)) := fun j hj => by
              rw [← hW4, ← hN0]
              obtain rfl | rfl | rfl : j = 0 ∨ j = 1 ∨ j = 2 := by omega
              all_goals exact (World.cell?_alloc_at _ _ _ _ rfl).trans rfl
            have hb4 : Below w.heap.size w W4 := by rw [← hW4]; exact HB.out.alloc HB.out.size _
            have ho4 : W4.ownsRow w.heap.size 5 1 u4 done.length (bvals done) := by rw [← hW4]; exact HO.out.alloc _
            simp only [hN0]
            have HCC := Lib.hid hcc
            have HB4 := Lib.hid hb4
            have HO4 := Lib.hid ho4
            have hst : (3 : Int) - (pd : Int) = ((3 - pd : Nat) : Int) := by omega
            try rw [hst]
            have HN4 := Lib.hid hN4
            have HPD2 := Lib.hid hpd2
            clear hW4 hN0 q0 q1 q2 hcc hb4 ho4 HB HO hst hN4 hpd hpd2
            go_loopw [11] (fun i wz => ∃ (j m : Nat), j ≤ 3 ∧ i = .int .i64 (j : Int) ∧ RowKit.Hid (3 - pd ≤ j) ∧ RowKit.Hid (∀ i, 3 - pd ≤ i → i < j → bt N i = 0) ∧ RowKit.Hid (wz = W4.drewN m)) (fun i _ => 3 - (intOf i).toNat)
            case atStart => exact ⟨3 - pd, 0, by omega, rfl, Lib.hid (Nat.le_refl _), Lib.hid (fun i h1 h2 => by omega), Lib.hid rfl⟩
            case round =>
              obtain ⟨j, m, hj3, rfl, HJ, HZ, HWZ⟩ := hrel
              by_cases hjl : j < 3
              · have hji : (j : Int) < 3 := by omega
                have hcj : wr.cell? ⟨N0, j, none⟩ = some (.int .u8 ((bt N j : Nat) : Int)) := by rw [HWZ.out]; exact HCC.out j hjl
                obtain ⟨v, hv⟩ : ∃ v, bt N j = v := ⟨_, rfl⟩
                have HV := Lib.hid hv
                rw [hv] at hcj
                clear hv
                by_cases hv0 : v = 0
                · have hb0 : ((v : Int) != 0) = false := by rw [bne_eq_false_iff_eq]; omega
                  have hz2 : ∀ i, 3 - pd ≤ i → i < j + 1 → bt N i = 0 := fun i h1 h2 => by
                    by_cases e : i = j
                    · rw [e, HV.out, hv0]
                    · exact HZ.out i h1 (by omega)
                  have HZ2 := Lib.hid hz2
                  clear hz2 hv0
                  go_wp2_with fail
                  try go_quiet (fail)
                  go_wp2_with fail
                  refine ⟨⟨j + 1, _, by omega, by go_num, Lib.hid (by have := HJ.out; omega), HZ2, Lib.hid (by rw [HWZ.out]; try rw [World.drewN_drewN])⟩, by simp [intOf]; omega⟩
                · have hb0 : ((v : Int) != 0) = true := by rw [bne_iff_ne]; omega
                  have hno : R = none := by
                    rw [HNEW.out, finB_no HJ.out hjl HPD2.out (by rw [HV.out]; exact hv0)]
                    rfl
                  have HNO := Lib.hid hno
                  have HBZ : RowKit.Hid (Below w.heap.size w wr) := Lib.hid (by rw [HWZ.out]; exact below_drewN HB4.out _)
                  clear hno hv0
                  go_wp2_with fail
                  try go_quiet (fail)
                  go_wp2_with fail
                  go_ret2
                  rw [HNO.out]
                  exact ⟨_, rfl, rfl, by first | exact HBZ.out | exact below_drewN HBZ.out _⟩
              · have hjg : ¬ (j : Int) < 3 := by omega
                have hj33 : j = 3 := by omega
                have hd5 : R = Option.map (fun l => (done ++ (bytes3 N).take (3 - pd)) ++ l) (rfb r) := by
                  rw [HNEW.out, finB_yes HPD2.out (fun i h1 h2 => HZ.out i h1 (by omega)), map_cons_app]
                have HD5 := Lib.hid hd5
                have hoz : wr.ownsRow w.heap.size 5 1 u4 done.length (bvals done) := by rw [HWZ.out]; exact HO4.out
                have hbz : Below w.heap.size w wr := by rw [HWZ.out]; exact below_drewN HB4.out _
                have hcz : ∀ j, j < 3 → wr.cell? ⟨N0, j, none⟩ = some (.int .u8 ((bt N j : Nat) : Int)) := by rw [HWZ.out]; exact HCC.out
                have HOZ := Lib.hid hoz
                have HBZ := Lib.hid hbz
                have HCZ := Lib.hid hcz
                have hp3 : (pd : Int) ≤ 2 := by have := HPD2.out; omega
                have hp0 : (0 : Int) ≤ (pd : Int) := by omega
                obtain ⟨T, hT⟩ : ∃ T, (bytes3 N).take (3 - pd) = T := ⟨_, rfl⟩
                have hTl : T.length = 3 - pd := by
                  rw [← hT, List.length_take]
                  exact Nat.min_eq_left (Nat.sub_le 3 pd)
                have hTc : ∀ j u, (bvals T)[j]? = some u → wr.cell? ((⟨N0, 0, none⟩ : Addr).add j) = some u := fun j u h => by
                  unfold bvals at h
                  rw [List.getElem?_map] at h
                  obtain ⟨x, hx, rfl⟩ := Option.map_eq_some_iff.1 h
                  rw [← hT, List.getElem?_take] at hx
                  split at hx
                  · rename_i hjp
                    have hj3 : j < 3 := by omega
                    have h1 := HCZ.out j hj3
                    rw [add_eq, Nat.zero_add, h1]
                    obtain rfl | rfl | rfl : j = 0 ∨ j = 1 ∨ j = 2 := by omega
                    all_goals
                      obtain rfl := Option.some.inj hx
                      rw [UInt8.toNat_ofNat', Nat.mod_eq_of_lt (bt_lt N _)]
                  · cases hx
                have hT1 : ∀ u ∈ bvals T, u.oneCell' = true := fun v hv => by
                  unfold bvals at hv
                  obtain ⟨x, _, rfl⟩ := List.mem_map.1 hv
                  rfl
                have hTm : (bvals T).length = (3 - pd) * 1 := by rw [bvals_len, hTl, Nat.mul_one]
                rw [hT] at hd5
                have HD6 := Lib.hid hd5
                have HTL := Lib.hid hTl
                have HTC := Lib.hid hTc
                have HT1 := Lib.hid hT1
                have HTM := Lib.hid hTm
                have hsl : (3 : Int) - (pd : Int) = ((3 - pd : Nat) : Int) := by have := HPD2.out; omega
                have hwp : IntKind.i64.wrap ((3 : Int) - (pd : Int)) = ((3 - pd : Nat) : Int) := by rw [hsl]; exact IntWalk.i64_in _ (by omega)
                clear hd5 hoz hbz hcz HNEW HZ HWZ HCC HO4 HB4 hT hTl hTc hT1 hTm HD5
                go_wp2_with (at_builtin; refine wpList_append_own _ rfl (.tmp 81) (.tmp 85) 22 rfl w.heap.size 5 i0 (.int .u8 0) 1 1 Try.underlying22 hi hz0 hz1 hz2 rfl (by decide) _ _ _ rfl HOZ.out ⟨N0, 0, none⟩ (3 - pd) 3 (bvals T) rfl HTM.out HTC.out HT1.out ?c3 ?c4 ?c5 ?_; rotate_left 3; intro v' w5 hown5 hgrow5 hnil; have HO5 := Lib.hid hown5; have HG5 := Lib.hid hgrow5; clear hown5 hgrow5 hnil)
                case c3 => unfold maxLen; have := HK.out.2; omega
                case c4 => have := HK.out.2; omega
                case c5 => exact HBZ.out.size
                have hg5 := HBZ.out.grown HG5.out HBZ.out.size (fun k hk => (HOZ.out.lt k hk).1)
                refine ⟨⟨K + 4, done ++ T, by omega, by go_num, Lib.hid ⟨by have := HK.out.1; omega, by rw [List.length_append, HTL.out]; have := HK.out.2; omega⟩, Lib.hid (by rw [HR4.out]; exact HD6.out), Lib.hid ?_, Lib.hid hg5⟩, by simp [intOf]; omega⟩
                rw [List.length_append, bvals_app, HTL.out]
                exact HO5.out
      · have hge : ¬ ((K : Int) < (s.size : Int)) := by omega
        have hfin : R = some done := by
          rw [HD.out, List.drop_of_length_le (by simp; omega)]
          simp [rfb]
        have HFI := Lib.hid hfin
        clear hfin
        go_wp2_with fail
        go_ret2
        rw [HFI.out]
        exact ⟨_, rfl, HO.out, HB.out⟩
  · have hm : ((s.size : Int) % 4 != 0) = true := by rw [bne_iff_ne]; omega
    have hno : R = none := by rw [← HR.out]; exact rfb_mod _ (by simpa using hodd)
    subst hno
    clear HR
    go_enter Try.func7, Try.ntmps7
    go_wp2_with fail
    go_ret2
    exact ⟨_, rfl, rfl, Below.refl _ _⟩
end Go.Proofs.Ytjgebpgdiinmbaa
