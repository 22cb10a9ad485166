/-
  THE WALKS over the texts of the reference of layer 1: the groups of an address of 128 bits.
-/
import Derived.Test.YtlikgfmcialepaaGreatDoorTxRefB
import Derived.Test.YtlikgfmcialepaaGreatDoorInvMath
import Derived.Maps.AppendAt
import Derived.Deep.DeepCutAuto
import Derived.Deep.RegionHeld3
namespace Go.Proofs.YtlikgfmcialepaaGreatDoor
open Go.RowKit Adr
set_option linter.unusedVariables false
set_option linter.unusedSimpArgs false
theorem gs_at (H L : Nat) (hL : L < 18446744073709551616) : ∀ i, i < 8 → num H L / 2 ^ (112 - 16 * i) % 2 ^ 16 = (gs H L).getD i 0
  | 0, _ => by show num H L / 2 ^ 112 % 65536 = H / 281474976710656 % 65536; unfold num; omega
  | 1, _ => by show num H L / 2 ^ 96 % 65536 = H / 4294967296 % 65536; unfold num; omega
  | 2, _ => by show num H L / 2 ^ 80 % 65536 = H / 65536 % 65536; unfold num; omega
  | 3, _ => by show num H L / 2 ^ 64 % 65536 = H % 65536; unfold num; omega
  | 4, _ => by show num H L / 2 ^ 48 % 65536 = L / 281474976710656 % 65536; unfold num; omega
  | 5, _ => by show num H L / 2 ^ 32 % 65536 = L / 4294967296 % 65536; unfold num; omega
  | 6, _ => by show num H L / 2 ^ 16 % 65536 = L / 65536 % 65536; unfold num; omega
  | 7, _ => by show num H L / 2 ^ 0 % 65536 = L % 65536; unfold num; omega
  | n + 8, h => by omega
theorem six_bits (N i j : Nat) (hi : i < 8) (hj : j < 16) : N / 2 ^ (128 - 1 - (16 * i + j)) % 2 = N / 2 ^ (112 - 16 * i) / 2 ^ (16 - 1 - j) % 2 := by
  rw [Nat.div_div_eq_div_mul, ← Nat.pow_add, show 112 - 16 * i + (16 - 1 - j) = 128 - 1 - (16 * i + j) by omega]
theorem Tryz.info_u64 : (Tryz.prog.info? 22).map (fun i => (i.zero, i.size, i.bytes)) = some (some (.int .u64 0), 1, 8) := by kernel_rfl
theorem gs_take (zs : List Nat) (k : Nat) (hk : k < zs.length) : (zs.take (k + 1)).map (fun z : Nat => Value.int .u64 (z : Int)) = (zs.take k).map (fun z : Nat => Value.int .u64 (z : Int)) ++ [.int .u64 ((zs.getD k 0 : Nat) : Int)] := by
  rw [List.take_add_one, List.map_append, List.getElem?_eq_getElem hk, List.getD_eq_getElem?_getD, List.getElem?_eq_getElem hk]
  rfl
/-! the search for the longest run of zeros -/
def allB (l : List Bool) (a n : Nat) : Bool := (List.range n).all fun i => l.getD (a + i) true
def seekA (l : List Bool) (n : Nat) : Nat → Option Nat
  | 0 => none
  | r + 1 => if allB l (9 - n - (r + 1)) n = true then some (9 - n - (r + 1)) else seekA l n r
def seekN (l : List Bool) : Nat → Option (Nat × Nat)
  | 0 => none
  | 1 => none
  | n + 2 => match seekA l (n + 2) (9 - (n + 2)) with
    | some a => some (a, n + 2)
    | none => seekN l (n + 1)
def seekOk (l : List Bool) : Bool := match seekN l 8 with
  | none => lzFrom (fun j => l.getD j true) == lzTo (fun j => l.getD j true)
  | some p => lzFrom (fun j => l.getD j true) == p.1 && lzTo (fun j => l.getD j true) == p.1 + p.2 && decide (2 ≤ p.2)
theorem seek_all : ∀ b0 b1 b2 b3 b4 b5 b6 b7 : Bool, seekOk [b0, b1, b2, b3, b4, b5, b6, b7] = true := by decide +kernel
theorem seekOk_none {l : List Bool} (h : seekOk l = true) (e : seekN l 8 = none) : lzFrom (fun j => l.getD j true) = lzTo (fun j => l.getD j true) := by
  unfold seekOk at h
  rw [e] at h
  simpa using h
theorem seekOk_some {l : List Bool} {a n : Nat} (h : seekOk l = true) (e : seekN l 8 = some (a, n)) : lzFrom (fun j => l.getD j true) = a ∧ lzTo (fun j => l.getD j true) = a + n ∧ 2 ≤ n := by
  unfold seekOk at h
  rw [e] at h
  simp only [Bool.and_eq_true, beq_iff_eq, decide_eq_true_eq] at h
  exact ⟨h.1.1, h.1.2, h.2⟩
theorem seek_six (zs : List Nat) (h8 : zs.length = 8) :
    (seekN (zs.map (· == 0)) 8 = none → sixS zs = colS zs) ∧ (∀ a n, seekN (zs.map (· == 0)) 8 = some (a, n) → sixS zs = colS (zs.take a) ++ [58, 58] ++ colS (zs.drop (a + n))) := by
  have hz : (fun j => zs.getD j 0 == 0) = fun j => (zs.map (· == 0)).getD j true := by
    funext j
    rw [List.getD_eq_getElem?_getD, List.getD_eq_getElem?_getD, List.getElem?_map]
    cases zs[j]? <;> rfl
  match zs, h8 with
  | [z0, z1, z2, z3, z4, z5, z6, z7], _ =>
    have h := seek_all (z0 == 0) (z1 == 0) (z2 == 0) (z3 == 0) (z4 == 0) (z5 == 0) (z6 == 0) (z7 == 0)
    have h' : seekOk (List.map (· == 0) [z0, z1, z2, z3, z4, z5, z6, z7]) = true := h
    unfold sixS
    rw [hz]
    constructor
    · intro e
      rw [if_pos (seekOk_none h' e)]
    · intro a n e
      obtain ⟨h1, h2, h3⟩ := seekOk_some h' e
      rw [h1, h2, if_neg (by omega)]
theorem allB_succ (l : List Bool) (a n : Nat) : allB l a (n + 1) = (allB l a n && l.getD (a + n) true) := by
  unfold allB
  rw [List.range_succ, List.all_append]
  simp
theorem seekA_stop (l : List Bool) (n a : Nat) (h : ¬ a + n ≤ 8) : seekA l n (9 - n - a) = none := by
  rw [show 9 - n - a = 0 by omega]
  rfl
theorem seekA_step (l : List Bool) (n a : Nat) (h : a + n ≤ 8) : seekA l n (9 - n - a) = if allB l a n = true then some a else seekA l n (9 - n - (a + 1)) := by
  rw [show 9 - n - a = 9 - n - (a + 1) + 1 by omega, seekA, show 9 - n - (9 - n - (a + 1) + 1) = a by omega]
theorem seekN_step (l : List Bool) (n : Nat) (h : 2 ≤ n) : seekN l n = match seekA l n (9 - n) with
    | some a => some (a, n)
    | none => seekN l (n - 1) := by
  obtain ⟨m, rfl⟩ : ∃ m, n = m + 2 := ⟨n - 2, by omega⟩
  rfl
/-- a row of words of the call's own, opened -/
theorem own_u64 {w : World} {base : Nat} {e : TypeId} {v : Value} {n : Nat} {zs : List Nat} (h : w.ownsRow base e 1 v n (zs.map fun z : Nat => Value.int .u64 (z : Int))) (hn : 0 < n) :
    ∃ g cap, v = .slice (some ⟨g, 0, none⟩) n cap ∧ n ≤ cap ∧ cap ≤ maxLen ∧ (∀ j z, zs[j]? = some z → w.cell? ⟨g, j, none⟩ = some (.int .u64 ((z : Nat) : Int))) := by
  obtain ⟨hl, h | ⟨g, cap, cur, rfl, hb, hg, hnc, hcm, hcs, ht⟩⟩ := h
  · omega
  · refine ⟨g, cap, rfl, hnc, hcm, fun j z hj => ?_⟩
    have hjn : j < n := by
      have := (List.getElem?_eq_some_iff.1 hj).1
      simp at hl
      omega
    have h1 : cur.toList[j]? = some (.int .u64 ((z : Nat) : Int)) := by
      have h2 : (cur.toList.take (n * 1))[j]? = cur.toList[j]? := by rw [List.getElem?_take]; rw [if_pos (by omega)]
      rw [← h2, ht, List.getElem?_map, hj]
      rfl
    simp only [World.cell?, hg]
    simpa using h1
set_option maxRecDepth 100000 in
set_option maxHeartbeats 8000000 in
theorem rtext6_core (H L : Nat) (hH : H < 18446744073709551616) (hL : L < 18446744073709551616) (w : World) :
    Calls Tryz.prog 6 #[.int .u8 6, .agg #[.int .u64 H, .int .u64 L]] w fun e w' => e = .returned (.tuple #[.string (str (sixS (gs H L))), .int .i64 0]) ∧ Below w.heap.size w w' := by
  have HCA : RowKit.Hid (∀ w, Calls Tryz.prog 25 #[.int .u8 6, .agg #[.int .u64 H, .int .u64 L]] w fun e w' => e = .returned (.bool true) ∧ Below w.heap.size w w') := Lib.hid (fun w => by
    have h := rca_any 6 H L w (by omega)
    rw [show ca 6 (H : Int) (L : Int) = true by simp [ca]] at h
    exact h)
  have HBits : RowKit.Hid (∀ w, Calls Tryz.prog 26 #[.int .u8 6, .agg #[.int .u64 H, .int .u64 L]] w fun e w' => ∃ g cap : Nat, e = .returned (.slice (some ⟨g, 0, none⟩) 128 cap) ∧ w.heap.size < g ∧ g < w'.heap.size ∧ 128 ≤ cap ∧ cap ≤ maxLen ∧ (∀ j, j < 128 → w'.cell? ⟨g, j, none⟩ = some (.int .i64 ((num H L / 2 ^ (128 - 1 - j) % 2 : Nat) : Int))) ∧ Below w.heap.size w w') :=
    Lib.hid (fun w => rbits_num 6 H L 128 rfl (by omega) hH hL w)
  have HGS := Lib.hid (gs_at H L hL)
  obtain ⟨zs, hzs⟩ : ∃ zs, gs H L = zs := ⟨_, rfl⟩
  have HLT : RowKit.Hid (∀ z ∈ zs, z < 65536) := Lib.hid (by rw [← hzs]; exact gs_lt H L)
  have HLEN : RowKit.Hid (zs.length = 8) := Lib.hid (by rw [← hzs]; rfl)
  rw [hzs] at HGS
  rw [hzs]
  clear hzs
  obtain ⟨R, hR⟩ : ∃ R, str (sixS zs) = R := ⟨_, rfl⟩
  have HR := Lib.hid hR
  rw [hR]
  clear hR
  obtain ⟨i0, hi, hz0, hz1, hz2⟩ := info_parts Tryz.info_u64
  go_enter Tryz.func6, Tryz.ntmps6
  go_wp2_with fail
  refine (HCA.out _).mono ?_
  rintro e w1 ⟨rfl, hb1⟩
  have HB1 := Lib.hid (((Below.refl w.heap.size w).alloc (Nat.le_refl _) _).trans (hb1.mono (by simp)))
  have a0 : w1.cell? ⟨w.heap.size, 0, none⟩ = some (.int .u64 H) := by rw [hb1.cell (p := ⟨w.heap.size, 0, none⟩) (by simp)]; simp
  have a1 : w1.cell? ⟨w.heap.size, 1, none⟩ = some (.int .u64 L) := by rw [hb1.cell (p := ⟨w.heap.size, 1, none⟩) (by simp)]; simp
  clear hb1
  go_wp2_with fail
  refine (HBits.out w1).mono ?_
  rintro e w2 ⟨g, cap, rfl, hg, hg2, hc1, hc2, hcell, hb2⟩
  have HB2 := Lib.hid (HB1.out.trans (hb2.mono HB1.out.size))
  have HG : RowKit.Hid (∀ (i cp : Nat) (wr : World), i < 8 → 16 ≤ cp → Below w2.heap.size w2 wr → Calls Tryz.prog 28 #[.slice (some ⟨g, 16 * i, none⟩) 16 cp] wr fun e w' => e = .returned (.int .u64 ((zs.getD i 0 : Nat) : Int)) ∧ wr = w') := Lib.hid (fun i cp wr hi hcp hbw => by
    have h := group_any g (16 * i) 16 cp (num H L / 2 ^ (112 - 16 * i)) wr (by omega) hcp (fun j hj => by rw [hbw.cell (p := ⟨g, 16 * i + j, none⟩) hg2, hcell (16 * i + j) (by omega), six_bits _ i j hi hj])
    rw [HGS.out i hi] at h
    exact h)
  clear hb2 a0 a1 HB1 hcell HCA HBits
  go_wp2_with fail
  go_loopw [9, 10] (fun v i wr => ∃ k : Nat, k ≤ 8 ∧ i = .int .i64 (k : Int) ∧ wr.ownsRow w2.heap.size 22 1 v k ((zs.take k).map fun z : Nat => Value.int .u64 (z : Int)) ∧ Below w2.heap.size w2 wr) (fun _ i _ => 9 - (intOf i).toNat)
  case atStart => exact ⟨0, Nat.zero_le _, rfl, by simpa using World.ownsRow_nil _ _ _ _, Below.refl _ _⟩
  case round =>
    obtain ⟨k, hk, rfl, hown, hbl⟩ := hrel
    have HO := Lib.hid hown
    have HBL := Lib.hid hbl
    by_cases hlt : k < 8
    · have hki : (k : Int) < 8 := by omega
      have ht := gs_take zs k (by have := HLEN.out; omega)
      have hgk := fun cp h => HG.out k cp wr hlt h hbl
      have hzk : zs.getD k 0 < 65536 := by
        have hl := HLEN.out
        rw [List.getD_eq_getElem?_getD, List.getElem?_eq_getElem (by omega)]
        exact HLT.out _ (List.getElem_mem _)
      generalize zs.getD k 0 = z at ht hgk hzk
      have HT := Lib.hid ht
      have HGk := Lib.hid hgk
      have HKZ := Lib.hid hzk
      clear hown hbl ht hgk hzk
      go_wp2_with fail
      refine (HGk.out _ (by omega)).mono ?_
      rintro e wx ⟨rfl, rfl⟩
      go_wp2_with (at_builtin; refine wpList_append_own _ rfl (.tmp 48) (.tmp 57) 69 rfl w2.heap.size 22 i0 (.int .u64 0) 1 8 Tryz.underlying69 hi hz0 hz1 hz2 rfl (by decide) _ _ _ rfl (HO.out.alloc _) ⟨wr.heap.size, 0, none⟩ 1 1 [.int .u64 ((z : Nat) : Int)] rfl rfl ?c1 ?c2 ?c3 ?c4 ?c5 ?_; rotate_left 5; intro v' w5 hown5 hgrow5 _; have HO5 := Lib.hid hown5; have HG5 := Lib.hid hgrow5; clear hown5 hgrow5)
      case c1 => exact cell_one_new _ _ _
      case c2 => simp [Value.oneCell']
      case c3 => unfold maxLen; omega
      case c4 => omega
      case c5 => have := HBL.out.size; simp; omega
      obtain ⟨g1, g2⟩ := own_step' HO.out HG5.out HBL.out HBL.out.size
      refine ⟨⟨k + 1, by omega, by go_num, ?_, g1⟩, by simp [intOf]; omega⟩
      rw [HT.out]
      exact HO5.out
    · have hk8 : k = 8 := by omega
      have hge : (8 : Int) ≤ (k : Int) := by omega
      have hro := hown
      rw [hk8, List.take_of_length_le (by have := HLEN.out; omega)] at hro
      obtain ⟨G, cp, rfl, hcp, hcm, hcells⟩ := own_u64 hro (by omega)
      have HC := Lib.hid hcells
      obtain ⟨hs1, hs2⟩ := seek_six zs HLEN.out
      obtain ⟨l, hl⟩ : ∃ l, zs.map (· == 0) = l := ⟨_, rfl⟩
      have HLD : RowKit.Hid (∀ j z, zs[j]? = some z → l.getD j true = (z == 0)) := Lib.hid (fun j z h => by rw [← hl, List.getD_eq_getElem?_getD, List.getElem?_map, h]; rfl)
      rw [hl] at hs1 hs2
      have HS1 := Lib.hid hs1
      have HS2 := Lib.hid hs2
      clear hown hbl hro hcells hs1 hs2 hl hk8 HO hlt
      go_wp2_with fail
      generalize decide ((k : Int) < 8) = dk
      clear hge
      have HBW := Lib.hid (HB2.out.trans (HBL.out.mono HB2.out.size))
      clear HBL HB2 HG HGS
      have hA : RowKit.Hid (Calls Tryz.prog 29 #[.slice (some ⟨G, 0, none⟩) 8 cp] wr fun e w' => e = .returned (.string (str (colS zs))) ∧ wr = w') := Lib.hid (colons_any G 0 8 cp zs wr HLEN.out (by omega) hcp HLT.out (fun j z h => by rw [Nat.zero_add]; exact HC.out j z h) _ (.inl rfl))
      go_loop [11] (fun s => ∃ n : Nat, 1 ≤ n ∧ n ≤ 8 ∧ s = .int .i64 (n : Int) ∧ seekN l 8 = seekN l n) (fun s => (intOf s).toNat)
      case atStart => exact ⟨8, by omega, by omega, rfl, rfl⟩
      case round =>
        obtain ⟨n, hn1, hn8, rfl, hsn⟩ := hrel
        have HSN := Lib.hid hsn
        clear hsn
        by_cases hn : 1 < n
        · have hni : (1 : Int) < (n : Int) := by omega
          have HST := Lib.hid (seekN_step l n (by omega))
          go_wp2_with fail
          go_loop [12] (fun s => ∃ a : Nat, a ≤ 9 - n ∧ s = .int .i64 (a : Int) ∧ seekA l n (9 - n) = seekA l n (9 - n - a)) (fun s => 10 - (intOf s).toNat)
          case atStart => exact ⟨0, by omega, rfl, by rw [Nat.sub_zero]⟩
          case round =>
            obtain ⟨a, ha, rfl, hsa⟩ := hrel
            have HSA := Lib.hid hsa
            clear hsa
            by_cases han : a + n ≤ 8
            · have hai : (a : Int) + (n : Int) ≤ 8 := by omega
              have HSS := Lib.hid (seekA_step l n a han)
              go_wp2_with fail
              go_loop [13, 14] (fun b s => ∃ i : Nat, a ≤ i ∧ i ≤ a + n ∧ s = .int .i64 (i : Int) ∧ b = .bool (allB l a (i - a))) (fun _ s => 20 - (intOf s).toNat)
              case atStart => exact ⟨a, Nat.le_refl _, by omega, rfl, by rw [Nat.sub_self]; rfl⟩
              case round =>
                obtain ⟨i, hai1, hai2, rfl, rfl⟩ := hrel
                by_cases hin : i < a + n
                · obtain ⟨z, hz⟩ : ∃ z, zs[i]? = some z := ⟨zs[i]'(by have := HLEN.out; omega), List.getElem?_eq_getElem _⟩
                  have hck := HC.out i z hz
                  have hst := allB_succ l a (i - a)
                  rw [show a + (i - a) = i by omega, HLD.out i z hz, show i - a + 1 = i + 1 - a by omega] at hst
                  obtain ⟨q, hq⟩ : ∃ q, allB l a (i - a) = q := ⟨_, rfl⟩
                  rw [hq] at hst ⊢
                  have HQT := Lib.hid hst
                  have hiI : (i : Int) < (a : Int) + (n : Int) := by omega
                  have hi8 : (i : Int) < 8 := by omega
                  have hzI : ((z : Int) == 0) = (z == 0) := by
                    rw [Bool.eq_iff_iff]
                    simp
                  have HZI := Lib.hid hzI
                  clear hq hst hz hzI
                  cases q
                  · go_wp2_with fail
                    go_round
                    case rel => exact ⟨i + 1, by omega, by omega, by go_num, by rw [HQT.out]; rfl⟩
                    case measure => simp [intOf]; omega
                  · go_wp2_with fail
                    go_round
                    case rel => exact ⟨i + 1, by omega, by omega, by go_num, by rw [HQT.out, Bool.true_and]; exact congrArg Value.bool HZI.out⟩
                    case measure => simp [intOf]; omega
                · have hie : i = a + n := by omega
                  have hiI : (a : Int) + (n : Int) ≤ (i : Int) := by omega
                  rw [show i - a = n by omega]
                  obtain ⟨q, hq⟩ : ∃ q, allB l a n = q := ⟨_, rfl⟩
                  rw [hq]
                  have HQ := Lib.hid hq
                  clear hq hie
                  cases q
                  · go_wp2_with fail
                    go_round
                    case rel => exact ⟨a + 1, by omega, by go_num, by rw [HSA.out, HSS.out, HQ.out]; rfl⟩
                    case measure => simp [intOf]; omega
                  · have hfin : str (colS (zs.take a)) ++ ⟨#[58, 58]⟩ ++ str (colS (zs.drop (a + n))) = R := by
                      rw [← HR.out, HS2.out a n (by rw [HSN.out, HST.out, HSA.out, HSS.out, HQ.out]; rfl), str_app, str_app]
                      rfl
                    obtain ⟨X, hX⟩ : ∃ X, str (colS (zs.take a)) = X := ⟨_, rfl⟩
                    obtain ⟨Y, hY⟩ : ∃ Y, str (colS (zs.drop (a + n))) = Y := ⟨_, rfl⟩
                    have hXs : X.size ≤ 40 := by
                      rw [← hX, str_size]
                      have h1 := colS_len (zs.take a)
                      rw [List.length_take, HLEN.out] at h1
                      omega
                    have hYs : Y.size ≤ 40 := by
                      rw [← hY, str_size]
                      have h1 := colS_len (zs.drop (a + n))
                      rw [List.length_drop, HLEN.out] at h1
                      omega
                    have hQ1 : ∀ wx : World, (∀ b o, wx.cell? ⟨b, o, none⟩ = wr.cell? ⟨b, o, none⟩) → Calls Tryz.prog 29 #[.slice (some ⟨G, 0, none⟩) a cp] wx fun e w' => e = .returned (.string X) ∧ w' = wx := fun wx hwx => by
                      rw [← hX]
                      exact (colons_any G 0 a cp (zs.take a) wx (by rw [List.length_take, HLEN.out]; omega) (by omega) (by omega) (fun z h => HLT.out z (List.mem_of_mem_take h)) (fun j z h => by
                        rw [Nat.zero_add, hwx]
                        rw [List.getElem?_take] at h
                        split at h
                        · exact HC.out j z h
                        · cases h) _ (.inl rfl)).mono fun _ _ h => ⟨h.1, h.2.symm⟩
                    have hQ2 : ∀ (wx : World) (A : Option Addr), (∀ b o, wx.cell? ⟨b, o, none⟩ = wr.cell? ⟨b, o, none⟩) → (A = some ⟨G, a + n, none⟩ ∨ 8 - (a + n) = 0) → Calls Tryz.prog 29 #[.slice A (8 - (a + n)) (cp - (a + n))] wx fun e w' => e = .returned (.string Y) ∧ w' = wx := fun wx A hwx hA => by
                      rw [← hY]
                      exact (colons_any G (a + n) (8 - (a + n)) (cp - (a + n)) (zs.drop (a + n)) wx (by rw [List.length_drop, HLEN.out]) (by omega) (by omega) (fun z h => HLT.out z (List.mem_of_mem_drop h)) (fun j z h => by
                        rw [hwx]
                        rw [List.getElem?_drop] at h
                        exact HC.out _ z h) A hA).mono fun _ _ h => ⟨h.1, h.2.symm⟩
                    have Q1 := Lib.hid (hQ1 wr.drew (fun _ _ => rfl))
                    have Q2 := Lib.hid (fun A => hQ2 wr.drew A (fun _ _ => rfl))
                    rw [hX, hY] at hfin
                    subst hfin
                    clear hX hY hQ1 hQ2 hA
                    have hz1 : ¬ 9223372036854775807 < X.size + 2 := by omega
                    have hz2 : ¬ 9223372036854775807 < X.size + 2 + Y.size := by omega
                    have hw1 : IntKind.i64.wrap ((a : Int) + (n : Int)) = (a : Int) + (n : Int) := IntWalk.i64_in _ (by omega)
                    have hw2 : (0 : Int) ≤ (a : Int) + (n : Int) := by omega
                    have hw3 : ((a : Int) + (n : Int)).toNat = a + n := by omega
                    have hw4 : (a : Int) + (n : Int) ≤ (cp : Int) := by omega
                    have hw5 : (a : Int) ≤ (cp : Int) := by omega
                    have hcc : cp = a + n → 8 - (a + n) = 0 := by omega
                    have hcpI : (8 : Int) ≤ (cp : Int) := by omega
                    have ha0 : (0 : Int) ≤ (a : Int) := by omega
                    have hw6 : (a : Int) ≤ 8 := by omega
                    have hw7 : (a : Int) + (n : Int) ≤ 8 := by omega
                    have HCC := Lib.hid hcc
                    clear hcc
                    by_cases hcap : cp = a + n
                    · have Q3 : RowKit.Hid (Calls Tryz.prog 29 #[.slice (some ⟨G, 0, none⟩) 0 0] wr.drew fun e w' => e = .returned (.string Y) ∧ w' = wr.drew) := Lib.hid (by
                        have h := Q2.out (some ⟨G, 0, none⟩) (.inr (HCC.out hcap))
                        rw [HCC.out hcap, show cp - (a + n) = 0 by omega] at h
                        exact h)
                      obtain rfl : cp = 8 := by omega
                      have hs : (a : Int) + (n : Int) = 8 := by omega
                      rw [hs] at hw1
                      clear hw2 hw3 hw4 hw5 hw7 hcpI hcap HCC Q2 hai han
                      go_wp2_with fail
                      go_region_held3 (fun z => True) (trivial) (first | (go_at_call 29; (with_reducible refine Q1.out.mono ?_); rintro e wx ⟨rfl, rfl⟩) | (go_at_call 29; (with_reducible refine Q3.out.mono ?_); rintro e wx ⟨rfl, rfl⟩))
                      all_goals
                        go_wp2_with fail
                        go_ret2
                        exact ⟨rfl, HBW.out.drew⟩
                    · go_wp2_with fail
                      go_region_held3 (fun z => True) (trivial) (first | (go_at_call 29; (with_reducible refine Q1.out.mono ?_); rintro e wx ⟨rfl, rfl⟩) | (go_at_call 29; (with_reducible refine (Q2.out _ (.inl rfl)).mono ?_); rintro e wx ⟨rfl, rfl⟩))
                      all_goals
                        go_wp2_with fail
                        go_ret2
                        exact ⟨rfl, HBW.out.drew⟩
            · have hai : (8 : Int) < (a : Int) + (n : Int) := by omega
              have HSS := Lib.hid (seekA_stop l n a han)
              go_wp2_with fail
              go_round
              case rel => exact ⟨n - 1, by omega, by omega, by rw [show ((n - 1 : Nat) : Int) = (n : Int) - 1 by omega], by rw [HSN.out, HST.out, HSA.out, HSS.out]⟩
              case measure => simp [intOf]; omega
        · have hni : (n : Int) ≤ 1 := by omega
          obtain rfl : n = 1 := by omega
          have hfin : str (colS zs) = R := by
            rw [← HR.out, HS1.out (by rw [HSN.out]; rfl)]
          rw [hfin] at hA
          clear hfin
          go_wp2_with fail
          refine (hA.out).mono ?_
          rintro e wx ⟨rfl, rfl⟩
          go_wp2_with fail
          go_ret2
          exact ⟨rfl, HBW.out⟩
end Go.Proofs.YtlikgfmcialepaaGreatDoor
