/-
  THE WALKS over bytes as digits of some bits each.
-/
import Derived.Test.YtjgebpgdiinmbaaDoorDigI
namespace Go.Proofs.YtjgebpgdiinmbaaDoor
open Go.RowKit Sha
set_option linter.unusedVariables false
set_option linter.unusedSimpArgs false
/-- the digits of K bits, W bits each, the first ones first; what is less than W bits is left -/
def dgs (W : Nat) : Nat → Nat → Nat → List Nat
  | 0, _, _ => []
  | f + 1, H, K => if W ≤ K then (H / 2 ^ (K - W)) % 2 ^ W :: dgs W f H (K - W) else []
/-- the digits of bytes, K bits with the value P being ahead -/
def dgB (W : Nat) : Nat → Nat → List UInt8 → List Nat
  | P, K, [] => if 0 < K then [(P * 2 ^ (W - K)) % 2 ^ W] else []
  | P, K, c :: r => dgs W 4 (P * 256 + c.toNat) (K + 8) ++ dgB W ((P * 256 + c.toNat) % 2 ^ ((K + 8) % W)) ((K + 8) % W) r
theorem mod_part (X H m a W : Nat) (h : X % 2 ^ m = H) (ha : a + W ≤ m) : X / 2 ^ a % 2 ^ W = H / 2 ^ a % 2 ^ W := by
  rw [← Nat.mod_mul_right_div_self, ← Nat.mod_mul_right_div_self, ← Nat.pow_add, ← h, Nat.mod_mod_of_dvd _ (Nat.pow_dvd_pow 2 ha)]
theorem mod_less (X H m a : Nat) (h : X % 2 ^ m = H) (ha : a ≤ m) : X % 2 ^ a = H % 2 ^ a := by
  rw [← h, Nat.mod_mod_of_dvd _ (Nat.pow_dvd_pow 2 ha)]
theorem takeIn_nat (h : UInt32) (c : UInt8) : (takeIn h c).toNat = (h.toNat * 256) % 4294967296 + c.toNat := by
  have h1 := c.toNat_lt
  have h2 := h.toNat_lt
  unfold takeIn
  rw [UInt32.toNat_or, UInt32.toNat_shiftLeft, UInt32.toNat_ofNat', Nat.mod_eq_of_lt (show c.toNat < 2 ^ 32 by omega)]
  rw [show (8 : UInt32).toNat % 32 = 8 from rfl, Nat.shiftLeft_eq]
  rw [show h.toNat * 2 ^ 8 % 2 ^ 32 = (h.toNat % 2 ^ 24) * 2 ^ 8 by omega]
  rw [← Nat.shiftLeft_eq, ← Nat.shiftLeft_add_eq_or_of_lt (show c.toNat < 2 ^ 8 by omega), Nat.shiftLeft_eq]
theorem takeIn_mod (h : UInt32) (c : UInt8) (k : Nat) (hk : k < 6) : (takeIn h c).toNat % 2 ^ (k + 8) = (h.toNat % 2 ^ k) * 256 + c.toNat := by
  rw [takeIn_nat]
  have h1 := c.toNat_lt
  obtain rfl | rfl | rfl | rfl | rfl | rfl : k = 0 ∨ k = 1 ∨ k = 2 ∨ k = 3 ∨ k = 4 ∨ k = 5 := by omega
  all_goals (simp only [Nat.reduceAdd, Nat.reducePow]; omega)
theorem dgs_less (W f H K : Nat) (h : K < W) : dgs W f H K = [] := by
  cases f with
  | zero => rfl
  | succ f => rw [dgs, if_neg (by omega)]
theorem low_and (a : UInt32) (k : Nat) (hk : k = 4 ∨ k = 6) : bits .and .u32 (u a) (2 ^ k - 1) = ((a.toNat % 2 ^ k : Nat) : Int) := by
  have h1 : ∀ m : UInt32, m.toNat = 2 ^ k - 1 → bits .and .u32 (u a) (u m) = ((a.toNat % 2 ^ k : Nat) : Int) := fun m hm => by
    rw [u_and]
    unfold u
    rw [UInt32.toNat_and, hm, Nat.and_two_pow_sub_one_eq_mod]
  obtain rfl | rfl := hk
  · exact h1 15 rfl
  · exact h1 63 rfl
set_option maxRecDepth 100000 in
theorem low_4 (a : UInt32) (w : World) : Calls Tryd.prog 37 #[.int .u32 (u a), .int .i64 4] w fun e w' => e = .returned (.int .u32 ((a.toNat % 16 : Nat) : Int)) ∧ w = w' := by
  have hb : bits .and .u32 (u a) 15 = ((a.toNat % 16 : Nat) : Int) := low_and a 4 (by decide)
  go_enter Tryd.func37, Tryd.ntmps37
  go_wp2
  go_ret
  exact ⟨rfl, rfl⟩
set_option maxRecDepth 100000 in
theorem low_6 (a : UInt32) (w : World) : Calls Tryd.prog 37 #[.int .u32 (u a), .int .i64 6] w fun e w' => e = .returned (.int .u32 ((a.toNat % 64 : Nat) : Int)) ∧ w = w' := by
  have hb : bits .and .u32 (u a) 63 = ((a.toNat % 64 : Nat) : Int) := low_and a 6 (by decide)
  go_enter Tryd.func37, Tryd.ntmps37
  go_wp2
  go_ret
  exact ⟨rfl, rfl⟩
/-- what a width's digits are in characters -/
def ch (al : ByteArray) (d : Nat) : UInt8 := al.data.toList.getD d 0
theorem run_index_char (al : ByteArray) (d : Nat) (h : d < al.size) (w : World) : (Instr.index 9 (.string al) (.int .u32 (d : Int))).run Tryd.prog w = .ok (.int .u8 ((ch al d).toNat : Int)) w := by
  have h0 : (0 : Int) ≤ (d : Int) := by omega
  have h1 : al[d]? = some (ch al d) := by
    rw [getElem?_pos al d h]
    unfold ch
    rw [List.getD_eq_getElem?_getD, List.getElem?_eq_getElem (by simpa using h)]
    rfl
  simp [Instr.index, asIntOf, run_underlying Tryd.underlying9, h1]
theorem dgB_len (W : Nat) (hW : W = 4 ∨ W = 6) : ∀ (b : List UInt8) (P K : Nat), K < W → (dgB W P K b).length ≤ 2 * b.length + 1
  | [], P, K, _ => by unfold dgB; split <;> simp
  | c :: r, P, K, hK => by
    have h1 : (dgs W 4 (P * 256 + c.toNat) (K + 8)).length ≤ 2 := by
      obtain rfl | rfl := hW
      · simp only [dgs]
        rw [if_pos (by omega), if_pos (by omega), if_neg (by omega)]
        simp
      · simp only [dgs]
        rw [if_pos (by omega)]
        split
        · rw [if_neg (by omega)]; simp
        · simp
    have h2 := dgB_len W hW r ((P * 256 + c.toNat) % 2 ^ ((K + 8) % W)) ((K + 8) % W) (Nat.mod_lt _ (by omega))
    rw [dgB, List.length_append, List.length_cons]
    omega
set_option maxRecDepth 100000 in
set_option maxHeartbeats 4000000 in
theorem digits_4 (al : ByteArray) (hal : al.size = 16) (b : List UInt8) (A : Option Addr) (c : Nat) (hl : b.length ≤ 100000) (hc : b.length ≤ c) (w : World) (hs : SrcAt A b w) :
    Calls Tryd.prog 25 #[.slice A b.length c, .int .i64 4, .string al] w fun e w' => e = .returned (.string ⟨((dgB 4 0 0 b).map (ch al)).toArray⟩) ∧ Below w.heap.size w w' := by
  obtain ⟨F, hF⟩ : ∃ F, dgB 4 0 0 b = F := ⟨_, rfl⟩
  rw [hF]
  have HF := Lib.hid hF
  have HAL := Lib.hid (fun d (h : d < 16) => run_index_char al d (by rw [hal]; exact h))
  have hFl : F.length ≤ 2 * b.length + 1 := by rw [← hF]; exact dgB_len 4 (by decide) b 0 0 (by omega)
  obtain ⟨n, hn⟩ : ∃ n, b.length = n := ⟨_, rfl⟩
  rw [hn] at hl hc hFl ⊢
  have HN := Lib.hid hn
  have HS := Lib.hid hs
  obtain ⟨i0, hi, hz0, hz1, hz2⟩ := info_parts Tryd.info_byte
  have b2 : i0.bytes * ((8 * n + 4 - 1) / 4) ≤ 281474976710656 := by rw [hz2]; omega
  have b3 : (8 * n + 4 - 1) / 4 ≤ maxLen := by unfold maxLen; omega
  have B2 := Lib.hid b2
  have B3 := Lib.hid b3
  clear hF hn hs b2 b3 hal
  go_enter Tryd.func25, Tryd.ntmps25
  go_wp2_with (at_make; refine wpList_make_own _ rfl (.const (.int .i64 0)) (.tmp 19) 26 rfl w.heap.size 5 i0 (.int .u8 0) 1 Tryd.underlying26 hi hz0 hz1 .i64 .i64 _ ((8 * n + 4 - 1) / 4) rfl rfl ?cC B2.out B3.out (Nat.le_refl _) ?_; rotate_left 1; intro w1 hown1 hg1; have HO1 := Lib.hid hown1; have HG1 := Lib.hid hg1; clear hown1 hg1)
  case cC => omega
  have hb1 : Below w.heap.size w w1 := (Below.refl _ _).grown HG1.out (Nat.le_refl _) (fun k hk => by cases hk)
  have hsz1 : w.heap.size < w1.heap.size := by
    have := (HO1.out.lt w.heap.size rfl).2
    exact this
  have HB1 := Lib.hid hb1
  clear hb1
  go_loopw [7, 8, 9, 23] (fun v s8 s9 i wr => ∃ (k K : Nat) (h : UInt32) (done : List Nat), k ≤ n ∧ i = .int .i64 (k : Int) ∧ s8 = .int .u32 (u h) ∧ s9 = .int .i64 (K : Int) ∧ K < 4 ∧ F = done ++ dgB 4 (h.toNat % 2 ^ K) K (b.drop k) ∧ wr.ownsRow w.heap.size 5 1 v done.length (bvals (done.map (ch al))) ∧ v ≠ .slice none 0 0 ∧ Below w.heap.size w wr ∧ w.heap.size < wr.heap.size) (fun _ _ _ i _ => n - (intOf i).toNat)
  case atStart => exact ⟨0, 0, 0, [], by omega, rfl, rfl, rfl, by omega, HF.out.symm, HO1.out, (by simp), HB1.out, hsz1⟩
  case round =>
    obtain ⟨k, K, h, done, hk, rfl, rfl, rfl, hK, hd, hown, hnn, hbel, hsz⟩ := hrel
    clear HO1 HG1 HB1 hsz1
    have HD := Lib.hid hd
    have HO := Lib.hid hown
    have HNN := Lib.hid hnn
    have HB := Lib.hid hbel
    clear hd hown hnn hbel
    by_cases hlt : k < n
    · obtain ⟨x, hx⟩ : ∃ x, b[k]? = some x := ⟨_, List.getElem?_eq_getElem (by rw [HN.out]; exact hlt)⟩
      obtain ⟨g, o, rfl, hsr⟩ := HS.out (by intro e; rw [e] at hx; simp at hx)
      have h1 := hsr k x hx
      have hck : wr.cell? ⟨g, o + k, none⟩ = some (.int .u8 (x.toNat : Int)) := by
        rw [HB.out.cell (p := ⟨g, o + k, none⟩) (World.block_lt_of_cell? _ _ h1)]
        exact h1
      have hdk : b.drop k = x :: b.drop (k + 1) := by
        obtain ⟨hlt2, e⟩ := List.getElem?_eq_some_iff.1 hx
        rw [List.drop_eq_getElem_cons hlt2, e]
      obtain ⟨h', hh'⟩ : ∃ h', takeIn h x = h' := ⟨_, rfl⟩
      have hmod := takeIn_mod h x K (by omega)
      rw [hh'] at hmod
      obtain ⟨H, hH⟩ : ∃ H, (h.toNat % 2 ^ K) * 256 + x.toNat = H := ⟨_, rfl⟩
      rw [hH] at hmod
      have htk := u_takeIn h x
      rw [hh'] at htk
      have hF2 : F = done ++ (dgs 4 4 H (K + 8) ++ dgB 4 (H % 2 ^ ((K + 8) % 4)) ((K + 8) % 4) (b.drop (k + 1))) := by
        rw [HD.out, hdk, dgB, hH]
      have HF2 := Lib.hid hF2
      have HMOD := Lib.hid hmod
      have HTK := Lib.hid htk
      have hki : (k : Int) < (n : Int) := by omega
      have hx8 : x.toNat < 256 := x.toNat_lt
      clear hx hsr h1 hdk hh' hmod hH htk hF2
      go_wp2_with fail
      rw [HTK.out]
      obtain ⟨R, hR⟩ : ∃ R, dgB 4 (H % 2 ^ ((K + 8) % 4)) ((K + 8) % 4) (b.drop (k + 1)) = R := ⟨_, rfl⟩
      rw [hR] at HF2
      have HR := Lib.hid hR
      have HX0 : RowKit.Hid (K + 8 ≤ 13) := Lib.hid (by omega)
      clear hR
      go_loopw [7, 9] (fun v s9 wr => ∃ (K2 f : Nat) (done : List Nat), K2 ≤ K + 8 ∧ s9 = .int .i64 (K2 : Int) ∧ K2 % 4 = (K + 8) % 4 ∧ K2 ≤ 4 * f ∧ F = done ++ (dgs 4 f H K2 ++ R) ∧ wr.ownsRow w.heap.size 5 1 v done.length (bvals (done.map (ch al))) ∧ v ≠ .slice none 0 0 ∧ Below w.heap.size w wr ∧ w.heap.size < wr.heap.size) (fun _ s9 _ => (intOf s9).toNat)
      case atStart => exact ⟨K + 8, 4, done, by omega, rfl, rfl, by omega, HF2.out, HO.out, HNN.out, HB.out, hsz⟩
      case round =>
        obtain ⟨K2, f, done2, hK2, rfl, hKm, hf, hd, hown, hnn, hbel, hsz2⟩ := hrel
        clear HO HNN HB hsz hck HD HF2 HTK
        have HD := Lib.hid hd
        have HO := Lib.hid hown
        have HNN := Lib.hid hnn
        have HB := Lib.hid hbel
        have HKM := Lib.hid hKm
        clear hd hown hnn hbel hKm
        by_cases hw : 4 ≤ K2
        · obtain ⟨f', rfl⟩ : ∃ f', f = f' + 1 := ⟨f - 1, by omega⟩
          obtain ⟨d, hd⟩ : ∃ d, (H / 2 ^ (K2 - 4)) % 2 ^ 4 = d := ⟨_, rfl⟩
          have hdq : d < 16 := by rw [← hd]; exact Nat.mod_lt _ (by decide)
          have hF3 : F = (done2 ++ [d]) ++ (dgs 4 f' H (K2 - 4) ++ R) := by
            rw [HD.out, dgs, if_pos hw, hd]
            simp
          have hpart := mod_part h'.toNat H (K + 8) (K2 - 4) 4 HMOD.out (by omega)
          have hlow : ∀ w, Calls Tryd.prog 37 #[.int .u32 (u h' / 2 ^ (K2 - 4)), .int .i64 4] w fun e w' => e = .returned (.int .u32 (d : Int)) ∧ w = w' := fun w => by
            have h1 := low_4 (h' >>> UInt32.ofNat (K2 - 4)) w
            have h2 := u_shr h' (K2 - 4) (by have := HX0.out; omega)
            have h3 : (h' >>> UInt32.ofNat (K2 - 4)).toNat = h'.toNat / 2 ^ (K2 - 4) := by
              rw [UInt32.toNat_shiftRight, ofNat_toNat _ (by have := HX0.out; omega), Nat.mod_eq_of_lt (by have := HX0.out; omega), Nat.shiftRight_eq_div_pow]
            rw [← h2, h3] at h1
            have h5 : h'.toNat / 2 ^ (K2 - 4) % 16 = d := by
              have h6 : h'.toNat / 2 ^ (K2 - 4) % 2 ^ 4 = d := hpart.trans hd
              exact h6
            rw [h5] at h1
            exact h1
          have hidx := HAL.out d hdq
          have HLOW := Lib.hid hlow
          have HF3 := Lib.hid hF3
          have hKi : (4 : Int) ≤ (K2 : Int) := by omega
          have hK13 : (K2 : Int) ≤ 13 := by have := HX0.out; omega
          have hdl : done2.length ≤ 2 * n + 1 := by
            have := congrArg List.length HD.out
            rw [List.length_append] at this
            omega
          have HDL := Lib.hid hdl
          clear hd hdq hF3 hpart hlow hdl
          go_wp2_with fail
          refine (HLOW.out _).mono ?_
          rintro e w3 ⟨rfl, rfl⟩
          go_wp2_with (at_builtin; refine wpList_append_own _ rfl (.tmp 40) (.tmp 48) 26 rfl w.heap.size 5 i0 (.int .u8 0) 1 1 Tryd.underlying26 hi hz0 hz1 hz2 rfl (by decide) _ _ _ rfl (HO.out.alloc _) ⟨wr.heap.size, 0, none⟩ 1 1 [.int .u8 ((ch al d).toNat : Int)] rfl rfl ?c1 ?c2 ?c3 ?c4 ?c5 ?_; rotate_left 5; intro v' w5 hown5 hgrow5 hnil; have HO5 := Lib.hid hown5; have HG5 := Lib.hid hgrow5; have HNIL := Lib.hid hnil; clear hown5 hgrow5 hnil)
          case c1 => exact cells_one _ _ _
          case c2 => simp [Value.oneCell']
          case c3 => unfold maxLen; have := HDL.out; omega
          case c4 => have := HDL.out; omega
          case c5 => simp; omega
          obtain ⟨g1, g2⟩ := own_step' HO.out HG5.out HB.out (Nat.le_of_lt hsz2)
          refine ⟨⟨K2 - 4, f', done2 ++ [d], by omega, by congr 1; omega, ?_, by omega, HF3.out, ?_, ?_, g1, ?_⟩, by simp [intOf]; omega⟩
          · rw [← HKM.out]; omega
          · rw [List.length_append, List.map_append, bvals_app]
            exact HO5.out
          · intro e
            have := (HNIL.out.1 e).2
            omega
          · have h := HG5.out.size
            simp at h
            omega
        · have hge : ¬ ((4 : Int) ≤ (K2 : Int)) := by omega
          have hKi : (K2 : Int) < 4 := by omega
          have hK3 : K2 = (K + 8) % 4 := by rw [← HKM.out, Nat.mod_eq_of_lt (by omega)]
          have hfin : F = done2 ++ dgB 4 (h'.toNat % 2 ^ K2) K2 (b.drop (k + 1)) := by
            rw [HD.out, dgs_less 4 f H K2 (by omega), List.nil_append, ← HR.out, hK3, mod_less h'.toNat H (K + 8) ((K + 8) % 4) HMOD.out (by omega)]
          have HFIN := Lib.hid hfin
          clear hK3 hfin hge
          go_wp2_with fail
          refine ⟨⟨k + 1, K2, h', done2, by omega, by go_num, rfl, rfl, by omega, HFIN.out, HO.out, HNN.out, HB.out, hsz2⟩, by simp [intOf]; omega⟩
    · have hkn : k = n := by omega
      subst hkn
      have hdn : b.drop k = [] := List.drop_of_length_le (by rw [HN.out]; exact Nat.le_refl _)
      have hge : ¬ ((k : Int) < (k : Int)) := by omega
      have hdl : done.length ≤ 2 * k + 1 := by
        have := congrArg List.length HD.out
        rw [List.length_append] at this
        omega
      have HDL := Lib.hid hdl
      have hconv : ∀ (v : Value) (V : World) (L : List Nat), V.ownsRow w.heap.size 5 1 v L.length (bvals (L.map (ch al))) → v ≠ .slice none 0 0 → (convert 26 9 v).run Tryd.prog V = .ok (.string ⟨(L.map (ch al)).toArray⟩) V := fun v V L ho hn => by
        obtain ⟨g, cp, hv, hcell⟩ : ∃ g cp, v = .slice (some ⟨g, 0, none⟩) L.length cp ∧ ∀ j x, (bvals (L.map (ch al)))[j]? = some x → V.cell? ⟨g, j, none⟩ = some x := by
          obtain ⟨hl', h | ⟨g, cap, cur, hv, hb, hg, hnc, hcm, hcs, ht⟩⟩ := ho
          · exact absurd h.1 hn
          · refine ⟨g, cap, hv, fun j x hj => ?_⟩
            rw [cell_of_row V g j cur _ _ hg, ← Array.getElem?_toList]
            have h2 : (cur.toList.take (L.length * 1))[j]? = some x := by rw [ht]; exact hj
            rw [List.getElem?_take] at h2
            split at h2
            · exact h2
            · cases h2
        subst hv
        have h := run_convert_bytes_back (P := Tryd.prog) V 26 9 5 ⟨g, 0, none⟩ cp (L.map (ch al)) Tryd.underlying26 Tryd.underlying5 Tryd.underlying9 (fun j hj => by
          rw [add_eq, Nat.zero_add]
          refine hcell j _ ?_
          unfold bvals
          rw [List.getElem?_map, List.getElem?_eq_getElem hj]
          rfl)
        rw [List.length_map] at h
        exact h
      have HCONV := Lib.hid hconv
      clear hdl hconv
      by_cases hK0 : K = 0
      · subst hK0
        have hfin : F = done := by rw [HD.out, hdn, dgB, if_neg (by omega), List.append_nil]
        have HFIN := Lib.hid hfin
        have hcv := HCONV.out _ _ _ HO.out HNN.out
        clear hdn hfin
        go_wp2_with fail
        go_ret
        rw [HFIN.out]
        exact ⟨rfl, HB.out⟩
      · obtain ⟨d, hd⟩ : ∃ d, ((h.toNat % 2 ^ K) * 2 ^ (4 - K)) % 2 ^ 4 = d := ⟨_, rfl⟩
        have hdq : d < 16 := by rw [← hd]; exact Nat.mod_lt _ (by decide)
        have hfin : F = done ++ [d] := by rw [HD.out, hdn, dgB, if_pos (by omega), hd]
        have hlow : ∀ w, Calls Tryd.prog 37 #[.int .u32 ((u h * 2 ^ (4 - K)) % 4294967296), .int .i64 4] w fun e w' => e = .returned (.int .u32 (d : Int)) ∧ w = w' := fun w => by
          have h1 := low_4 (h <<< UInt32.ofNat (4 - K)) w
          have h2 := u_shl h (4 - K) (by omega)
          have h3 : (h <<< UInt32.ofNat (4 - K)).toNat % 16 = d := by
            rw [UInt32.toNat_shiftLeft, ofNat_toNat _ (by omega), Nat.mod_eq_of_lt (show 4 - K < 32 by omega), Nat.shiftLeft_eq, ← hd]
            have hK6 : K < 4 := hK
            obtain rfl | rfl | rfl | rfl | rfl : K = 1 ∨ K = 2 ∨ K = 3 ∨ K = 4 ∨ K = 5 := by omega
            all_goals (first | omega | (simp only [Nat.reduceSub, Nat.reducePow, Nat.pow_one]; omega))
          rw [← h2, h3] at h1
          exact h1
        have hidx := HAL.out d hdq
        have hKi : (0 : Int) < (K : Int) := by omega
        have HLOW := Lib.hid hlow
        have HFIN := Lib.hid hfin
        clear hd hdq hdn hlow hfin
        go_wp2_with fail
        refine (HLOW.out _).mono ?_
        rintro e w3 ⟨rfl, rfl⟩
        go_wp2_with (at_builtin; refine wpList_append_own _ rfl (.tmp 53) (.tmp 63) 26 rfl w.heap.size 5 i0 (.int .u8 0) 1 1 Tryd.underlying26 hi hz0 hz1 hz2 rfl (by decide) _ _ _ rfl (HO.out.alloc _) ⟨wr.heap.size, 0, none⟩ 1 1 [.int .u8 ((ch al d).toNat : Int)] rfl rfl ?c1 ?c2 ?c3 ?c4 ?c5 ?_; rotate_left 5; intro v' w5 hown5 hgrow5 hnil; have HO5 := Lib.hid hown5; have HG5 := Lib.hid hgrow5; have HNIL := Lib.hid hnil; have HCV := HCONV.out v' w5 (done ++ [d]) (by rw [List.length_append, List.map_append, bvals_app]; exact hown5) (fun e => absurd (hnil.1 e).2 (by omega)); clear hown5 hgrow5 hnil)
        case c1 => exact cells_one _ _ _
        case c2 => simp [Value.oneCell']
        case c3 => unfold maxLen; have := HDL.out; omega
        case c4 => have := HDL.out; omega
        case c5 => simp; omega
        obtain ⟨g1, g2⟩ := own_step' HO.out HG5.out HB.out (Nat.le_of_lt hsz)
        go_ret
        rw [HFIN.out]
        refine ⟨ret_eq ?_, g1⟩
        simp
set_option maxRecDepth 100000 in
set_option maxHeartbeats 4000000 in
theorem digits_6 (al : ByteArray) (hal : al.size = 64) (b : List UInt8) (A : Option Addr) (c : Nat) (hl : b.length ≤ 100000) (hc : b.length ≤ c) (w : World) (hs : SrcAt A b w) :
    Calls Tryd.prog 25 #[.slice A b.length c, .int .i64 6, .string al] w fun e w' => e = .returned (.string ⟨((dgB 6 0 0 b).map (ch al)).toArray⟩) ∧ Below w.heap.size w w' := by
  obtain ⟨F, hF⟩ : ∃ F, dgB 6 0 0 b = F := ⟨_, rfl⟩
  rw [hF]
  have HF := Lib.hid hF
  have HAL := Lib.hid (fun d (h : d < 64) => run_index_char al d (by rw [hal]; exact h))
  have hFl : F.length ≤ 2 * b.length + 1 := by rw [← hF]; exact dgB_len 6 (by decide) b 0 0 (by omega)
  obtain ⟨n, hn⟩ : ∃ n, b.length = n := ⟨_, rfl⟩
  rw [hn] at hl hc hFl ⊢
  have HN := Lib.hid hn
  have HS := Lib.hid hs
  obtain ⟨i0, hi, hz0, hz1, hz2⟩ := info_parts Tryd.info_byte
  have b2 : i0.bytes * ((8 * n + 6 - 1) / 6) ≤ 281474976710656 := by rw [hz2]; omega
  have b3 : (8 * n + 6 - 1) / 6 ≤ maxLen := by unfold maxLen; omega
  have B2 := Lib.hid b2
  have B3 := Lib.hid b3
  clear hF hn hs b2 b3 hal
  go_enter Tryd.func25, Tryd.ntmps25
  go_wp2_with (at_make; refine wpList_make_own _ rfl (.const (.int .i64 0)) (.tmp 19) 26 rfl w.heap.size 5 i0 (.int .u8 0) 1 Tryd.underlying26 hi hz0 hz1 .i64 .i64 _ ((8 * n + 6 - 1) / 6) rfl rfl ?cC B2.out B3.out (Nat.le_refl _) ?_; rotate_left 1; intro w1 hown1 hg1; have HO1 := Lib.hid hown1; have HG1 := Lib.hid hg1; clear hown1 hg1)
  case cC => omega
  have hb1 : Below w.heap.size w w1 := (Below.refl _ _).grown HG1.out (Nat.le_refl _) (fun k hk => by cases hk)
  have hsz1 : w.heap.size < w1.heap.size := by
    have := (HO1.out.lt w.heap.size rfl).2
    exact this
  have HB1 := Lib.hid hb1
  clear hb1
  go_loopw [7, 8, 9, 23] (fun v s8 s9 i wr => ∃ (k K : Nat) (h : UInt32) (done : List Nat), k ≤ n ∧ i = .int .i64 (k : Int) ∧ s8 = .int .u32 (u h) ∧ s9 = .int .i64 (K : Int) ∧ K < 6 ∧ F = done ++ dgB 6 (h.toNat % 2 ^ K) K (b.drop k) ∧ wr.ownsRow w.heap.size 5 1 v done.length (bvals (done.map (ch al))) ∧ v ≠ .slice none 0 0 ∧ Below w.heap.size w wr ∧ w.heap.size < wr.heap.size) (fun _ _ _ i _ => n - (intOf i).toNat)
  case atStart => exact ⟨0, 0, 0, [], by omega, rfl, rfl, rfl, by omega, HF.out.symm, HO1.out, (by simp), HB1.out, hsz1⟩
  case round =>
    obtain ⟨k, K, h, done, hk, rfl, rfl, rfl, hK, hd, hown, hnn, hbel, hsz⟩ := hrel
    clear HO1 HG1 HB1 hsz1
    have HD := Lib.hid hd
    have HO := Lib.hid hown
    have HNN := Lib.hid hnn
    have HB := Lib.hid hbel
    clear hd hown hnn hbel
    by_cases hlt : k < n
    · obtain ⟨x, hx⟩ : ∃ x, b[k]? = some x := ⟨_, List.getElem?_eq_getElem (by rw [HN.out]; exact hlt)⟩
      obtain ⟨g, o, rfl, hsr⟩ := HS.out (by intro e; rw [e] at hx; simp at hx)
      have h1 := hsr k x hx
      have hck : wr.cell? ⟨g, o + k, none⟩ = some (.int .u8 (x.toNat : Int)) := by
        rw [HB.out.cell (p := ⟨g, o + k, none⟩) (World.block_lt_of_cell? _ _ h1)]
        exact h1
      have hdk : b.drop k = x :: b.drop (k + 1) := by
        obtain ⟨hlt2, e⟩ := List.getElem?_eq_some_iff.1 hx
        rw [List.drop_eq_getElem_cons hlt2, e]
      obtain ⟨h', hh'⟩ : ∃ h', takeIn h x = h' := ⟨_, rfl⟩
      have hmod := takeIn_mod h x K (by omega)
      rw [hh'] at hmod
      obtain ⟨H, hH⟩ : ∃ H, (h.toNat % 2 ^ K) * 256 + x.toNat = H := ⟨_, rfl⟩
      rw [hH] at hmod
      have htk := u_takeIn h x
      rw [hh'] at htk
      have hF2 : F = done ++ (dgs 6 4 H (K + 8) ++ dgB 6 (H % 2 ^ ((K + 8) % 6)) ((K + 8) % 6) (b.drop (k + 1))) := by
        rw [HD.out, hdk, dgB, hH]
      have HF2 := Lib.hid hF2
      have HMOD := Lib.hid hmod
      have HTK := Lib.hid htk
      have hki : (k : Int) < (n : Int) := by omega
      have hx8 : x.toNat < 256 := x.toNat_lt
      clear hx hsr h1 hdk hh' hmod hH htk hF2
      go_wp2_with fail
      rw [HTK.out]
      obtain ⟨R, hR⟩ : ∃ R, dgB 6 (H % 2 ^ ((K + 8) % 6)) ((K + 8) % 6) (b.drop (k + 1)) = R := ⟨_, rfl⟩
      rw [hR] at HF2
      have HR := Lib.hid hR
      have HX0 : RowKit.Hid (K + 8 ≤ 13) := Lib.hid (by omega)
      clear hR
      go_loopw [7, 9] (fun v s9 wr => ∃ (K2 f : Nat) (done : List Nat), K2 ≤ K + 8 ∧ s9 = .int .i64 (K2 : Int) ∧ K2 % 6 = (K + 8) % 6 ∧ K2 ≤ 6 * f ∧ F = done ++ (dgs 6 f H K2 ++ R) ∧ wr.ownsRow w.heap.size 5 1 v done.length (bvals (done.map (ch al))) ∧ v ≠ .slice none 0 0 ∧ Below w.heap.size w wr ∧ w.heap.size < wr.heap.size) (fun _ s9 _ => (intOf s9).toNat)
      case atStart => exact ⟨K + 8, 4, done, by omega, rfl, rfl, by omega, HF2.out, HO.out, HNN.out, HB.out, hsz⟩
      case round =>
        obtain ⟨K2, f, done2, hK2, rfl, hKm, hf, hd, hown, hnn, hbel, hsz2⟩ := hrel
        clear HO HNN HB hsz hck HD HF2 HTK
        have HD := Lib.hid hd
        have HO := Lib.hid hown
        have HNN := Lib.hid hnn
        have HB := Lib.hid hbel
        have HKM := Lib.hid hKm
        clear hd hown hnn hbel hKm
        by_cases hw : 6 ≤ K2
        · obtain ⟨f', rfl⟩ : ∃ f', f = f' + 1 := ⟨f - 1, by omega⟩
          obtain ⟨d, hd⟩ : ∃ d, (H / 2 ^ (K2 - 6)) % 2 ^ 6 = d := ⟨_, rfl⟩
          have hdq : d < 64 := by rw [← hd]; exact Nat.mod_lt _ (by decide)
          have hF3 : F = (done2 ++ [d]) ++ (dgs 6 f' H (K2 - 6) ++ R) := by
            rw [HD.out, dgs, if_pos hw, hd]
            simp
          have hpart := mod_part h'.toNat H (K + 8) (K2 - 6) 6 HMOD.out (by omega)
          have hlow : ∀ w, Calls Tryd.prog 37 #[.int .u32 (u h' / 2 ^ (K2 - 6)), .int .i64 6] w fun e w' => e = .returned (.int .u32 (d : Int)) ∧ w = w' := fun w => by
            have h1 := low_6 (h' >>> UInt32.ofNat (K2 - 6)) w
            have h2 := u_shr h' (K2 - 6) (by have := HX0.out; omega)
            have h3 : (h' >>> UInt32.ofNat (K2 - 6)).toNat = h'.toNat / 2 ^ (K2 - 6) := by
              rw [UInt32.toNat_shiftRight, ofNat_toNat _ (by have := HX0.out; omega), Nat.mod_eq_of_lt (by have := HX0.out; omega), Nat.shiftRight_eq_div_pow]
            rw [← h2, h3] at h1
            have h5 : h'.toNat / 2 ^ (K2 - 6) % 64 = d := by
              have h6 : h'.toNat / 2 ^ (K2 - 6) % 2 ^ 6 = d := hpart.trans hd
              exact h6
            rw [h5] at h1
            exact h1
          have hidx := HAL.out d hdq
          have HLOW := Lib.hid hlow
          have HF3 := Lib.hid hF3
          have hKi : (6 : Int) ≤ (K2 : Int) := by omega
          have hK13 : (K2 : Int) ≤ 13 := by have := HX0.out; omega
          have hdl : done2.length ≤ 2 * n + 1 := by
            have := congrArg List.length HD.out
            rw [List.length_append] at this
            omega
          have HDL := Lib.hid hdl
          clear hd hdq hF3 hpart hlow hdl
          go_wp2_with fail
          refine (HLOW.out _).mono ?_
          rintro e w3 ⟨rfl, rfl⟩
          go_wp2_with (at_builtin; refine wpList_append_own _ rfl (.tmp 40) (.tmp 48) 26 rfl w.heap.size 5 i0 (.int .u8 0) 1 1 Tryd.underlying26 hi hz0 hz1 hz2 rfl (by decide) _ _ _ rfl (HO.out.alloc _) ⟨wr.heap.size, 0, none⟩ 1 1 [.int .u8 ((ch al d).toNat : Int)] rfl rfl ?c1 ?c2 ?c3 ?c4 ?c5 ?_; rotate_left 5; intro v' w5 hown5 hgrow5 hnil; have HO5 := Lib.hid hown5; have HG5 := Lib.hid hgrow5; have HNIL := Lib.hid hnil; clear hown5 hgrow5 hnil)
          case c1 => exact cells_one _ _ _
          case c2 => simp [Value.oneCell']
          case c3 => unfold maxLen; have := HDL.out; omega
          case c4 => have := HDL.out; omega
          case c5 => simp; omega
          obtain ⟨g1, g2⟩ := own_step' HO.out HG5.out HB.out (Nat.le_of_lt hsz2)
          refine ⟨⟨K2 - 6, f', done2 ++ [d], by omega, by congr 1; omega, ?_, by omega, HF3.out, ?_, ?_, g1, ?_⟩, by simp [intOf]; omega⟩
          · rw [← HKM.out]; omega
          · rw [List.length_append, List.map_append, bvals_app]
            exact HO5.out
          · intro e
            have := (HNIL.out.1 e).2
            omega
          · have h := HG5.out.size
            simp at h
            omega
        · have hge : ¬ ((6 : Int) ≤ (K2 : Int)) := by omega
          have hKi : (K2 : Int) < 6 := by omega
          have hK3 : K2 = (K + 8) % 6 := by rw [← HKM.out, Nat.mod_eq_of_lt (by omega)]
          have hfin : F = done2 ++ dgB 6 (h'.toNat % 2 ^ K2) K2 (b.drop (k + 1)) := by
            rw [HD.out, dgs_less 6 f H K2 (by omega), List.nil_append, ← HR.out, hK3, mod_less h'.toNat H (K + 8) ((K + 8) % 6) HMOD.out (by omega)]
          have HFIN := Lib.hid hfin
          clear hK3 hfin hge
          go_wp2_with fail
          refine ⟨⟨k + 1, K2, h', done2, by omega, by go_num, rfl, rfl, by omega, HFIN.out, HO.out, HNN.out, HB.out, hsz2⟩, by simp [intOf]; omega⟩
    · have hkn : k = n := by omega
      subst hkn
      have hdn : b.drop k = [] := List.drop_of_length_le (by rw [HN.out]; exact Nat.le_refl _)
      have hge : ¬ ((k : Int) < (k : Int)) := by omega
      have hdl : done.length ≤ 2 * k + 1 := by
        have := congrArg List.length HD.out
        rw [List.length_append] at this
        omega
      have HDL := Lib.hid hdl
      have hconv : ∀ (v : Value) (V : World) (L : List Nat), V.ownsRow w.heap.size 5 1 v L.length (bvals (L.map (ch al))) → v ≠ .slice none 0 0 → (convert 26 9 v).run Tryd.prog V = .ok (.string ⟨(L.map (ch al)).toArray⟩) V := fun v V L ho hn => by
        obtain ⟨g, cp, hv, hcell⟩ : ∃ g cp, v = .slice (some ⟨g, 0, none⟩) L.length cp ∧ ∀ j x, (bvals (L.map (ch al)))[j]? = some x → V.cell? ⟨g, j, none⟩ = some x := by
          obtain ⟨hl', h | ⟨g, cap, cur, hv, hb, hg, hnc, hcm, hcs, ht⟩⟩ := ho
          · exact absurd h.1 hn
          · refine ⟨g, cap, hv, fun j x hj => ?_⟩
            rw [cell_of_row V g j cur _ _ hg, ← Array.getElem?_toList]
            have h2 : (cur.toList.take (L.length * 1))[j]? = some x := by rw [ht]; exact hj
            rw [List.getElem?_take] at h2
            split at h2
            · exact h2
            · cases h2
        subst hv
        have h := run_convert_bytes_back (P := Tryd.prog) V 26 9 5 ⟨g, 0, none⟩ cp (L.map (ch al)) Tryd.underlying26 Tryd.underlying5 Tryd.underlying9 (fun j hj => by
          rw [add_eq, Nat.zero_add]
          refine hcell j _ ?_
          unfold bvals
          rw [List.getElem?_map, List.getElem?_eq_getElem hj]
          rfl)
        rw [List.length_map] at h
        exact h
      have HCONV := Lib.hid hconv
      clear hdl hconv
      by_cases hK0 : K = 0
      · subst hK0
        have hfin : F = done := by rw [HD.out, hdn, dgB, if_neg (by omega), List.append_nil]
        have HFIN := Lib.hid hfin
        have hcv := HCONV.out _ _ _ HO.out HNN.out
        clear hdn hfin
        go_wp2_with fail
        go_ret
        rw [HFIN.out]
        exact ⟨rfl, HB.out⟩
      · obtain ⟨d, hd⟩ : ∃ d, ((h.toNat % 2 ^ K) * 2 ^ (6 - K)) % 2 ^ 6 = d := ⟨_, rfl⟩
        have hdq : d < 64 := by rw [← hd]; exact Nat.mod_lt _ (by decide)
        have hfin : F = done ++ [d] := by rw [HD.out, hdn, dgB, if_pos (by omega), hd]
        have hlow : ∀ w, Calls Tryd.prog 37 #[.int .u32 ((u h * 2 ^ (6 - K)) % 4294967296), .int .i64 6] w fun e w' => e = .returned (.int .u32 (d : Int)) ∧ w = w' := fun w => by
          have h1 := low_6 (h <<< UInt32.ofNat (6 - K)) w
          have h2 := u_shl h (6 - K) (by omega)
          have h3 : (h <<< UInt32.ofNat (6 - K)).toNat % 64 = d := by
            rw [UInt32.toNat_shiftLeft, ofNat_toNat _ (by omega), Nat.mod_eq_of_lt (show 6 - K < 32 by omega), Nat.shiftLeft_eq, ← hd]
            have hK6 : K < 6 := hK
            obtain rfl | rfl | rfl | rfl | rfl : K = 1 ∨ K = 2 ∨ K = 3 ∨ K = 4 ∨ K = 5 := by omega
            all_goals (first | omega | (simp only [Nat.reduceSub, Nat.reducePow, Nat.pow_one]; omega))
          rw [← h2, h3] at h1
          exact h1
        have hidx := HAL.out d hdq
        have hKi : (0 : Int) < (K : Int) := by omega
        have HLOW := Lib.hid hlow
        have HFIN := Lib.hid hfin
        clear hd hdq hdn hlow hfin
        go_wp2_with fail
        refine (HLOW.out _).mono ?_
        rintro e w3 ⟨rfl, rfl⟩
        go_wp2_with (at_builtin; refine wpList_append_own _ rfl (.tmp 53) (.tmp 63) 26 rfl w.heap.size 5 i0 (.int .u8 0) 1 1 Tryd.underlying26 hi hz0 hz1 hz2 rfl (by decide) _ _ _ rfl (HO.out.alloc _) ⟨wr.heap.size, 0, none⟩ 1 1 [.int .u8 ((ch al d).toNat : Int)] rfl rfl ?c1 ?c2 ?c3 ?c4 ?c5 ?_; rotate_left 5; intro v' w5 hown5 hgrow5 hnil; have HO5 := Lib.hid hown5; have HG5 := Lib.hid hgrow5; have HNIL := Lib.hid hnil; have HCV := HCONV.out v' w5 (done ++ [d]) (by rw [List.length_append, List.map_append, bvals_app]; exact hown5) (fun e => absurd (hnil.1 e).2 (by omega)); clear hown5 hgrow5 hnil)
        case c1 => exact cells_one _ _ _
        case c2 => simp [Value.oneCell']
        case c3 => unfold maxLen; have := HDL.out; omega
        case c4 => have := HDL.out; omega
        case c5 => simp; omega
        obtain ⟨g1, g2⟩ := own_step' HO.out HG5.out HB.out (Nat.le_of_lt hsz)
        go_ret
        rw [HFIN.out]
        refine ⟨ret_eq ?_, g1⟩
        simp
end Go.Proofs.YtjgebpgdiinmbaaDoor
