/-
  THE WALKS over digits as bytes.
-/
import Derived.Test.YtjgebpgdiinmbaaDigSame
import Derived.Test.YtjgebpgdiinmbaaDigLenM
import Derived.Lib.Bytealg
namespace Go.Proofs.Ytjgebpgdiinmbaa
open Go.RowKit Sha
set_option linter.unusedVariables false
set_option linter.unusedSimpArgs false
/-- a character's value -/
def dv (al : ByteArray) (c : UInt8) : Int := Lib.indexByte al.data.toList c
set_option maxRecDepth 100000 in
set_option maxHeartbeats 1000000 in
theorem idx_any (al : ByteArray) (c : UInt8) (w : World) : Calls Try.prog 18 #[.string al, .int .u8 (c.toNat : Int)] w fun e w' => e = .returned (.int .i64 (dv al c)) ∧ w = w' := by
  have hc : ((c.toNat : Int)).toNat.toUInt8 = c := by
    rw [Int.toNat_natCast]
    exact UInt8.ofNat_toNat
  have h : Calls Try.prog 26 #[.string al, .int .u8 (c.toNat : Int)] w fun e w' => e = .returned (.int .i64 (dv al c)) ∧ w = w' := by
    unfold dv
    go_enter Try.func26, Try.ntmps26
    go_wp2_with fail
    rw [run_callFunc_extern Try.func32 (by kernel_rfl) (by kernel_rfl) (by kernel_rfl) (e := Extern.BytealgIndexByte.indexByte) (by kernel_rfl), Lib.run_indexByteString]
    simp only [Result.andThen]
    rw [Oper.upon_value]
    go_wp2
    go_ret
    exact ⟨rfl, rfl⟩
  have H := Lib.hid h
  clear h hc
  go_enter Try.func18, Try.ntmps18
  go_wp2_with fail
  refine H.out.mono ?_
  rintro e w1 ⟨rfl, rfl⟩
  go_wp2_with fail
  go_ret
  exact ⟨rfl, rfl⟩
/-- the bytes of digits, K bits with the value P being ahead -/
def und (W : Nat) (al : ByteArray) : Nat → Nat → List UInt8 → List UInt8
  | _, _, [] => []
  | P, K, c :: r => if dv al c < 0 then [] else if 8 ≤ K + W then UInt8.ofNat ((P * 2 ^ W + (dv al c).toNat) / 2 ^ (K + W - 8)) :: und W al ((P * 2 ^ W + (dv al c).toNat) % 2 ^ (K + W - 8)) (K + W - 8) r else und W al (P * 2 ^ W + (dv al c).toNat) (K + W) r
theorem und_len (W : Nat) (al : ByteArray) : ∀ (s : List UInt8) (P K : Nat), (und W al P K s).length ≤ s.length
  | [], P, K => by unfold und; simp
  | c :: r, P, K => by
    rw [und]
    split
    · simp
    · split
      · have := und_len W al r ((P * 2 ^ W + (dv al c).toNat) % 2 ^ (K + W - 8)) (K + W - 8)
        simp
        omega
      · have := und_len W al r (P * 2 ^ W + (dv al c).toNat) (K + W)
        simp
        omega
/-- a word takes in a digit -/
def takeD (W : Nat) (h : UInt32) (d : Nat) : UInt32 := (h <<< UInt32.ofNat W) ||| UInt32.ofNat d
theorem u_takeD (W : Nat) (h : UInt32) (d : Nat) (hW : W < 32) (hd : d < 2 ^ W) : bits .or .u32 ((u h * 2 ^ W) % 4294967296) (d : Int) = u (takeD W h d) := by
  have h32 : 2 ^ W ≤ 2 ^ 31 := Nat.pow_le_pow_right (by omega) (by omega)
  have h2 : (d : Int) = u (UInt32.ofNat d) := by
    unfold u
    rw [UInt32.toNat_ofNat', Nat.mod_eq_of_lt (by omega)]
  rw [u_shl h W hW, h2, u_or]
  rfl
theorem takeD_nat (W : Nat) (h : UInt32) (d : Nat) (hW : W = 4 ∨ W = 6) (hd : d < 2 ^ W) : (takeD W h d).toNat = (h.toNat * 2 ^ W) % 4294967296 + d := by
  have h2 := h.toNat_lt
  unfold takeD
  obtain rfl | rfl := hW
  · have hd : d < 16 := hd
    rw [UInt32.toNat_or, UInt32.toNat_shiftLeft, show (UInt32.ofNat d).toNat = d by rw [UInt32.toNat_ofNat', Nat.mod_eq_of_lt (show d < 2 ^ 32 by omega)]]
    rw [show (UInt32.ofNat 4).toNat % 32 = 4 from rfl, Nat.shiftLeft_eq]
    rw [show h.toNat * 2 ^ 4 % 2 ^ 32 = (h.toNat % 2 ^ 28) * 2 ^ 4 by omega]
    rw [← Nat.shiftLeft_eq, ← Nat.shiftLeft_add_eq_or_of_lt (show d < 2 ^ 4 by omega), Nat.shiftLeft_eq]
    first | done | omega
  · have hd : d < 64 := hd
    rw [UInt32.toNat_or, UInt32.toNat_shiftLeft, show (UInt32.ofNat d).toNat = d by rw [UInt32.toNat_ofNat', Nat.mod_eq_of_lt (show d < 2 ^ 32 by omega)]]
    rw [show (UInt32.ofNat 6).toNat % 32 = 6 from rfl, Nat.shiftLeft_eq]
    rw [show h.toNat * 2 ^ 6 % 2 ^ 32 = (h.toNat % 2 ^ 26) * 2 ^ 6 by omega]
    rw [← Nat.shiftLeft_eq, ← Nat.shiftLeft_add_eq_or_of_lt (show d < 2 ^ 6 by omega), Nat.shiftLeft_eq]
    first | done | omega
theorem takeD_mod (W : Nat) (h : UInt32) (d K : Nat) (hW : W = 4 ∨ W = 6) (hd : d < 2 ^ W) (hK : K < 8) : (takeD W h d).toNat % 2 ^ (K + W) = (h.toNat % 2 ^ K) * 2 ^ W + d := by
  rw [takeD_nat W h d hW hd]
  obtain rfl | rfl := hW
  · have hd : d < 16 := hd
    obtain rfl | rfl | rfl | rfl | rfl | rfl | rfl | rfl : K = 0 ∨ K = 1 ∨ K = 2 ∨ K = 3 ∨ K = 4 ∨ K = 5 ∨ K = 6 ∨ K = 7 := by omega
    all_goals (simp only [Nat.reduceAdd, Nat.reducePow]; omega)
  · have hd : d < 64 := hd
    obtain rfl | rfl | rfl | rfl | rfl | rfl | rfl | rfl : K = 0 ∨ K = 1 ∨ K = 2 ∨ K = 3 ∨ K = 4 ∨ K = 5 ∨ K = 6 ∨ K = 7 := by omega
    all_goals (simp only [Nat.reduceAdd, Nat.reducePow]; omega)
theorem dv_lt (al : ByteArray) (c : UInt8) : dv al c < al.size := by
  have h : ∀ l : List UInt8, Lib.indexByte l c < l.length := fun l => by
    induction l with
    | nil => simp [Lib.indexByte]
    | cons x r ih =>
      unfold Lib.indexByte
      split
      · simp only [List.length_cons]; omega
      · split
        · simp only [List.length_cons]; omega
        · simp only [List.length_cons]; omega
  have := h al.data.toList
  unfold dv
  simpa using this
set_option maxRecDepth 100000 in
set_option maxHeartbeats 4000000 in
theorem undig_4 (al : ByteArray) (hal : al.size = 16) (s : ByteArray) (hl : s.size ≤ 100000) (w : World) :
    Calls Try.prog 14 #[.string s, .int .i64 4, .string al] w fun e w' => ∃ v, e = .returned v ∧ w'.ownsRow w.heap.size 5 1 v (und 4 al 0 0 s.data.toList).length (bvals (und 4 al 0 0 s.data.toList)) ∧ v ≠ .slice none 0 0 ∧ Below w.heap.size w w' := by
  obtain ⟨F, hF⟩ : ∃ F, und 4 al 0 0 s.data.toList = F := ⟨_, rfl⟩
  have hFl : F.length ≤ s.size := by
    rw [← hF]
    have := und_len 4 al s.data.toList 0 0
    simpa using this
  rw [hF]
  have HF := Lib.hid hF
  obtain ⟨n, hn⟩ : ∃ n, s.size = n := ⟨_, rfl⟩
  have HN := Lib.hid hn
  have hsn : s.size ≤ 100000 := hl
  rw [hn] at hl hFl
  have HFL := Lib.hid hFl
  have hdv : ∀ c, dv al c < 16 := fun c => by have := dv_lt al c; rw [hal] at this; exact this
  have HDV := Lib.hid hdv
  obtain ⟨i0, hi, hz0, hz1, hz2⟩ := info_parts Try.info_byte
  have b2 : i0.bytes * (n * 4 / 8) ≤ 281474976710656 := by rw [hz2]; omega
  have b3 : n * 4 / 8 ≤ maxLen := by unfold maxLen; omega
  have B2 := Lib.hid b2
  have B3 := Lib.hid b3
  clear hF hn hFl hdv b2 b3 hal
  go_enter Try.func14, Try.ntmps14
  go_wp2_with (at_make; refine wpList_make_own _ rfl (.const (.int .i64 0)) (.tmp 16) 22 rfl w.heap.size 5 i0 (.int .u8 0) 1 Try.underlying22 hi hz0 hz1 .i64 .i64 _ (n * 4 / 8) rfl rfl ?cC B2.out B3.out (Nat.le_refl _) ?_; rotate_left 1; intro w1 hown1 hg1; have HO1 := Lib.hid hown1; have HG1 := Lib.hid hg1; clear hown1 hg1)
  case cC => have := HN.out; omega
  have hb1 : Below w.heap.size w w1 := (Below.refl _ _).grown HG1.out (Nat.le_refl _) (fun k hk => by cases hk)
  have hsz1 : w.heap.size < w1.heap.size := (HO1.out.lt w.heap.size rfl).2
  have HB1 := Lib.hid hb1
  clear hb1
  go_loopw [7, 8, 9, 20] (fun v s8 s9 i wr => ∃ (k K : Nat) (h : UInt32) (done : List UInt8), k ≤ s.size ∧ i = .int .i64 (k : Int) ∧ s8 = .int .u32 (u h) ∧ s9 = .int .i64 (K : Int) ∧ K < 8 ∧ F = done ++ und 4 al (h.toNat % 2 ^ K) K (s.data.toList.drop k) ∧ wr.ownsRow w.heap.size 5 1 v done.length (bvals done) ∧ v ≠ .slice none 0 0 ∧ Below w.heap.size w wr ∧ w.heap.size < wr.heap.size) (fun _ _ _ i _ => s.size - (intOf i).toNat)
  case atStart => exact ⟨0, 0, 0, [], by omega, rfl, rfl, rfl, by omega, HF.out.symm, HO1.out, (by simp), HB1.out, hsz1⟩
  case round =>
    obtain ⟨k, K, h, done, hk, rfl, rfl, rfl, hK, hd, hown, hnn, hbel, hsz⟩ := hrel
    clear HO1 HG1 HB1 hsz1
    have HD := Lib.hid hd
    have HO := Lib.hid hown
    have HNN := Lib.hid hnn
    have HB := Lib.hid hbel
    clear hd hown hnn hbel
    by_cases hlt : k < s.size
    · obtain ⟨c, hc⟩ : ∃ c, s[k]'hlt = c := ⟨_, rfl⟩
      have hdk : s.data.toList.drop k = c :: s.data.toList.drop (k + 1) := by
        rw [List.drop_eq_getElem_cons (by simpa using hlt), ← hc]
        rfl
      have hki : (k : Int) < (s.size : Int) := by omega
      have HIDX := Lib.hid (fun w => idx_any al (s[k]'hlt) w)
      rw [hc] at HIDX
      have hci : ((s[k]'hlt).toNat : Int) = (c.toNat : Int) := by rw [hc]
      have HCI := Lib.hid hci
      have HDK := Lib.hid hdk
      by_cases hneg : dv al c < 0
      · have hfin : F = done := by rw [HD.out, HDK.out, und, if_pos hneg, List.append_nil]
        have HFIN := Lib.hid hfin
        clear hc hdk hci hfin
        go_wp2_with fail
        rw [HCI.out]
        refine (HIDX.out _).mono ?_
        rintro e w3 ⟨rfl, rfl⟩
        go_wp2_with fail
        go_ret
        refine ⟨_, rfl, ?_, HNN.out, HB.out⟩
        rw [HFIN.out]
        exact HO.out
      · obtain ⟨d, hdd⟩ : ∃ d : Nat, dv al c = (d : Int) := ⟨(dv al c).toNat, by omega⟩
        have hdq : d < 16 := by have := HDV.out c; omega
        obtain ⟨h', hh'⟩ : ∃ h', takeD 4 h d = h' := ⟨_, rfl⟩
        have hmod := takeD_mod 4 h d K (by decide) hdq hK
        have htk := u_takeD 4 h d (by decide) hdq
        rw [hh'] at hmod htk
        rw [hdd] at HIDX
        have hund : und 4 al (h.toNat % 2 ^ K) K (s.data.toList.drop k) = (if 8 ≤ K + 4 then UInt8.ofNat (((h.toNat % 2 ^ K) * 2 ^ 4 + d) / 2 ^ (K + 4 - 8)) :: und 4 al (((h.toNat % 2 ^ K) * 2 ^ 4 + d) % 2 ^ (K + 4 - 8)) (K + 4 - 8) (s.data.toList.drop (k + 1)) else und 4 al ((h.toNat % 2 ^ K) * 2 ^ 4 + d) (K + 4) (s.data.toList.drop (k + 1))) := by
          rw [HDK.out, und, if_neg hneg, hdd, Int.toNat_natCast]
        obtain ⟨H, hH⟩ : ∃ H, (h.toNat % 2 ^ K) * 2 ^ 4 + d = H := ⟨_, rfl⟩
        rw [hH] at hmod hund
        have HMOD := Lib.hid hmod
        have HTK := Lib.hid htk
        have htk2 : bits .or .u32 ((u h * 16) % 4294967296) (d : Int) = u h' := htk
        have HTK2 := Lib.hid htk2
        have HUND := Lib.hid hund
        clear hc hdk hci hneg hdd hh' hmod htk htk2 hH hund
        by_cases h8 : 8 ≤ K + 4
        · have hF3 : F = (done ++ [UInt8.ofNat (H / 2 ^ (K + 4 - 8))]) ++ und 4 al (h'.toNat % 2 ^ (K + 4 - 8)) (K + 4 - 8) (s.data.toList.drop (k + 1)) := by
            rw [HD.out, HUND.out, if_pos h8, mod_less h'.toNat H (K + 4) (K + 4 - 8) HMOD.out (by omega)]
            simp
          have hbyte : (u h' / 2 ^ (K + 4 - 8)) % 256 = ((UInt8.ofNat (H / 2 ^ (K + 4 - 8))).toNat : Int) := by
            have h1 := mod_part h'.toNat H (K + 4) (K + 4 - 8) 8 HMOD.out (by omega)
            rw [UInt8.toNat_ofNat', ← h1]
            unfold u
            rw [Int.natCast_emod, Int.natCast_ediv, Int.natCast_pow]
            rfl
          obtain ⟨y, hy⟩ : ∃ y, UInt8.ofNat (H / 2 ^ (K + 4 - 8)) = y := ⟨_, rfl⟩
          rw [hy] at hF3 hbyte
          have HF3 := Lib.hid hF3
          have HBY := Lib.hid hbyte
          have hdl : done.length ≤ 100000 := by
            have h1 := congrArg List.length HD.out
            rw [List.length_append] at h1
            have h2 := HFL.out
            omega
          have HDL := Lib.hid hdl
          have h8i : (8 : Int) ≤ (K : Int) + 4 := by omega
          clear hy hF3 hbyte hdl
          go_wp2_with fail
          rw [HCI.out]
          refine (HIDX.out _).mono ?_
          rintro e w3 ⟨rfl, rfl⟩
          go_wp2_with (at_builtin; refine wpList_append_own _ rfl (.tmp 43) (.tmp 48) 22 rfl w.heap.size 5 i0 (.int .u8 0) 1 1 Try.underlying22 hi hz0 hz1 hz2 rfl (by decide) _ _ _ rfl (HO.out.alloc _) ⟨wr.heap.size, 0, none⟩ 1 1 [.int .u8 (bits .or .u32 ((u h * 16) % 4294967296) (d : Int) / 2 ^ (K - 4) % 256)] rfl rfl ?c1 ?c2 ?c3 ?c4 ?c5 ?_; rotate_left 5; intro v' w5 hown5 hgrow5 hnil; have HO5 := Lib.hid hown5; have HG5 := Lib.hid hgrow5; have HNIL := Lib.hid hnil; clear hown5 hgrow5 hnil)
          case c1 => exact cells_one _ _ _
          case c2 => simp [Value.oneCell']
          case c3 => unfold maxLen; have := HDL.out; omega
          case c4 => have := HDL.out; omega
          case c5 => simp; omega
          obtain ⟨g1, g2⟩ := own_step' HO.out HG5.out HB.out (Nat.le_of_lt hsz)
          refine ⟨⟨k + 1, K + 4 - 8, h', done ++ [y], by omega, by go_num, by rw [HTK2.out], by congr 1; omega, by omega, HF3.out, ?_, ?_, g1, ?_⟩, by simp [intOf]; omega⟩
          · rw [List.length_append, bvals_app]
            have h1 := HO5.out
            have h2 := HBY.out
            rw [show K + 4 - 8 = K - 4 by omega] at h2
            rw [HTK2.out, h2] at h1
            exact h1
          · intro e
            have := (HNIL.out.1 e).2
            omega
          · have h := HG5.out.size
            simp at h
            omega
        · have hF3 : F = done ++ und 4 al (h'.toNat % 2 ^ (K + 4)) (K + 4) (s.data.toList.drop (k + 1)) := by
            rw [HD.out, HUND.out, if_neg h8, HMOD.out]
          have HF3 := Lib.hid hF3
          have h8i : ¬ (8 : Int) ≤ (K : Int) + 4 := by omega
          clear hF3
          go_wp2_with fail
          rw [HCI.out]
          refine (HIDX.out _).mono ?_
          rintro e w3 ⟨rfl, rfl⟩
          go_wp2_with fail
          refine ⟨⟨k + 1, K + 4, h', done, by omega, by go_num, by rw [HTK2.out], by congr 1, by omega, HF3.out, HO.out, HNN.out, HB.out, hsz⟩, by simp [intOf]; omega⟩
    · have hge : ¬ ((k : Int) < (s.size : Int)) := by omega
      have hfin : F = done := by rw [HD.out, List.drop_of_length_le (by simp; omega), und, List.append_nil]
      have HFIN := Lib.hid hfin
      clear hfin
      go_wp2_with fail
      go_ret
      refine ⟨_, rfl, ?_, HNN.out, HB.out⟩
      rw [HFIN.out]
      exact HO.out
set_option maxRecDepth 100000 in
set_option maxHeartbeats 4000000 in
theorem undig_6 (al : ByteArray) (hal : al.size = 64) (s : ByteArray) (hl : s.size ≤ 100000) (w : World) :
    Calls Try.prog 14 #[.string s, .int .i64 6, .string al] w fun e w' => ∃ v, e = .returned v ∧ w'.ownsRow w.heap.size 5 1 v (und 6 al 0 0 s.data.toList).length (bvals (und 6 al 0 0 s.data.toList)) ∧ v ≠ .slice none 0 0 ∧ Below w.heap.size w w' := by
  obtain ⟨F, hF⟩ : ∃ F, und 6 al 0 0 s.data.toList = F := ⟨_, rfl⟩
  have hFl : F.length ≤ s.size := by
    rw [← hF]
    have := und_len 6 al s.data.toList 0 0
    simpa using this
  rw [hF]
  have HF := Lib.hid hF
  obtain ⟨n, hn⟩ : ∃ n, s.size = n := ⟨_, rfl⟩
  have HN := Lib.hid hn
  have hsn : s.size ≤ 100000 := hl
  rw [hn] at hl hFl
  have HFL := Lib.hid hFl
  have hdv : ∀ c, dv al c < 64 := fun c => by have := dv_lt al c; rw [hal] at this; exact this
  have HDV := Lib.hid hdv
  obtain ⟨i0, hi, hz0, hz1, hz2⟩ := info_parts Try.info_byte
  have b2 : i0.bytes * (n * 6 / 8) ≤ 281474976710656 := by rw [hz2]; omega
  have b3 : n * 6 / 8 ≤ maxLen := by unfold maxLen; omega
  have B2 := Lib.hid b2
  have B3 := Lib.hid b3
  clear hF hn hFl hdv b2 b3 hal
  go_enter Try.func14, Try.ntmps14
  go_wp2_with (at_make; refine wpList_make_own _ rfl (.const (.int .i64 0)) (.tmp 16) 22 rfl w.heap.size 5 i0 (.int .u8 0) 1 Try.underlying22 hi hz0 hz1 .i64 .i64 _ (n * 6 / 8) rfl rfl ?cC B2.out B3.out (Nat.le_refl _) ?_; rotate_left 1; intro w1 hown1 hg1; have HO1 := Lib.hid hown1; have HG1 := Lib.hid hg1; clear hown1 hg1)
  case cC => have := HN.out; omega
  have hb1 : Below w.heap.size w w1 := (Below.refl _ _).grown HG1.out (Nat.le_refl _) (fun k hk => by cases hk)
  have hsz1 : w.heap.size < w1.heap.size := (HO1.out.lt w.heap.size rfl).2
  have HB1 := Lib.hid hb1
  clear hb1
  go_loopw [7, 8, 9, 20] (fun v s8 s9 i wr => ∃ (k K : Nat) (h : UInt32) (done : List UInt8), k ≤ s.size ∧ i = .int .i64 (k : Int) ∧ s8 = .int .u32 (u h) ∧ s9 = .int .i64 (K : Int) ∧ K < 8 ∧ F = done ++ und 6 al (h.toNat % 2 ^ K) K (s.data.toList.drop k) ∧ wr.ownsRow w.heap.size 5 1 v done.length (bvals done) ∧ v ≠ .slice none 0 0 ∧ Below w.heap.size w wr ∧ w.heap.size < wr.heap.size) (fun _ _ _ i _ => s.size - (intOf i).toNat)
  case atStart => exact ⟨0, 0, 0, [], by omega, rfl, rfl, rfl, by omega, HF.out.symm, HO1.out, (by simp), HB1.out, hsz1⟩
  case round =>
    obtain ⟨k, K, h, done, hk, rfl, rfl, rfl, hK, hd, hown, hnn, hbel, hsz⟩ := hrel
    clear HO1 HG1 HB1 hsz1
    have HD := Lib.hid hd
    have HO := Lib.hid hown
    have HNN := Lib.hid hnn
    have HB := Lib.hid hbel
    clear hd hown hnn hbel
    by_cases hlt : k < s.size
    · obtain ⟨c, hc⟩ : ∃ c, s[k]'hlt = c := ⟨_, rfl⟩
      have hdk : s.data.toList.drop k = c :: s.data.toList.drop (k + 1) := by
        rw [List.drop_eq_getElem_cons (by simpa using hlt), ← hc]
        rfl
      have hki : (k : Int) < (s.size : Int) := by omega
      have HIDX := Lib.hid (fun w => idx_any al (s[k]'hlt) w)
      rw [hc] at HIDX
      have hci : ((s[k]'hlt).toNat : Int) = (c.toNat : Int) := by rw [hc]
      have HCI := Lib.hid hci
      have HDK := Lib.hid hdk
      by_cases hneg : dv al c < 0
      · have hfin : F = done := by rw [HD.out, HDK.out, und, if_pos hneg, List.append_nil]
        have HFIN := Lib.hid hfin
        clear hc hdk hci hfin
        go_wp2_with fail
        rw [HCI.out]
        refine (HIDX.out _).mono ?_
        rintro e w3 ⟨rfl, rfl⟩
        go_wp2_with fail
        go_ret
        refine ⟨_, rfl, ?_, HNN.out, HB.out⟩
        rw [HFIN.out]
        exact HO.out
      · obtain ⟨d, hdd⟩ : ∃ d : Nat, dv al c = (d : Int) := ⟨(dv al c).toNat, by omega⟩
        have hdq : d < 64 := by have := HDV.out c; omega
        obtain ⟨h', hh'⟩ : ∃ h', takeD 6 h d = h' := ⟨_, rfl⟩
        have hmod := takeD_mod 6 h d K (by decide) hdq hK
        have htk := u_takeD 6 h d (by decide) hdq
        rw [hh'] at hmod htk
        rw [hdd] at HIDX
        have hund : und 6 al (h.toNat % 2 ^ K) K (s.data.toList.drop k) = (if 8 ≤ K + 6 then UInt8.ofNat (((h.toNat % 2 ^ K) * 2 ^ 6 + d) / 2 ^ (K + 6 - 8)) :: und 6 al (((h.toNat % 2 ^ K) * 2 ^ 6 + d) % 2 ^ (K + 6 - 8)) (K + 6 - 8) (s.data.toList.drop (k + 1)) else und 6 al ((h.toNat % 2 ^ K) * 2 ^ 6 + d) (K + 6) (s.data.toList.drop (k + 1))) := by
          rw [HDK.out, und, if_neg hneg, hdd, Int.toNat_natCast]
        obtain ⟨H, hH⟩ : ∃ H, (h.toNat % 2 ^ K) * 2 ^ 6 + d = H := ⟨_, rfl⟩
        rw [hH] at hmod hund
        have HMOD := Lib.hid hmod
        have HTK := Lib.hid htk
        have htk2 : bits .or .u32 ((u h * 64) % 4294967296) (d : Int) = u h' := htk
        have HTK2 := Lib.hid htk2
        have HUND := Lib.hid hund
        clear hc hdk hci hneg hdd hh' hmod htk htk2 hH hund
        by_cases h8 : 8 ≤ K + 6
        · have hF3 : F = (done ++ [UInt8.ofNat (H / 2 ^ (K + 6 - 8))]) ++ und 6 al (h'.toNat % 2 ^ (K + 6 - 8)) (K + 6 - 8) (s.data.toList.drop (k + 1)) := by
            rw [HD.out, HUND.out, if_pos h8, mod_less h'.toNat H (K + 6) (K + 6 - 8) HMOD.out (by omega)]
            simp
          have hbyte : (u h' / 2 ^ (K + 6 - 8)) % 256 = ((UInt8.ofNat (H / 2 ^ (K + 6 - 8))).toNat : Int) := by
            have h1 := mod_part h'.toNat H (K + 6) (K + 6 - 8) 8 HMOD.out (by omega)
            rw [UInt8.toNat_ofNat', ← h1]
            unfold u
            rw [Int.natCast_emod, Int.natCast_ediv, Int.natCast_pow]
            rfl
          obtain ⟨y, hy⟩ : ∃ y, UInt8.ofNat (H / 2 ^ (K + 6 - 8)) = y := ⟨_, rfl⟩
          rw [hy] at hF3 hbyte
          have HF3 := Lib.hid hF3
          have HBY := Lib.hid hbyte
          have hdl : done.length ≤ 100000 := by
            have h1 := congrArg List.length HD.out
            rw [List.length_append] at h1
            have h2 := HFL.out
            omega
          have HDL := Lib.hid hdl
          have h8i : (8 : Int) ≤ (K : Int) + 6 := by omega
          clear hy hF3 hbyte hdl
          go_wp2_with fail
          rw [HCI.out]
          refine (HIDX.out _).mono ?_
          rintro e w3 ⟨rfl, rfl⟩
          go_wp2_with (at_builtin; refine wpList_append_own _ rfl (.tmp 43) (.tmp 48) 22 rfl w.heap.size 5 i0 (.int .u8 0) 1 1 Try.underlying22 hi hz0 hz1 hz2 rfl (by decide) _ _ _ rfl (HO.out.alloc _) ⟨wr.heap.size, 0, none⟩ 1 1 [.int .u8 (bits .or .u32 ((u h * 64) % 4294967296) (d : Int) / 2 ^ (K - 2) % 256)] rfl rfl ?c1 ?c2 ?c3 ?c4 ?c5 ?_; rotate_left 5; intro v' w5 hown5 hgrow5 hnil; have HO5 := Lib.hid hown5; have HG5 := Lib.hid hgrow5; have HNIL := Lib.hid hnil; clear hown5 hgrow5 hnil)
          case c1 => exact cells_one _ _ _
          case c2 => simp [Value.oneCell']
          case c3 => unfold maxLen; have := HDL.out; omega
          case c4 => have := HDL.out; omega
          case c5 => simp; omega
          obtain ⟨g1, g2⟩ := own_step' HO.out HG5.out HB.out (Nat.le_of_lt hsz)
          refine ⟨⟨k + 1, K + 6 - 8, h', done ++ [y], by omega, by go_num, by rw [HTK2.out], by congr 1; omega, by omega, HF3.out, ?_, ?_, g1, ?_⟩, by simp [intOf]; omega⟩
          · rw [List.length_append, bvals_app]
            have h1 := HO5.out
            have h2 := HBY.out
            rw [show K + 6 - 8 = K - 2 by omega] at h2
            rw [HTK2.out, h2] at h1
            exact h1
          · intro e
            have := (HNIL.out.1 e).2
            omega
          · have h := HG5.out.size
            simp at h
            omega
        · have hF3 : F = done ++ und 6 al (h'.toNat % 2 ^ (K + 6)) (K + 6) (s.data.toList.drop (k + 1)) := by
            rw [HD.out, HUND.out, if_neg h8, HMOD.out]
          have HF3 := Lib.hid hF3
          have h8i : ¬ (8 : Int) ≤ (K : Int) + 6 := by omega
          clear hF3
          go_wp2_with fail
          rw [HCI.out]
          refine (HIDX.out _).mono ?_
          rintro e w3 ⟨rfl, rfl⟩
          go_wp2_with fail
          refine ⟨⟨k + 1, K + 6, h', done, by omega, by go_num, by rw [HTK2.out], by congr 1, by omega, HF3.out, HO.out, HNN.out, HB.out, hsz⟩, by simp [intOf]; omega⟩
    · have hge : ¬ ((k : Int) < (s.size : Int)) := by omega
      have hfin : F = done := by rw [HD.out, List.drop_of_length_le (by simp; omega), und, List.append_nil]
      have HFIN := Lib.hid hfin
      clear hfin
      go_wp2_with fail
      go_ret
      refine ⟨_, rfl, ?_, HNN.out, HB.out⟩
      rw [HFIN.out]
      exact HO.out
end Go.Proofs.Ytjgebpgdiinmbaa
