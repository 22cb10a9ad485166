/-
  THE WALK over the library's reading of a hexadecimal number of 16 bits.
-/
import Derived.Test.YtlikgfmcialepaaGreatDoorTextI
import Derived.Shelf.Strconv.ParseUint10b16
import Derived.Shelf.Strconv.ParseUintEmpty
import Derived.Shelf.LaysM
namespace Go.Proofs.YtlikgfmcialepaaGreatDoor
open Go.RowKit Adr
set_option linter.unusedVariables false
def low8 (c : Nat) : Int := bits .or .u8 (c : Int) 32
def hexD (c : Nat) : Option Nat := if 48 ≤ c ∧ c ≤ 57 then some (c - 48) else if 97 ≤ low8 c ∧ low8 c ≤ 102 then some ((low8 c).toNat - 87) else none
def hexM : Nat → List UInt8 → Option (Option Nat)
  | acc, [] => some (some acc)
  | acc, c :: r => match hexD c.toNat with
    | none => none
    | some d => if 65535 < acc * 16 + d then some none else hexM (acc * 16 + d) r
def hexV : Option (Option Nat) → Value
  | none => .tuple #[.int .u64 0, .iface 152 (.int .i64 2)]
  | some none => .tuple #[.int .u64 65535, .iface 152 (.int .i64 1)]
  | some (some n) => .tuple #[.int .u64 n, .nilIface]
theorem lower_any (c : Int) (w : World) : Calls Tryz.prog 101 #[.int .u8 c] w fun e w' => e = .returned (.int .u8 (bits .or .u8 c 32)) ∧ w' = w := by
  go_enter Tryz.func101, Tryz.ntmps101
  go_wp2
  go_ret
  exact ⟨rfl, rfl⟩
set_option maxHeartbeats 8000000 in
set_option maxRecDepth 100000 in
theorem pu16i (t : ByteArray) (hne : t.size ≠ 0) (hmax : t.size ≤ 1000000) (w : World) :
    Calls Tryz.prog 83 #[.string t, .int .i64 16, .int .i64 16] w fun e w' => e = .returned (hexV (hexM 0 t.data.toList)) ∧ w' = Lib.bytesWorld w 5 t := by
  have hemp : t.toList.isEmpty = false := by
    rw [← decide_eq_emptyBytes]
    exact decide_eq_false (fun h => hne (by rw [h]; rfl))
  have hcv := Lib.run_convert_string_bytes (P := Tryz.prog) w 9 129 5 t (u := .string) Tryz.underlying9 Tryz.underlying129 Tryz.underlying5
  have hB : ∀ j, j < t.size → (Lib.bytesWorld w 5 t).cell? ⟨w.heap.size, j, none⟩ = some (.int .u8 (t.data.toList.getD j 0).toNat) := fun j hj => Lib.bytesWorld_cell w 5 t j hj
  obtain ⟨W1, hW1⟩ : ∃ W1, W1 = Lib.bytesWorld w 5 t := ⟨_, rfl⟩
  rw [← hW1] at hcv hB ⊢
  clear hW1
  obtain ⟨bs, hL⟩ : ∃ bs, bs = t.data.toList := ⟨_, rfl⟩
  have hLn : bs.length = t.size := by rw [hL, Lib.size_eq]
  rw [← hL] at hB ⊢
  clear hL
  have hmv : IntKind.u64.wrap (IntKind.u64.wrap 65536 - 1) = 65535 := by decide
  go_enter Tryz.func83, Tryz.ntmps83
  go_wp2
  go_loop [12, 13, 101] (fun vu vn vi => ∃ (k acc : Nat) (a : Int), vu = .bool false ∧ vn = .int .u64 a ∧ vi = .int .i64 k ∧ k ≤ t.size ∧ Hid (a = (acc : Int) ∧ acc ≤ 65535 ∧ hexM 0 bs = hexM acc (bs.drop k)))
    (fun _ _ vi => t.size - (intOf vi).toNat)
  case atStart => exact ⟨0, 0, 0, rfl, rfl, rfl, by omega, rfl, by omega, rfl⟩
  case round =>
    obtain ⟨k, acc, a, rfl, rfl, rfl, hk, hh⟩ := hrel
    obtain ⟨ha, hacc, hdec⟩ := hh.out
    clear hh
    have a0 : 0 ≤ a := by omega
    have a1 : a ≤ 65535 := by omega
    by_cases hkn : k < t.size
    · have hc := hB k hkn
      have hdrop : bs.drop k = bs[k]'(by omega) :: bs.drop (k + 1) := List.drop_eq_getElem_cons (by omega)
      have hget : bs.getD k 0 = bs[k]'(by omega) := by simp [List.getD, List.getElem?_eq_getElem (show k < bs.length by omega)]
      rw [hdrop] at hdec
      rw [hget] at hc
      generalize bs[k]'(by omega) = c at hc hdec
      have hc256 : c.toNat < 256 := c.toNat_lt
      clear hB hdrop hget
      by_cases hdig : 48 ≤ c.toNat ∧ c.toNat ≤ 57
      · have hD : hexD c.toNat = some (c.toNat - 48) := by simp [hexD, hdig]
        obtain ⟨hd0, hd1⟩ := hdig
        by_cases hov : 65535 < acc * 16 + (c.toNat - 48)
        · have hF : hexM acc (c :: bs.drop (k + 1)) = some none := by simp [hexM, hD, hov]
          rw [hF] at hdec
          have iov : 65535 < a * 16 + ((c.toNat : Int) - 48) := by omega
          have HD := Lib.hid hdec
          clear hacc hF hov ha hD hdec
          go_wp2
          go_ret2
          exact ⟨by rw [HD.out]; rfl, rfl⟩
        · have hF : hexM acc (c :: bs.drop (k + 1)) = hexM (acc * 16 + (c.toNat - 48)) (bs.drop (k + 1)) := by simp [hexM, hD, hov]
          have HN : Hid (a * 16 + ((c.toNat : Int) - 48) = ((acc * 16 + (c.toNat - 48) : Nat) : Int) ∧ acc * 16 + (c.toNat - 48) ≤ 65535 ∧ hexM 0 bs = hexM (acc * 16 + (c.toNat - 48)) (bs.drop (k + 1))) := ⟨by omega, by omega, by rw [hdec, hF]⟩
          have iov : a * 16 + ((c.toNat : Int) - 48) ≤ 65535 := by omega
          clear hacc hF hov hdec ha hD
          go_wp2
          refine ⟨⟨k + 1, acc * 16 + (c.toNat - 48), a * 16 + ((c.toNat : Int) - 48), rfl, (by first | rfl | (congr 1; omega)), (by first | rfl | (congr 1; omega)), by omega, HN⟩, by simp [intOf]; omega⟩
      · by_cases h95 : c.toNat = 95
        · have hF : hexM acc (c :: bs.drop (k + 1)) = none := by
            have hD : hexD c.toNat = none := by rw [h95]; decide +kernel
            simp [hexM, hD]
          rw [hF] at hdec
          have HD := Lib.hid hdec
          have HLow : Hid (∀ w, Calls Tryz.prog 101 #[.int .u8 95] w fun e w' => e = .returned (.int .u8 127) ∧ w' = w) := Lib.hid (fun w => lower_any 95 w)
          rw [h95] at hc
          clear hacc hF ha hdec h95 hdig hc256
          go_wp2_with (go_at_call 101; refine (HLow.out _).mono ?_; rintro e w' ⟨rfl, rfl⟩)
          all_goals go_ret2
          all_goals exact ⟨by rw [HD.out]; rfl, rfl⟩
        have HLow : Hid (∀ w, Calls Tryz.prog 101 #[.int .u8 c.toNat] w fun e w' => e = .returned (.int .u8 (low8 c.toNat)) ∧ w' = w) := Lib.hid (fun w => lower_any _ w)
        have hD : hexD c.toNat = if 97 ≤ low8 c.toNat ∧ low8 c.toNat ≤ 102 then some ((low8 c.toNat).toNat - 87) else none := by simp [hexD, hdig]
        have hv0 : 0 ≤ low8 c.toNat := bits_lo_u8 .or (c.toNat : Int) 32
        have hv1 : low8 c.toNat ≤ 255 := bits_hi_u8 .or (c.toNat : Int) 32
        generalize low8 c.toNat = x at HLow hD hv0 hv1
        by_cases hx : 97 ≤ x ∧ x ≤ 102
        · obtain ⟨x0, x1⟩ := hx
          rw [if_pos ⟨x0, x1⟩] at hD
          obtain ⟨d, rfl⟩ := Int.eq_ofNat_of_zero_le hv0
          by_cases hov : 65535 < acc * 16 + (d - 87)
          · have hF : hexM acc (c :: bs.drop (k + 1)) = some none := by simp [hexM, hD, hov]
            rw [hF] at hdec
            have iov : 65535 < a * 16 + ((d : Int) - 97 + 10) := by omega
            have HD := Lib.hid hdec
            clear hacc hF hov ha hD hdec
            go_wp2_with (go_at_call 101; refine (HLow.out _).mono ?_; rintro e w' ⟨rfl, rfl⟩)
            all_goals go_ret2
            all_goals exact ⟨by rw [HD.out]; rfl, rfl⟩
          · have hF : hexM acc (c :: bs.drop (k + 1)) = hexM (acc * 16 + (d - 87)) (bs.drop (k + 1)) := by simp [hexM, hD, hov]
            have HN : Hid (a * 16 + ((d : Int) - 97 + 10) = ((acc * 16 + (d - 87) : Nat) : Int) ∧ acc * 16 + (d - 87) ≤ 65535 ∧ hexM 0 bs = hexM (acc * 16 + (d - 87)) (bs.drop (k + 1))) := ⟨by omega, by omega, by rw [hdec, hF]⟩
            have iov : a * 16 + ((d : Int) - 97 + 10) ≤ 65535 := by omega
            clear hacc hF hov hdec ha hD
            go_wp2_with (go_at_call 101; refine (HLow.out _).mono ?_; rintro e w' ⟨rfl, rfl⟩)
            all_goals refine ⟨⟨k + 1, acc * 16 + (d - 87), a * 16 + ((d : Int) - 97 + 10), rfl, (by first | rfl | (congr 1; omega)), (by first | rfl | (congr 1; omega)), by omega, HN⟩, by simp [intOf]; omega⟩
        · rw [if_neg hx] at hD
          have hF : hexM acc (c :: bs.drop (k + 1)) = none := by simp [hexM, hD]
          rw [hF] at hdec
          have HD := Lib.hid hdec
          clear hacc hF ha hD hdec
          go_wp2_with (go_at_call 101; refine (HLow.out _).mono ?_; rintro e w' ⟨rfl, rfl⟩)
          all_goals go_ret2
          all_goals exact ⟨by rw [HD.out]; rfl, rfl⟩
    · have hkk : k = t.size := by omega
      subst hkk
      have hF : hexM acc (bs.drop t.size) = some (some acc) := by rw [List.drop_eq_nil_of_le (by omega)]; rfl
      rw [hF] at hdec
      subst ha
      have HD := Lib.hid hdec
      clear hacc hF a0 a1 hdec
      go_wp2
      go_ret2
      exact ⟨by rw [HD.out]; rfl, rfl⟩
end Go.Proofs.YtlikgfmcialepaaGreatDoor
