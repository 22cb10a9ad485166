/-
  THE WALKS over the texts of the reference of layer 1: the digits of a number, groups of bits, groups with colons.
-/
import Derived.Test.YtlikgfmcialepaaGreatDoorTextI
import Derived.Test.YtlikgfmcialepaaGreatDoorNumRefC
import Derived.IntWalk
namespace Go.Proofs.YtlikgfmcialepaaGreatDoor
open Go.RowKit Adr
set_option linter.unusedVariables false
set_option linter.unusedSimpArgs false
/-- the digits of a number in a base, with some fuel -/
def dgF (b : Nat) : Nat → Nat → List UInt8
  | 0, n => [hexc (n % b)]
  | k + 1, n => if n < b then [hexc n] else dgF b k (n / b) ++ [hexc (n % b)]
def dg (b n : Nat) : List UInt8 := dgF b 64 n
theorem dgF_more (b : Nat) (hb : 2 ≤ b) : ∀ (k j n : Nat), n < 2 ^ k → k ≤ j → 1 ≤ k → dgF b j n = dgF b k n
  | 0, _, _, _, _, h => by omega
  | k + 1, 0, _, _, h, _ => by omega
  | k + 1, j + 1, n, h, hj, _ => by
    unfold dgF
    by_cases hn : n < b
    · rw [if_pos hn, if_pos hn]
    · rw [if_neg hn, if_neg hn]
      have hk : 1 ≤ k := by
        rcases Nat.eq_zero_or_pos k with e | e
        · subst e
          simp at h
          omega
        · exact e
      have hd : n / b < 2 ^ k := by
        have : n / b ≤ n / 2 := Nat.div_le_div_left hb (by omega)
        rw [Nat.pow_succ] at h
        omega
      rw [dgF_more b hb k j (n / b) hd (by omega) hk]
theorem dg_step (b n : Nat) (hb : 2 ≤ b) (hn : n < 2 ^ 64) : dg b n = if n < b then [hexc n] else dg b (n / b) ++ [hexc (n % b)] := by
  by_cases h : n < b
  · rw [if_pos h]
    unfold dg dgF
    rw [if_pos h]
  · rw [if_neg h]
    have hd : n / b < 2 ^ 63 := by
      have : n / b ≤ n / 2 := Nat.div_le_div_left hb (by omega)
      have e : (2 : Nat) ^ 64 = 2 * 2 ^ 63 := by decide
      omega
    have h1 : dg b n = dgF b 63 (n / b) ++ [hexc (n % b)] := by
      show dgF b (63 + 1) n = _
      rw [dgF, if_neg h]
    rw [h1, ← dgF_more b hb 63 64 (n / b) hd (by omega) (by omega)]
    rfl
theorem dgF_len (b : Nat) : ∀ k n, (dgF b k n).length ≤ k + 1
  | 0, n => by simp [dgF]
  | k + 1, n => by
    unfold dgF
    split
    · simp
    · have := dgF_len b k (n / b)
      simp
      omega
theorem dg_len (b n : Nat) : (dg b n).length ≤ 65 := dgF_len b 64 n
def dgLit : ByteArray := ⟨#[48, 49, 50, 51, 52, 53, 54, 55, 56, 57, 97, 98, 99, 100, 101, 102]⟩
theorem dgLit_at : ∀ k, k < 16 → dgLit.extract k (k + 1) = str [hexc k] := by decide +kernel
theorem wrap_nat (q : Nat) (h : q < 18446744073709551616) : IntKind.u64.wrap (q : Int) = q := wrap_u64 ⟨by omega, by omega⟩
set_option maxRecDepth 100000 in
set_option maxHeartbeats 2000000 in
theorem digits_any (b : Nat) (hb : 2 ≤ b) (hb2 : b ≤ 16) : ∀ (n : Nat), n < 18446744073709551616 → ∀ w : World,
    Calls Tryz.prog 27 #[.int .u64 n, .int .u64 b] w fun e w' => e = .returned (.string (str (dg b n))) ∧ w = w' := by
  intro n
  induction n using Nat.strongRecOn with
  | _ n ih =>
    intro hn w
    have hm : n % b < b := Nat.mod_lt _ (by omega)
    have hst := dg_step b n hb (by omega)
    have hlit := dgLit_at (n % b) (by omega)
    by_cases h : n < b
    · rw [if_pos h] at hst
      rw [hst]
      have HL := Lib.hid hlit
      have e0 : n % b = n := Nat.mod_eq_of_lt h
      clear ih hst hlit
      go_enter Tryz.func27, Tryz.ntmps27
      go_wp2_with fail
      go_ret
      refine ⟨?_, rfl⟩
      have h1 := HL.out
      rw [e0] at h1
      rw [show n % b = n from e0]
      exact congrArg (fun s => Ending.returned (.string s)) h1
    · rw [if_neg h] at hst
      rw [hst, str_app]
      have hd : n / b < n := Nat.div_lt_self (by omega) (by omega)
      have hi : ∀ w : World, Calls Tryz.prog 27 #[.int .u64 (IntKind.u64.wrap ((n : Int) / (b : Int))), .int .u64 b] w fun e w' => e = .returned (.string (str (dg b (n / b)))) ∧ w = w' := fun w => by
        have h2 := ih (n / b) hd (by omega) w
        rw [show ((n : Int) / (b : Int)) = ((n / b : Nat) : Int) from (Int.natCast_ediv n b).symm, wrap_nat _ (by omega)]
        exact h2
      have s1 : (str (dg b (n / b))).size ≤ 65 := by rw [str_size]; exact dg_len b _
      have s2 : (dgLit.extract (n % b) (n % b + 1)).size ≤ 1 := by rw [hlit, str_size]; exact Nat.le_refl 1
      obtain ⟨X, hX⟩ : ∃ X, str (dg b (n / b)) = X := ⟨_, rfl⟩
      rw [hX] at hi s1
      rw [hX]
      have HI := Lib.hid hi
      have HL := Lib.hid hlit
      have hbn : (b : Int) ≤ (n : Int) := by omega
      unfold dgLit at s2
      clear ih hst hlit hX hi hd
      go_enter Tryz.func27, Tryz.ntmps27
      go_wp2_with fail
      (with_reducible refine (HI.out _).mono ?_)
      rintro e w1 ⟨rfl, rfl⟩
      go_wp2_with fail
      go_ret
      refine ⟨?_, rfl⟩
      rw [← HL.out]
      rfl
theorem group_step (M m k : Nat) (hk : k < m) : M / 2 ^ (m - (k + 1)) % 2 ^ (k + 1) = M / 2 ^ (m - k) % 2 ^ k * 2 + M / 2 ^ (m - 1 - k) % 2 := by
  have e : m - k = m - (k + 1) + 1 := by omega
  rw [show m - 1 - k = m - (k + 1) by omega, e, Nat.pow_succ 2 (m - (k + 1)), ← Nat.div_div_eq_div_mul]
  generalize M / 2 ^ (m - (k + 1)) = q
  have hp := Nat.two_pow_pos k
  rw [Nat.pow_succ, Nat.mul_comm (2 ^ k) 2, Nat.mod_mul]
  omega
set_option maxRecDepth 100000 in
set_option maxHeartbeats 2000000 in
theorem group_any (g o m cap M : Nat) (w : World) (hm : m ≤ 16) (hcap : m ≤ cap)
    (hc : ∀ j, j < m → w.cell? ⟨g, o + j, none⟩ = some (.int .i64 ((M / 2 ^ (m - 1 - j) % 2 : Nat) : Int))) :
    Calls Tryz.prog 28 #[.slice (some ⟨g, o, none⟩) m cap] w fun e w' => e = .returned (.int .u64 ((M % 2 ^ m : Nat) : Int)) ∧ w = w' := by
  have HC := Lib.hid hc
  obtain ⟨V, hV⟩ : ∃ V, M % 2 ^ m = V := ⟨_, rfl⟩
  rw [hV]
  have HV := Lib.hid hV
  clear hc hV
  go_enter Tryz.func28, Tryz.ntmps28
  go_wp2_with fail
  go_loop [3, 4] (fun n i => ∃ k : Nat, k ≤ m ∧ i = .int .i64 (k : Int) ∧ ∃ q : Nat, n = .int .u64 (q : Int) ∧ q = M / 2 ^ (m - k) % 2 ^ k) (fun _ i => m - (intOf i).toNat)
  case atStart => exact ⟨0, Nat.zero_le _, rfl, 0, rfl, by rw [Nat.pow_zero, Nat.mod_one]⟩
  case round =>
    obtain ⟨k, hk, rfl, q, rfl, hq⟩ := hrel
    by_cases hlt : k < m
    · have hck := HC.out k hlt
      have hst := group_step M m k hlt
      rw [← hq] at hst
      have hqb : q < 65536 := by
        rw [hq]
        have h1 := Nat.mod_lt (M / 2 ^ (m - k)) (Nat.two_pow_pos k)
        have h2 : 2 ^ k ≤ 2 ^ 16 := Nat.pow_le_pow_right (by omega) (by omega)
        have h3 : (2 : Nat) ^ 16 = 65536 := by decide
        omega
      obtain ⟨b, hb⟩ : ∃ b, M / 2 ^ (m - 1 - k) % 2 = b := ⟨_, rfl⟩
      have hb2 : b < 2 := by omega
      rw [hb] at hck hst
      have HST := Lib.hid hst
      have hkm : (k : Int) < (m : Int) := by omega
      clear hst hb hq
      go_wp2_with fail
      go_round
      case rel => exact ⟨k + 1, by omega, by go_num, q * 2 + b, by go_num, HST.out.symm⟩
      case measure => simp [intOf]; omega
    · have hkm : k = m := by omega
      subst hkm
      rw [Nat.sub_self, Nat.pow_zero, Nat.div_one] at hq
      rw [HV.out] at hq
      subst hq
      go_wp2_with fail
      go_ret
      exact ⟨rfl, rfl⟩
theorem dg_hex4 (z : Nat) (h : z < 65536) : dg 16 z = hex4 z := by
  have s1 := dg_step 16 z (by omega) (by omega)
  by_cases h1 : z < 16
  · rw [if_pos h1] at s1
    rw [s1]
    unfold hex4
    rw [if_pos h1]
  · rw [if_neg h1] at s1
    have s2 := dg_step 16 (z / 16) (by omega) (by omega)
    by_cases h2 : z / 16 < 16
    · rw [if_pos h2] at s2
      rw [s1, s2]
      unfold hex4
      rw [if_neg h1, if_pos (by omega)]
      rfl
    · rw [if_neg h2] at s2
      have s3 := dg_step 16 (z / 16 / 16) (by omega) (by omega)
      by_cases h3 : z / 16 / 16 < 16
      · rw [if_pos h3] at s3
        rw [s1, s2, s3]
        unfold hex4
        rw [if_neg h1, if_neg (by omega), if_pos (by omega), show z / 16 / 16 = z / 256 by omega]
        rfl
      · rw [if_neg h3] at s3
        have s4 := dg_step 16 (z / 16 / 16 / 16) (by omega) (by omega)
        rw [if_pos (by omega)] at s4
        rw [s1, s2, s3, s4]
        unfold hex4
        rw [if_neg h1, if_neg (by omega), if_neg (by omega), show z / 16 / 16 / 16 = z / 4096 by omega, show z / 16 / 16 = z / 256 by omega]
        rfl
/-- groups with colons, one more -/
theorem colS_nil : colS [] = [] := rfl
theorem colS_snoc (zs : List Nat) (z : Nat) : colS (zs ++ [z]) = if zs = [] then hex4 z else colS zs ++ [58] ++ hex4 z := by
  induction zs with
  | nil => rw [if_pos rfl]; simp [colS, Lib.join, List.intercalate]
  | cons a l ih =>
    rw [if_neg (by simp)]
    by_cases h : l = []
    · subst h
      simp [colS, Lib.join, List.intercalate]
    · rw [if_neg h] at ih
      obtain ⟨b, l', rfl⟩ : ∃ b l', l = b :: l' := by cases l with
        | nil => exact absurd rfl h
        | cons b l' => exact ⟨b, l', rfl⟩
      have h2 : ∀ (x y : Nat) (r : List Nat), colS (x :: y :: r) = hex4 x ++ [58] ++ colS (y :: r) := fun x y r => by
        simp [colS, Lib.join, List.intercalate]
      rw [List.cons_append, List.cons_append, h2, ← List.cons_append, ih, h2]
      simp
theorem colS_len (zs : List Nat) : (colS zs).length ≤ 5 * zs.length := join_len zs
set_option maxRecDepth 100000 in
set_option maxHeartbeats 2000000 in
theorem colons_any (g o m cap : Nat) (zs : List Nat) (w : World) (hl : zs.length = m) (hm : m ≤ 8) (hcap : m ≤ cap) (hz : ∀ z ∈ zs, z < 65536)
    (hc : ∀ j z, zs[j]? = some z → w.cell? ⟨g, o + j, none⟩ = some (.int .u64 ((z : Nat) : Int))) (A : Option Addr) (hA : A = some ⟨g, o, none⟩ ∨ m = 0) :
    Calls Tryz.prog 29 #[.slice A m cap] w fun e w' => e = .returned (.string (str (colS zs))) ∧ w = w' := by
  have HC := Lib.hid hc
  have HZ := Lib.hid hz
  have HL := Lib.hid hl
  have HA := Lib.hid hA
  obtain ⟨R, hR⟩ : ∃ R, str (colS zs) = R := ⟨_, rfl⟩
  rw [hR]
  have HR := Lib.hid hR
  clear hc hz hl hA hR
  go_enter Tryz.func29, Tryz.ntmps29
  go_wp2_with fail
  go_loop [3, 4] (fun s i => ∃ k : Nat, k ≤ m ∧ i = .int .i64 (k : Int) ∧ ∃ X : ByteArray, s = .string X ∧ X = str (colS (zs.take k))) (fun _ i => m - (intOf i).toNat)
  case atStart => exact ⟨0, Nat.zero_le _, rfl, _, rfl, by rw [List.take_zero]; rfl⟩
  case round =>
    obtain ⟨k, hk, rfl, X, rfl, hX⟩ := hrel
    have HX := Lib.hid hX
    have hXs : X.size ≤ 40 := by
      rw [hX, str_size]
      have h1 := colS_len (zs.take k)
      rw [List.length_take] at h1
      omega
    clear hX
    by_cases hlt : k < m
    · obtain ⟨z, hzk⟩ : ∃ z, zs[k]? = some z := ⟨zs[k]'(by have := HL.out; omega), List.getElem?_eq_getElem _⟩
      have hz6 : z < 65536 := HZ.out z (List.mem_of_getElem? hzk)
      have hck := HC.out k z hzk
      obtain rfl : A = some ⟨g, o, none⟩ := by
        rcases HA.out with h | h
        · exact h
        · omega
      have hD : ∀ w, Calls Tryz.prog 27 #[.int .u64 (z : Int), .int .u64 16] w fun e w' => e = .returned (.string (str (hex4 z))) ∧ w = w' := fun w => by
        have h := digits_any 16 (by omega) (by omega) z (by omega) w
        rw [dg_hex4 z hz6] at h
        exact h
      have hYs : (str (hex4 z)).size ≤ 4 := by rw [str_size]; exact hex4_len z
      have hsn : colS (zs.take (k + 1)) = if zs.take k = [] then hex4 z else colS (zs.take k) ++ [58] ++ hex4 z := by
        rw [← colS_snoc]
        congr 1
        rw [List.take_add_one, hzk]
        rfl
      obtain ⟨Y, hY⟩ : ∃ Y, str (hex4 z) = Y := ⟨_, rfl⟩
      rw [hY] at hD hYs
      have HD := Lib.hid hD
      have HY := Lib.hid hY
      have HSN := Lib.hid hsn
      have hkm : (k : Int) < (m : Int) := by omega
      clear hD hY hsn hzk hz6
      by_cases hk0 : k = 0
      · subst hk0
        have hX0 : X = ⟨#[]⟩ := by rw [HX.out, List.take_zero]; rfl
        subst hX0
        rw [Nat.add_zero] at hck
        go_wp2_with fail
        refine (HD.out w).mono ?_
        rintro e w1 ⟨rfl, rfl⟩
        go_wp2_with fail
        go_round
        case rel => exact ⟨1, by omega, rfl, _, rfl, by rw [HSN.out, if_pos (by rw [List.take_zero]), HY.out]; rfl⟩
        case measure => simp [intOf]; omega
      · have hk1 : (0 : Int) < (k : Int) := by omega
        go_wp2_with fail
        refine (HD.out w).mono ?_
        rintro e w1 ⟨rfl, rfl⟩
        go_wp2_with fail
        go_round
        case rel =>
          refine ⟨k + 1, by omega, by go_num, _, rfl, ?_⟩
          rw [HSN.out, if_neg (by
            intro h
            have := congrArg List.length h
            rw [List.length_take, List.length_nil, HL.out] at this
            omega), str_app, str_app, HY.out, ← HX.out]
          rfl
        case measure => simp [intOf]; omega
    · have hkm : k = m := by omega
      subst hkm
      have hXR : X = R := by
        rw [HX.out, List.take_of_length_le (by have := HL.out; omega)]
        exact HR.out
      subst hXR
      go_wp2_with fail
      go_ret
      exact ⟨rfl, rfl⟩
end Go.Proofs.YtlikgfmcialepaaGreatDoor
