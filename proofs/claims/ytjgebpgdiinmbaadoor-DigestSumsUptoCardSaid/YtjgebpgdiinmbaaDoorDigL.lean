/-
  THE WALKS over the strings in hexadecimal and in base64.
-/
import Derived.Test.YtjgebpgdiinmbaaDoorDigK
namespace Go.Proofs.YtjgebpgdiinmbaaDoor
open Go.RowKit Sha
set_option linter.unusedVariables false
set_option linter.unusedSimpArgs false
def hexL : ByteArray := ⟨#[48, 49, 50, 51, 52, 53, 54, 55, 56, 57, 97, 98, 99, 100, 101, 102]⟩
def b64L : ByteArray := ⟨#[65, 66, 67, 68, 69, 70, 71, 72, 73, 74, 75, 76, 77, 78, 79, 80, 81, 82, 83, 84, 85, 86, 87, 88, 89, 90, 97, 98, 99, 100, 101, 102, 103, 104, 105, 106, 107, 108, 109, 110, 111, 112, 113, 114, 115, 116, 117, 118, 119, 120, 121, 122, 48, 49, 50, 51, 52, 53, 54, 55, 56, 57, 43, 47]⟩
/-- the string in hexadecimal -/
def hexS (b : List UInt8) : List UInt8 := (dgB 4 0 0 b).map (ch hexL)
/-- the characters of base64 without those that fill up -/
def b64D (b : List UInt8) : List UInt8 := (dgB 6 0 0 b).map (ch b64L)
def b64S (b : List UInt8) : List UInt8 := b64D b ++ List.replicate ((4 - (b64D b).length % 4) % 4) 61
def bs (l : List UInt8) : ByteArray := ⟨l.toArray⟩
theorem bs_size (l : List UInt8) : (bs l).size = l.length := rfl
theorem bs_app (a b : List UInt8) : bs (a ++ b) = bs a ++ bs b := by
  apply ByteArray.ext
  simp [bs]
set_option maxRecDepth 100000 in
theorem hex_any (b : List UInt8) (A : Option Addr) (c : Nat) (hl : b.length ≤ 100000) (hc : b.length ≤ c) (w : World) (hs : SrcAt A b w) :
    Calls Tryd.prog 21 #[.slice A b.length c] w fun e w' => e = .returned (.string (bs (hexS b))) ∧ Below w.heap.size w w' := by
  have h := digits_4 hexL rfl b A c hl hc
  obtain ⟨F, hF⟩ : ∃ F : ByteArray, ⟨((dgB 4 0 0 b).map (ch hexL)).toArray⟩ = F := ⟨_, rfl⟩
  rw [hF] at h
  rw [show bs (hexS b) = F from hF]
  have H := Lib.hid (h w hs)
  obtain ⟨n, hn⟩ : ∃ n, b.length = n := ⟨_, rfl⟩
  rw [hn] at H ⊢
  clear h hF hn hs
  go_enter Tryd.func21, Tryd.ntmps21
  go_wp2_with fail
  refine H.out.mono ?_
  rintro e w1 ⟨rfl, hb⟩
  have HB := Lib.hid hb
  clear hb
  go_wp2_with fail
  go_ret
  exact ⟨rfl, HB.out⟩
set_option maxRecDepth 100000 in
theorem hp_yes (X : ByteArray) (hs : 1 ≤ X.size) (hB : ((X.extract 0 1).toList == [61]) = true) (w : World) : Calls Tryd.prog 39 #[.string X, .string ⟨#[61]⟩] w fun e w' => e = .returned (.bool true) ∧ w = w' := by
  go_enter Tryd.func39, Tryd.ntmps39
  go_wp2
  go_ret
  exact ⟨rfl, rfl⟩
set_option maxRecDepth 100000 in
set_option maxHeartbeats 1000000 in
theorem mul_12 (w : World) : Calls Tryd.prog 38 #[.int .u64 1, .int .u64 2] w fun e w' => e = .returned (.tuple #[.int .u64 0, .int .u64 2]) ∧ w = w' := by
  go_enter Tryd.func38, Tryd.ntmps38
  go_wp2
  go_ret2
  refine ⟨?_, rfl⟩
  congr 2
set_option maxRecDepth 100000 in
theorem hp_no (X : ByteArray) (hs : 1 ≤ X.size) (hB : ((X.extract 0 1).toList == [61]) = false) (w : World) : Calls Tryd.prog 39 #[.string X, .string ⟨#[61]⟩] w fun e w' => e = .returned (.bool false) ∧ w = w' := by
  go_enter Tryd.func39, Tryd.ntmps39
  go_wp2
  go_ret
  exact ⟨rfl, rfl⟩
set_option maxRecDepth 100000 in
set_option maxHeartbeats 1000000 in
theorem rep_0 (w : World) : Calls Tryd.prog 26 #[.string ⟨#[61]⟩, .int .i64 0] w fun e w' => e = .returned (.string ⟨#[]⟩) ∧ w = w' := by
  go_enter Tryd.func26, Tryd.ntmps26
  go_wp2
  go_ret
  exact ⟨rfl, rfl⟩
set_option maxRecDepth 100000 in
set_option maxHeartbeats 1000000 in
theorem rep_1 (w : World) : Calls Tryd.prog 26 #[.string ⟨#[61]⟩, .int .i64 1] w fun e w' => e = .returned (.string ⟨#[61]⟩) ∧ w = w' := by
  go_enter Tryd.func26, Tryd.ntmps26
  go_wp2
  go_ret
  exact ⟨rfl, rfl⟩
set_option maxRecDepth 100000 in
set_option maxHeartbeats 1000000 in
theorem rep_2 (w : World) : Calls Tryd.prog 26 #[.string ⟨#[61]⟩, .int .i64 2] w fun e w' => e = .returned (.string ⟨#[61, 61]⟩) ∧ w = w' := by
  have h0 : ((({ data := #[61] } : ByteArray)[0].toNat : Int) == 32) = false := by decide
  have h1 : ((({ data := #[61] } : ByteArray)[0].toNat : Int) == 45) = false := by decide
  have h2 : ((({ data := #[61] } : ByteArray)[0].toNat : Int) == 48) = false := by decide
  have h3 : ((({ data := #[61] } : ByteArray)[0].toNat : Int) == 61) = true := by decide
  go_enter Tryd.func26, Tryd.ntmps26
  go_wp2_with fail
  refine (mul_12 _).mono ?_
  rintro e w1 ⟨rfl, rfl⟩
  go_wp2_with fail
  refine (hp_no _ (by decide +kernel) (by decide +kernel) _).mono ?_
  rintro e w1 ⟨rfl, rfl⟩
  go_wp2_with fail
  refine (hp_no _ (by decide +kernel) (by decide +kernel) _).mono ?_
  rintro e w1 ⟨rfl, rfl⟩
  go_wp2_with fail
  refine (hp_no _ (by decide +kernel) (by decide +kernel) _).mono ?_
  rintro e w1 ⟨rfl, rfl⟩
  go_wp2_with fail
  refine (hp_yes _ (by decide +kernel) (by decide +kernel) _).mono ?_
  rintro e w1 ⟨rfl, rfl⟩
  go_wp2_with fail
  go_ret
  refine ⟨ret_eq ?_, rfl⟩
  exact congrArg Value.string (by decide +kernel)
theorem dgB6_three (a b c : UInt8) (r : List UInt8) : dgB 6 0 0 (a :: b :: c :: r) = [(a.toNat * 65536 + b.toNat * 256 + c.toNat) / 262144, (a.toNat * 65536 + b.toNat * 256 + c.toNat) / 4096 % 64, (a.toNat * 65536 + b.toNat * 256 + c.toNat) / 64 % 64, (a.toNat * 65536 + b.toNat * 256 + c.toNat) % 64] ++ dgB 6 0 0 r := by
  have ha := a.toNat_lt
  have hb := b.toNat_lt
  have hc := c.toNat_lt
  simp only [dgB, dgs, Nat.reduceAdd, Nat.reduceMod, Nat.reduceLeDiff, if_true, if_false, Nat.reduceSub, Nat.reducePow, Nat.zero_mul, Nat.zero_add, List.append_assoc, List.cons_append, List.nil_append, Nat.pow_zero, Nat.mod_one, Nat.div_one, Nat.le_refl]
  refine List.cons_eq_cons.2 ⟨by omega, List.cons_eq_cons.2 ⟨by omega, List.cons_eq_cons.2 ⟨by omega, List.cons_eq_cons.2 ⟨by omega, rfl⟩⟩⟩⟩
theorem dgB6_one (a : UInt8) : dgB 6 0 0 [a] = [a.toNat / 4, a.toNat % 4 * 16] := by
  have ha := a.toNat_lt
  simp only [dgB, dgs, Nat.reduceAdd, Nat.reduceMod, Nat.reduceLeDiff, if_true, if_false, Nat.reduceSub, Nat.reducePow, Nat.zero_mul, Nat.zero_add, List.append_assoc, List.cons_append, List.nil_append, Nat.pow_zero, Nat.mod_one, Nat.div_one, Nat.le_refl, Nat.lt_irrefl, Nat.reduceLT]
  refine List.cons_eq_cons.2 ⟨by omega, List.cons_eq_cons.2 ⟨by omega, rfl⟩⟩
theorem dgB6_two (a b : UInt8) : dgB 6 0 0 [a, b] = [a.toNat / 4, (a.toNat * 256 + b.toNat) / 16 % 64, b.toNat % 16 * 4] := by
  have ha := a.toNat_lt
  have hb := b.toNat_lt
  simp only [dgB, dgs, Nat.reduceAdd, Nat.reduceMod, Nat.reduceLeDiff, if_true, if_false, Nat.reduceSub, Nat.reducePow, Nat.zero_mul, Nat.zero_add, List.append_assoc, List.cons_append, List.nil_append, Nat.pow_zero, Nat.mod_one, Nat.div_one, Nat.le_refl, Nat.lt_irrefl, Nat.reduceLT]
  refine List.cons_eq_cons.2 ⟨by omega, List.cons_eq_cons.2 ⟨by omega, List.cons_eq_cons.2 ⟨by omega, rfl⟩⟩⟩
theorem dgB6_nil : dgB 6 0 0 [] = [] := rfl
/-- lists three by three -/
theorem three_rec {P : List UInt8 → Prop} (h0 : P []) (h1 : ∀ a, P [a]) (h2 : ∀ a b, P [a, b]) (h3 : ∀ a b c r, P r → P (a :: b :: c :: r)) : ∀ l, P l
  | [] => h0
  | [a] => h1 a
  | [a, b] => h2 a b
  | a :: b :: c :: r => h3 a b c r (three_rec h0 h1 h2 h3 r)
theorem b64_mod (b : List UInt8) : (dgB 6 0 0 b).length % 4 = (if b.length % 3 = 0 then 0 else b.length % 3 + 1) ∧ (dgB 6 0 0 b).length / 4 = b.length / 3 := by
  refine three_rec (P := fun b => (dgB 6 0 0 b).length % 4 = (if b.length % 3 = 0 then 0 else b.length % 3 + 1) ∧ (dgB 6 0 0 b).length / 4 = b.length / 3) ?_ ?_ ?_ ?_ b
  · exact ⟨rfl, rfl⟩
  · intro a; rw [dgB6_one]; exact ⟨by simp, by simp⟩
  · intro a b; rw [dgB6_two]; exact ⟨by simp, by simp⟩
  · intro a b c r ih
    rw [dgB6_three]
    simp only [List.length_append, List.length_cons, List.length_nil]
    split at ih <;> split <;> omega
theorem b64D_len (b : List UInt8) : (b64D b).length = (dgB 6 0 0 b).length := by unfold b64D; rw [List.length_map]
set_option maxRecDepth 100000 in
set_option maxHeartbeats 1000000 in
theorem b64_any (b : List UInt8) (A : Option Addr) (c : Nat) (hl : b.length ≤ 100000) (hc : b.length ≤ c) (w : World) (hs : SrcAt A b w) :
    Calls Tryd.prog 12 #[.slice A b.length c] w fun e w' => e = .returned (.string (bs (b64S b))) ∧ Below w.heap.size w w' := by
  have h := digits_6 b64L rfl b A c hl hc w hs
  have hm := (b64_mod b).1
  rw [← b64D_len] at hm
  have hle : (b64D b).length ≤ 2 * b.length + 1 := by rw [b64D_len]; exact dgB_len 6 (by decide) b 0 0 (by omega)
  obtain ⟨D, hD⟩ : ∃ D, b64D b = D := ⟨_, rfl⟩
  rw [show (⟨((dgB 6 0 0 b).map (ch b64L)).toArray⟩ : ByteArray) = bs D by rw [← hD]; rfl] at h
  unfold b64S
  rw [hD] at hm hle ⊢
  obtain ⟨n, hn⟩ : ∃ n, b.length = n := ⟨_, rfl⟩
  rw [hn] at h hm hle hl ⊢
  obtain ⟨X, hX⟩ : ∃ X, bs D = X := ⟨_, rfl⟩
  have hXs : X.size = D.length := by rw [← hX]; rfl
  obtain ⟨r, hr⟩ : ∃ r, (4 - D.length % 4) % 4 = r := ⟨_, rfl⟩
  rw [bs_app, hX, hr]
  rw [hX] at h
  have hr3 : r = 0 ∨ r = 1 ∨ r = 2 := by
    split at hm <;> omega
  have H := Lib.hid h
  have hsz : X.size ≤ 300000 := by omega
  have hri : -((X.size : Int) % 4) % 4 = (r : Int) := by omega
  have HRI := Lib.hid hri
  have HXS := Lib.hid hXs
  clear h hm hle hD hn hX hXs hr hri hs hc hl
  have hrep : ∀ w : World, Calls Tryd.prog 26 #[.string ⟨#[61]⟩, .int .i64 (r : Int)] w fun e w' => e = .returned (.string (bs (List.replicate r 61))) ∧ w = w' := fun w => by
    obtain rfl | rfl | rfl := hr3
    · exact rep_0 w
    · exact rep_1 w
    · exact rep_2 w
  have HREP := Lib.hid hrep
  obtain ⟨Y, hY⟩ : ∃ Y, bs (List.replicate r 61) = Y := ⟨_, rfl⟩
  have hYs : Y.size ≤ 2 := by rw [← hY, bs_size, List.length_replicate]; omega
  rw [hY] at HREP ⊢
  clear hrep hY hr3
  go_enter Tryd.func12, Tryd.ntmps12
  go_wp2_with fail
  refine H.out.mono ?_
  rintro e w1 ⟨rfl, hb⟩
  have HB := Lib.hid hb
  clear hb
  go_wp2_with fail
  rw [HRI.out]
  refine (HREP.out _).mono ?_
  rintro e w2 ⟨rfl, rfl⟩
  go_wp2_with fail
  go_ret
  exact ⟨rfl, HB.out⟩
end Go.Proofs.YtjgebpgdiinmbaaDoor
