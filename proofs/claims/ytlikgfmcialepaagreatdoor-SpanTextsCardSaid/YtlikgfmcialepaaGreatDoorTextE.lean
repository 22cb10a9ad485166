/-
  THE WALKS over the strings of package number: reading numbers.
-/
import Derived.Test.YtlikgfmcialepaaGreatDoorTextD
import Derived.Lib.AtoiErrMem
namespace Go.Proofs.YtlikgfmcialepaaGreatDoor
open Go.RowKit Adr
set_option linter.unusedVariables false
/-- what is read of a decimal: the number, if this is its string -/
def rdec (B : Nat) (l : List UInt8) : Option Nat :=
  match Lib.parseUintB B l with
  | .ok u => if Lib.decDigits u = l then some u else none
  | _ => none
theorem rdec_ok {B : Nat} {l : List UInt8} {u : Nat} (h : Lib.parseUintB B l = .ok u) : rdec B l = if Lib.decDigits u = l then some u else none := by unfold rdec; rw [h]
theorem rdec_no {B : Nat} {l : List UInt8} (h : ∀ u, Lib.parseUintB B l ≠ .ok u) : rdec B l = none := by
  unfold rdec
  split
  · rename_i u hu
    exact absurd hu (h u)
  · rfl
theorem str_list (s : ByteArray) : str s.data.toList = s := by
  apply ByteArray.ext
  simp [str]
theorem bytes_ne {a b : ByteArray} (h : a.data.toList ≠ b.data.toList) : (a.toList == b.toList) = false := by
  rw [ByteArray.toList_eq, ByteArray.toList_eq]
  simpa using h
theorem bytes_same (a : ByteArray) : (a.toList == a.toList) = true := by simp
/-- a call of ParseUint: a number, or an error -/
def PuLeft (r : Lib.NumEnd Nat) (w : World) (e : Ending) (w' : World) : Prop :=
  (∃ n : Nat, ∃ x : Value, e = .returned (.tuple #[.int .u64 n, x]) ∧ ((∃ u, r = .ok u ∧ n = u ∧ x = .nilIface) ∨ ((∀ u, r ≠ .ok u) ∧ ∃ t p, x = .iface t (.pointer p)))) ∧ Below w.heap.size w w'
theorem pu8 (s : ByteArray) (w : World) (env : Env true w) (hs : s.size ≤ 1000000) :
    Calls Tryz.prog 64 #[.string s, .int .i64 10, .int .i64 8] w (PuLeft (Lib.parseUintB 8 s.data.toList) w) := by
  cases h : Lib.parseUintB 8 s.data.toList
  · rename_i u
    refine (Tryz.strconv_ParseUint_10_at8_ok s (by omega) u h w).mono ?_
    rintro e w' ⟨rfl, hw⟩
    refine ⟨⟨u, _, rfl, .inl ⟨u, rfl, rfl, rfl⟩⟩, ?_⟩
    rcases hw with rfl | rfl
    · exact Below.refl _ _
    · exact Lib.bytesWorld_below _ _ _
  · obtain ⟨tp, p, hv⟩ := env.syn rfl
    refine (Tryz.strconv_ParseUint_10_at8_syntax_var s (by omega) h tp p w hv).mono ?_
    rintro e w' ⟨N, rfl, _, _, hb⟩
    exact ⟨⟨0, _, rfl, .inr ⟨by simp, _, _, rfl⟩⟩, hb⟩
  · obtain ⟨tp, p, hv⟩ := env.rng rfl
    refine (Tryz.strconv_ParseUint_10_at8_range_var s (by omega) h tp p w hv).mono ?_
    rintro e w' ⟨N, rfl, _, _, hb⟩
    exact ⟨⟨255, _, rfl, .inr ⟨by simp, _, _, rfl⟩⟩, hb⟩
theorem pu32 (s : ByteArray) (w : World) (env : Env true w) (hs : s.size ≤ 1000000) :
    Calls Tryz.prog 64 #[.string s, .int .i64 10, .int .i64 32] w (PuLeft (Lib.parseUintB 32 s.data.toList) w) := by
  cases h : Lib.parseUintB 32 s.data.toList
  · rename_i u
    refine (Tryz.strconv_ParseUint_10_at32_ok s (by omega) u h w).mono ?_
    rintro e w' ⟨rfl, hw⟩
    refine ⟨⟨u, _, rfl, .inl ⟨u, rfl, rfl, rfl⟩⟩, ?_⟩
    rcases hw with rfl | rfl
    · exact Below.refl _ _
    · exact Lib.bytesWorld_below _ _ _
  · obtain ⟨tp, p, hv⟩ := env.syn rfl
    refine (Tryz.strconv_ParseUint_10_at32_syntax_var s (by omega) h tp p w hv).mono ?_
    rintro e w' ⟨N, rfl, _, _, hb⟩
    exact ⟨⟨0, _, rfl, .inr ⟨by simp, _, _, rfl⟩⟩, hb⟩
  · obtain ⟨tp, p, hv⟩ := env.rng rfl
    refine (Tryz.strconv_ParseUint_10_at32_range_var s (by omega) h tp p w hv).mono ?_
    rintro e w' ⟨N, rfl, _, _, hb⟩
    exact ⟨⟨4294967295, _, rfl, .inr ⟨by simp, _, _, rfl⟩⟩, hb⟩
set_option maxHeartbeats 1000000 in
theorem rd_core (B : Nat) (s : ByteArray) (w : World) (env : Env true w) (hpu : Calls Tryz.prog 64 #[.string s, .int .i64 10, .int .i64 B] w (PuLeft (Lib.parseUintB B s.data.toList) w)) (hB : B ≤ 32) :
    Calls Tryz.prog 38 #[.string s, .int .i64 B] w fun e w' => e = .returned (.tuple #[.int .u64 ((rdec B s.data.toList).getD 0 : Nat), .bool (rdec B s.data.toList).isSome]) ∧ Below w.heap.size w w' := by
  have hG := env.big
  have HE := Lib.hid env
  have HP := Lib.hid hpu
  clear env hpu
  obtain ⟨R, hR⟩ : ∃ R, rdec B s.data.toList = R := ⟨_, rfl⟩
  have HR := Lib.hid hR
  rw [hR]
  clear hR
  go_enter Tryz.func38, Tryz.ntmps38
  go_wp2_with fail
  refine HP.out.mono ?_
  rintro e w1 ⟨⟨n, x, rfl, hx⟩, hb1⟩
  have HB1 := Lib.hid hb1
  clear hb1
  rcases hx with ⟨u, hu, rfl, rfl⟩ | ⟨hno, t, p, rfl⟩
  · have hle : n < 18446744073709551616 := by
      have h1 := Lib.parseUintB_le hu
      have h2 : 2 ^ B ≤ 2 ^ 32 := Nat.pow_le_pow_right (by omega) hB
      have h3 : (2 : Nat) ^ 32 = 4294967296 := by decide
      omega
    have HL := Lib.hid hle
    clear hle
    obtain ⟨X, hX⟩ : ∃ X, str (Lib.decDigits n) = X := ⟨_, rfl⟩
    have hf := fu10 n w1 HL.out (HE.out.on HB1.out).tab
    rw [show (⟨(Lib.decDigits n).toArray⟩ : ByteArray) = X from hX] at hf
    have HF := Lib.hid hf
    by_cases hd : Lib.decDigits n = s.data.toList
    · have hR : R = some n := by rw [← HR.out, rdec_ok hu, if_pos hd]
      have hXs : X = s := by rw [← hX, hd, str_list]
      rw [hXs] at HF
      subst hR
      clear hu hf hX hXs hd
      go_wp2_with fail
      refine HF.out.mono ?_
      rintro e w2 ⟨rfl, hb2⟩
      go_wp2_with fail
      go_ret2
      exact ⟨rfl, HB1.out.trans (hb2.mono (by have := HB1.out.size; omega))⟩
    · have hR : R = none := by rw [← HR.out, rdec_ok hu, if_neg hd]
      have hne : (X.toList == s.toList) = false := bytes_ne (by
        rw [← hX]
        simpa [str] using hd)
      subst hR
      clear hu hf hX hd
      go_wp2_with fail
      refine HF.out.mono ?_
      rintro e w2 ⟨rfl, hb2⟩
      go_wp2_with fail
      go_ret2
      exact ⟨rfl, HB1.out.trans (hb2.mono (by have := HB1.out.size; omega))⟩
  · have hR : R = none := by rw [← HR.out, rdec_no hno]
    subst hR
    clear hno
    go_wp2_with fail
    go_ret2
    exact ⟨rfl, HB1.out⟩
theorem rd8 (s : ByteArray) (w : World) (env : Env true w) (hs : s.size ≤ 1000000) :
    Calls Tryz.prog 38 #[.string s, .int .i64 8] w fun e w' => e = .returned (.tuple #[.int .u64 ((rdec 8 s.data.toList).getD 0 : Nat), .bool (rdec 8 s.data.toList).isSome]) ∧ Below w.heap.size w w' :=
  rd_core 8 s w env (pu8 s w env hs) (by omega)
theorem rd32 (s : ByteArray) (w : World) (env : Env true w) (hs : s.size ≤ 1000000) :
    Calls Tryz.prog 38 #[.string s, .int .i64 32] w fun e w' => e = .returned (.tuple #[.int .u64 ((rdec 32 s.data.toList).getD 0 : Nat), .bool (rdec 32 s.data.toList).isSome]) ∧ Below w.heap.size w w' :=
  rd_core 32 s w env (pu32 s w env hs) (by omega)
end Go.Proofs.YtlikgfmcialepaaGreatDoor
