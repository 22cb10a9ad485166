/-
  THE WALKS over the strings of package number: Text.
-/
import Derived.Test.YtlikgfmcialepaaGreatDoorTextH
namespace Go.Proofs.YtlikgfmcialepaaGreatDoor
open Go.RowKit Adr
variable {fl : Bool}
set_option linter.unusedVariables false
theorem itoa_any (n : Nat) (hn : n < 9223372036854775807) (w : World) (env : Env fl w) :
    Calls Tryz.prog 35 #[.int .i64 n] w fun e w' => e = .returned (.string (str (Lib.decDigits n))) ∧ Below w.heap.size w w' := by
  refine (Tryz.strconv_Itoa n (by omega) (by omega) w env.tab).mono ?_
  rintro e w' ⟨rfl, k, os, rfl⟩
  refine ⟨by rw [Lib.itoa_nonneg]; rfl, Lib.below_grow _ _ (Nat.le_refl _) _ _⟩
def pfxS (f : Int) (H L n : Nat) : List UInt8 := addrS f H L ++ [47] ++ Lib.decDigits n
theorem fourS_len (L : Nat) : (fourS L).length ≤ 83 := by
  have d : ∀ k, (Lib.decDigits (byteAt L k)).length ≤ 20 := fun k => by rw [Lib.decDigits_length]; exact Lib.nDigits_le20 _ (byteAt_lt L k)
  have d0 := d 0; have d1 := d 1; have d2 := d 2; have d3 := d 3
  simp [fourS, Lib.join, List.intercalate]
  omega
theorem sixS_len (zs : List Nat) (h : zs.length = 8) : (sixS zs).length ≤ 82 := by
  unfold sixS
  split
  · have := join_len zs
    unfold colS
    omega
  · have h1 := join_len (zs.take (lzFrom fun j => zs.getD j 0 == 0))
    have h2 := join_len (zs.drop (lzTo fun j => zs.getD j 0 == 0))
    rw [List.length_take] at h1
    rw [List.length_drop] at h2
    unfold colS
    simp only [List.length_append, List.length_cons, List.length_nil]
    omega
theorem addrS_len (f : Int) (H L : Nat) : (addrS f H L).length ≤ 83 := by
  unfold addrS
  split
  · exact fourS_len L
  · have := sixS_len (gs H L) rfl
    omega
theorem str_size (l : List UInt8) : (str l).size = l.length := by
  show l.toArray.size = l.length
  simp
set_option maxHeartbeats 1000000 in
theorem ptext_no (f h l n c : Int) (w : World) (uh : U64 h) (ul : U64 l) (hc : chk f h l n = c) (hc0 : (c != 0) = true) :
    Calls Tryz.prog 9 #[.agg #[.int .u8 f, .int .u64 h, .int .u64 l, .int .i64 n]] w fun e w' => e = .returned (.tuple #[.string ⟨#[]⟩, .int .i64 c]) ∧ Below w.heap.size w w' := by
  have HC := Lib.hid (fun w => chk_call f h l n w uh ul c hc)
  clear uh ul hc
  go_enter Tryz.func9, Tryz.ntmps9
  go_wp2_with fail
  refine (HC.out _).mono ?_
  rintro e w1 ⟨rfl, hb1⟩
  go_wp2_with fail
  go_ret2
  exact ⟨rfl, ((Below.refl _ _).alloc (Nat.le_refl _) _).trans (hb1.mono (by simp))⟩
set_option maxHeartbeats 1000000 in
theorem ptext_yes (f : Int) (H L n : Nat) (w : World) (env : Env fl w) (hH : H < 18446744073709551616) (hL : L < 18446744073709551616) (hc : chk f H L n = 0) (hca : ca f H L = true) (hn : n ≤ 128) :
    Calls Tryz.prog 9 #[.agg #[.int .u8 f, .int .u64 H, .int .u64 L, .int .i64 n]] w fun e w' => e = .returned (.tuple #[.string (str (pfxS f H L n)), .int .i64 0]) ∧ Below w.heap.size w w' := by
  have hG := env.big
  have HE := Lib.hid env
  have HC := Lib.hid (fun w => chk_call f H L n w ⟨by omega, by omega⟩ ⟨by omega, by omega⟩ 0 hc)
  have HT := Lib.hid (fun (w : World) (e : Env fl w) => text_yes f H L w e hca hH hL)
  have HI := Lib.hid (fun (w : World) (e : Env fl w) => itoa_any n (by omega) w e)
  have s1 := str_size (addrS f H L)
  have s2 := addrS_len f H L
  have s3 := str_size (Lib.decDigits n)
  have s4 : (Lib.decDigits n).length ≤ 20 := by rw [Lib.decDigits_length]; exact Lib.nDigits_le20 _ (by omega)
  obtain ⟨X, hX⟩ : ∃ X, str (addrS f H L) = X := ⟨_, rfl⟩
  obtain ⟨Y, hY⟩ : ∃ Y, str (Lib.decDigits n) = Y := ⟨_, rfl⟩
  have hZ : str (pfxS f H L n) = X ++ ⟨#[47]⟩ ++ Y := by
    unfold pfxS
    rw [str_app, str_app, hX, hY]
    rfl
  rw [hZ]
  rw [hX] at HT s1
  rw [hY] at HI s3
  have t1 : X.size ≤ 83 := by omega
  have t2 : Y.size ≤ 20 := by omega
  clear env hH hL hc hca s1 s2 s3 s4 hX hY hZ
  go_enter Tryz.func9, Tryz.ntmps9
  go_wp2_with fail
  refine (HC.out _).mono ?_
  rintro e w1 ⟨rfl, hb1⟩
  have HB1 := Lib.hid (((Below.refl w.heap.size w).alloc (Nat.le_refl _) _).trans (hb1.mono (by simp)))
  have c0 : w1.cell? ⟨w.heap.size, 0, none⟩ = some (.int .u8 f) := by rw [hb1.cell (p := ⟨w.heap.size, 0, none⟩) (by simp)]; simp
  have c1 : w1.cell? ⟨w.heap.size, 1, none⟩ = some (.int .u64 H) := by rw [hb1.cell (p := ⟨w.heap.size, 1, none⟩) (by simp)]; simp
  have c2 : w1.cell? ⟨w.heap.size, 2, none⟩ = some (.int .u64 L) := by rw [hb1.cell (p := ⟨w.heap.size, 2, none⟩) (by simp)]; simp
  have c3 : w1.cell? ⟨w.heap.size, 3, none⟩ = some (.int .i64 n) := by rw [hb1.cell (p := ⟨w.heap.size, 3, none⟩) (by simp)]; simp
  have cz : w.heap.size < w1.heap.size := World.block_lt_of_cell? _ _ c0
  clear hb1
  go_wp2_with fail
  refine (HT.out w1 (HE.out.below HB1.out hG)).mono ?_
  rintro e w2 ⟨rfl, hb2⟩
  have HB2 := Lib.hid (HB1.out.trans (hb2.mono (by omega)))
  have d3 := (hb2.cell (p := ⟨w.heap.size, 3, none⟩) cz).trans c3
  clear hb2 c0 c1 c2 c3
  go_wp2_with fail
  refine (HI.out w2 (HE.out.below HB2.out hG)).mono ?_
  rintro e w3 ⟨rfl, hb3⟩
  have HB3 := Lib.hid (HB2.out.trans (hb3.mono (by have := HB2.out.size; omega)))
  clear hb3 d3
  go_wp2_with fail
  go_ret2
  exact ⟨rfl, HB3.out⟩
end Go.Proofs.YtlikgfmcialepaaGreatDoor
