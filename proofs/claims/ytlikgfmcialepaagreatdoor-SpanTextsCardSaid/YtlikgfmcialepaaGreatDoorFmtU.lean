/-
  THE WALKS over strconv.FormatUint, at base 16 below 65536.
-/
import Derived.Test.YtlikgfmcialepaaGreatDoorRows
import Derived.WalkKit
import Derived.WalkSpells
import Derived.WalkLawsBesides
import Derived.Lib.Hide
import Derived.Lib.AppendIntMem
import Derived.Lib.ItoaMem
import Derived.Test.YtlikgfmcialepaaGreatDoorShelf
namespace Go.Proofs.YtlikgfmcialepaaGreatDoor
open Go.RowKit
set_option maxHeartbeats 400000 in
theorem pow2_16 (w : World) : Calls Tryz.prog 110 #[.int .i64 16] w fun e w' => e = .returned (.bool true) ∧ w = w' := by
  go_enter Tryz.func110, Tryz.ntmps110
  go_wp2
  go_ret
  exact ⟨rfl, rfl⟩
set_option maxHeartbeats 400000 in
theorem tz16 (w : World) (htz : w.cell? ⟨5, 15, none⟩ = some (.int .u8 4)) : Calls Tryz.prog 111 #[.int .u64 16] w fun e w' => e = .returned (.int .i64 4) ∧ w = w' := by
  have h1 : (IntKind.u64.wrap (bits BinOp.and IntKind.u64 16 (IntKind.u64.wrap (-16)) * 285870213051353865) / 288230376151711744).toNat = 15 := by decide +kernel
  go_enter Tryz.func111, Tryz.ntmps111
  go_wp2
  go_ret
  exact ⟨rfl, rfl⟩
/-- the digits of the library -/
def digs : ByteArray := ⟨#[48, 49, 50, 51, 52, 53, 54, 55, 56, 57, 97, 98, 99, 100, 101, 102, 103, 104, 105, 106, 107, 108, 109, 110, 111, 112, 113, 114, 115, 116, 117, 118, 119, 120, 121, 122]⟩
/-- one digit -/
def hexc (n : Nat) : UInt8 := if n < 10 then UInt8.ofNat (48 + n) else UInt8.ofNat (87 + n)
theorem digs_size : digs.size = 36 := rfl
theorem digs_at (n : Nat) (h : n < 36) : digs[n]'(by rw [digs_size]; exact h) = hexc n := by
  have : ∀ n : Fin 36, digs[n.val]'(by rw [digs_size]; exact n.isLt) = hexc n.val := by decide +kernel
  exact this ⟨n, h⟩
set_option maxRecDepth 100000 in
set_option maxHeartbeats 1000000 in
theorem fb1 (u : Int) (w : World) (hG : 5 < w.heap.size) (htz : w.cell? ⟨5, 15, none⟩ = some (.int .u8 4)) (h0 : 0 ≤ u) (h1 : u < 16) :
    Calls Tryz.prog 89 #[.slice none 0 0, .int .u64 u, .int .i64 16, .bool false, .bool false] w fun e w' => e = .returned (.tuple #[.slice none 0 0, .string ⟨[hexc u.toNat].toArray⟩]) ∧ Below w.heap.size w w' := by
  have hu : ¬ 16 ≤ u := by omega
  go_enter Tryz.func89, Tryz.ntmps89
  go_wp2_with fail
  refine (pow2_16 _).mono ?_
  rintro e w1 ⟨rfl, rfl⟩
  go_wp2_with fail
  refine (tz16 _ ((World.cell?_alloc_past _ _ _ hG).trans htz)).mono ?_
  rintro e w1 ⟨rfl, rfl⟩
  go_wp2_with fail
  refine wp_loop_rounds 1 ?_
  rw [rounds_succ]
  go_wp2_with fail
  generalize hW : World.alloc _ _ = W2
  have hcv := run_convert_bytes_back (P := Tryz.prog) W2 129 9 5 ⟨w.heap.size, 64, none⟩ 1 [digs[u.toNat]'(by rw [digs_size]; omega)] Tryz.underlying129 Tryz.underlying5 Tryz.underlying9 (fun j hj => by
    rw [← hW]
    have hj0 : j = 0 := by simp at hj; omega
    subst hj0
    exact (World.cell?_alloc_at _ _ _ _ rfl).trans (by simp [digs, Tryz.zeroCells160]))
  rw [show [digs[u.toNat]'(by rw [digs_size]; omega)].length = 1 from rfl, digs_at _ (by omega)] at hcv
  have hB := Lib.hid (show Below w.heap.size w W2 by rw [← hW]; exact (Below.refl _ _).alloc (Nat.le_refl _) _)
  clear hW
  rw [hcv]
  go_wp2
  go_ret2
  exact ⟨rfl, hB.out⟩
set_option maxRecDepth 100000 in
set_option maxHeartbeats 1000000 in
theorem fb2 (q0 q1 r0 : Nat) (w : World) (hG : 5 < w.heap.size) (htz : w.cell? ⟨5, 15, none⟩ = some (.int .u8 4)) (a0 : (q0 : Int) / 16 = q1) (b0 : bits BinOp.and IntKind.u64 q0 15 = r0) (c0 : r0 < 16) (d0 : 16 ≤ q0) (hlast : q1 < 16) :
    Calls Tryz.prog 89 #[.slice none 0 0, .int .u64 q0, .int .i64 16, .bool false, .bool false] w fun e w' => e = .returned (.tuple #[.slice none 0 0, .string ⟨[hexc q1, hexc r0].toArray⟩]) ∧ Below w.heap.size w w' := by
  have e0 : (16 : Int) ≤ (q0 : Int) := by omega
  have f0 : (r0 : Int) < 36 := by omega
  have g0 : (0 : Int) ≤ (r0 : Int) := by omega
  have e1 : ¬ (16 : Int) ≤ (q1 : Int) := by omega
  have f1 : (q1 : Int) < 36 := by omega
  go_enter Tryz.func89, Tryz.ntmps89
  go_wp2_with fail
  refine (pow2_16 _).mono ?_
  rintro e w1 ⟨rfl, rfl⟩
  go_wp2_with fail
  refine (tz16 _ ((World.cell?_alloc_past _ _ _ hG).trans htz)).mono ?_
  rintro e w1 ⟨rfl, rfl⟩
  go_wp2_with fail
  refine wp_loop_rounds 2 ?_
  iterate 2 (rw [rounds_succ]; go_wp2_with fail)
  generalize hW : World.alloc _ _ = W2
  have hcv := run_convert_bytes_back (P := Tryz.prog) W2 129 9 5 ⟨w.heap.size, 63, none⟩ 2 [digs[q1]'(by rw [digs_size]; omega), digs[r0]'(by rw [digs_size]; omega)] Tryz.underlying129 Tryz.underlying5 Tryz.underlying9 (fun j hj => by
    rw [← hW]
    have hj0 : j = 0 ∨ j = 1 := by simp at hj; omega
    rcases hj0 with rfl | rfl
    all_goals exact (World.cell?_alloc_at _ _ _ _ rfl).trans (by simp [digs, Tryz.zeroCells160]))
  rw [show [digs[q1]'(by rw [digs_size]; omega), digs[r0]'(by rw [digs_size]; omega)].length = 2 from rfl, digs_at _ (by omega), digs_at _ (by omega)] at hcv
  have hB := Lib.hid (show Below w.heap.size w W2 by rw [← hW]; exact (Below.refl _ _).alloc (Nat.le_refl _) _)
  clear hW
  rw [hcv]
  go_wp2
  go_ret2
  exact ⟨rfl, hB.out⟩
set_option maxRecDepth 100000 in
set_option maxHeartbeats 1000000 in
theorem fb3 (q0 q1 q2 r0 r1 : Nat) (w : World) (hG : 5 < w.heap.size) (htz : w.cell? ⟨5, 15, none⟩ = some (.int .u8 4)) (a0 : (q0 : Int) / 16 = q1) (b0 : bits BinOp.and IntKind.u64 q0 15 = r0) (c0 : r0 < 16) (d0 : 16 ≤ q0) (a1 : (q1 : Int) / 16 = q2) (b1 : bits BinOp.and IntKind.u64 q1 15 = r1) (c1 : r1 < 16) (d1 : 16 ≤ q1) (hlast : q2 < 16) :
    Calls Tryz.prog 89 #[.slice none 0 0, .int .u64 q0, .int .i64 16, .bool false, .bool false] w fun e w' => e = .returned (.tuple #[.slice none 0 0, .string ⟨[hexc q2, hexc r1, hexc r0].toArray⟩]) ∧ Below w.heap.size w w' := by
  have e0 : (16 : Int) ≤ (q0 : Int) := by omega
  have f0 : (r0 : Int) < 36 := by omega
  have g0 : (0 : Int) ≤ (r0 : Int) := by omega
  have e1 : (16 : Int) ≤ (q1 : Int) := by omega
  have f1 : (r1 : Int) < 36 := by omega
  have g1 : (0 : Int) ≤ (r1 : Int) := by omega
  have e2 : ¬ (16 : Int) ≤ (q2 : Int) := by omega
  have f2 : (q2 : Int) < 36 := by omega
  go_enter Tryz.func89, Tryz.ntmps89
  go_wp2_with fail
  refine (pow2_16 _).mono ?_
  rintro e w1 ⟨rfl, rfl⟩
  go_wp2_with fail
  refine (tz16 _ ((World.cell?_alloc_past _ _ _ hG).trans htz)).mono ?_
  rintro e w1 ⟨rfl, rfl⟩
  go_wp2_with fail
  refine wp_loop_rounds 3 ?_
  iterate 3 (rw [rounds_succ]; go_wp2_with fail)
  generalize hW : World.alloc _ _ = W2
  have hcv := run_convert_bytes_back (P := Tryz.prog) W2 129 9 5 ⟨w.heap.size, 62, none⟩ 3 [digs[q2]'(by rw [digs_size]; omega), digs[r1]'(by rw [digs_size]; omega), digs[r0]'(by rw [digs_size]; omega)] Tryz.underlying129 Tryz.underlying5 Tryz.underlying9 (fun j hj => by
    rw [← hW]
    have hj0 : j = 0 ∨ j = 1 ∨ j = 2 := by simp at hj; omega
    rcases hj0 with rfl | rfl | rfl
    all_goals exact (World.cell?_alloc_at _ _ _ _ rfl).trans (by simp [digs, Tryz.zeroCells160]))
  rw [show [digs[q2]'(by rw [digs_size]; omega), digs[r1]'(by rw [digs_size]; omega), digs[r0]'(by rw [digs_size]; omega)].length = 3 from rfl, digs_at _ (by omega), digs_at _ (by omega), digs_at _ (by omega)] at hcv
  have hB := Lib.hid (show Below w.heap.size w W2 by rw [← hW]; exact (Below.refl _ _).alloc (Nat.le_refl _) _)
  clear hW
  rw [hcv]
  go_wp2
  go_ret2
  exact ⟨rfl, hB.out⟩
set_option maxRecDepth 100000 in
set_option maxHeartbeats 1000000 in
theorem fb4 (q0 q1 q2 q3 r0 r1 r2 : Nat) (w : World) (hG : 5 < w.heap.size) (htz : w.cell? ⟨5, 15, none⟩ = some (.int .u8 4)) (a0 : (q0 : Int) / 16 = q1) (b0 : bits BinOp.and IntKind.u64 q0 15 = r0) (c0 : r0 < 16) (d0 : 16 ≤ q0) (a1 : (q1 : Int) / 16 = q2) (b1 : bits BinOp.and IntKind.u64 q1 15 = r1) (c1 : r1 < 16) (d1 : 16 ≤ q1) (a2 : (q2 : Int) / 16 = q3) (b2 : bits BinOp.and IntKind.u64 q2 15 = r2) (c2 : r2 < 16) (d2 : 16 ≤ q2) (hlast : q3 < 16) :
    Calls Tryz.prog 89 #[.slice none 0 0, .int .u64 q0, .int .i64 16, .bool false, .bool false] w fun e w' => e = .returned (.tuple #[.slice none 0 0, .string ⟨[hexc q3, hexc r2, hexc r1, hexc r0].toArray⟩]) ∧ Below w.heap.size w w' := by
  have e0 : (16 : Int) ≤ (q0 : Int) := by omega
  have f0 : (r0 : Int) < 36 := by omega
  have g0 : (0 : Int) ≤ (r0 : Int) := by omega
  have e1 : (16 : Int) ≤ (q1 : Int) := by omega
  have f1 : (r1 : Int) < 36 := by omega
  have g1 : (0 : Int) ≤ (r1 : Int) := by omega
  have e2 : (16 : Int) ≤ (q2 : Int) := by omega
  have f2 : (r2 : Int) < 36 := by omega
  have g2 : (0 : Int) ≤ (r2 : Int) := by omega
  have e3 : ¬ (16 : Int) ≤ (q3 : Int) := by omega
  have f3 : (q3 : Int) < 36 := by omega
  go_enter Tryz.func89, Tryz.ntmps89
  go_wp2_with fail
  refine (pow2_16 _).mono ?_
  rintro e w1 ⟨rfl, rfl⟩
  go_wp2_with fail
  refine (tz16 _ ((World.cell?_alloc_past _ _ _ hG).trans htz)).mono ?_
  rintro e w1 ⟨rfl, rfl⟩
  go_wp2_with fail
  refine wp_loop_rounds 4 ?_
  iterate 4 (rw [rounds_succ]; go_wp2_with fail)
  generalize hW : World.alloc _ _ = W2
  have hcv := run_convert_bytes_back (P := Tryz.prog) W2 129 9 5 ⟨w.heap.size, 61, none⟩ 4 [digs[q3]'(by rw [digs_size]; omega), digs[r2]'(by rw [digs_size]; omega), digs[r1]'(by rw [digs_size]; omega), digs[r0]'(by rw [digs_size]; omega)] Tryz.underlying129 Tryz.underlying5 Tryz.underlying9 (fun j hj => by
    rw [← hW]
    have hj0 : j = 0 ∨ j = 1 ∨ j = 2 ∨ j = 3 := by simp at hj; omega
    rcases hj0 with rfl | rfl | rfl | rfl
    all_goals exact (World.cell?_alloc_at _ _ _ _ rfl).trans (by simp [digs, Tryz.zeroCells160]))
  rw [show [digs[q3]'(by rw [digs_size]; omega), digs[r2]'(by rw [digs_size]; omega), digs[r1]'(by rw [digs_size]; omega), digs[r0]'(by rw [digs_size]; omega)].length = 4 from rfl, digs_at _ (by omega), digs_at _ (by omega), digs_at _ (by omega), digs_at _ (by omega)] at hcv
  have hB := Lib.hid (show Below w.heap.size w W2 by rw [← hW]; exact (Below.refl _ _).alloc (Nat.le_refl _) _)
  clear hW
  rw [hcv]
  go_wp2
  go_ret2
  exact ⟨rfl, hB.out⟩

/-- a number below 65536 in base 16 -/
def hex4 (u : Nat) : List UInt8 := if u < 16 then [hexc u] else if u < 256 then [hexc (u / 16), hexc (u % 16)] else if u < 4096 then [hexc (u / 256), hexc (u / 16 % 16), hexc (u % 16)] else [hexc (u / 4096), hexc (u / 256 % 16), hexc (u / 16 % 16), hexc (u % 16)]
theorem and15 (q : Nat) (h : q < 65536) : bits BinOp.and IntKind.u64 q 15 = ((q % 16 : Nat) : Int) := by
  have h1 := bits_and_u64_nat q 15 (by omega) (by omega)
  rw [show q &&& 15 = q % 16 from Nat.and_two_pow_sub_one_eq_mod q 4] at h1
  exact h1
theorem dd16 (a b : Nat) (h : a / 16 = b) : (a : Int) / 16 = b := by omega
theorem fb_any (u : Nat) (w : World) (hG : 5 < w.heap.size) (htz : w.cell? ⟨5, 15, none⟩ = some (.int .u8 4)) (h : u < 65536) :
    Calls Tryz.prog 89 #[.slice none 0 0, .int .u64 u, .int .i64 16, .bool false, .bool false] w fun e w' => e = .returned (.tuple #[.slice none 0 0, .string ⟨(hex4 u).toArray⟩]) ∧ Below w.heap.size w w' := by
  unfold hex4
  by_cases h1 : u < 16
  · rw [if_pos h1]
    have := fb1 u w hG htz (by omega) (by omega)
    simpa using this
  · rw [if_neg h1]
    by_cases h2 : u < 256
    · rw [if_pos h2]
      exact fb2 u (u / 16) (u % 16) w hG htz (by omega) (and15 u h) (by omega) (by omega) (by omega)
    · rw [if_neg h2]
      by_cases h3 : u < 4096
      · rw [if_pos h3]
        exact fb3 u (u / 16) (u / 256) (u % 16) (u / 16 % 16) w hG htz (by omega) (and15 u h) (by omega) (by omega) (by omega) (and15 _ (by omega)) (by omega) (by omega) (by omega)
      · rw [if_neg h3]
        exact fb4 u (u / 16) (u / 256) (u / 4096) (u % 16) (u / 16 % 16) (u / 256 % 16) w hG htz (by omega) (and15 u h) (by omega) (by omega) (by omega) (and15 _ (by omega)) (by omega) (by omega) (by omega) (and15 _ (by omega)) (by omega) (by omega) (by omega)
set_option maxHeartbeats 400000 in
theorem fu16i (u : Nat) (w : World) (hG : 5 < w.heap.size) (htz : w.cell? ⟨5, 15, none⟩ = some (.int .u8 4)) (h : u < 65536) :
    Calls Tryz.prog 67 #[.int .u64 u, .int .i64 16] w fun e w' => e = .returned (.string ⟨(hex4 u).toArray⟩) ∧ Below w.heap.size w w' := by
  go_enter Tryz.func67, Tryz.ntmps67
  go_wp2_with (go_at_call 89; refine (fb_any _ _ hG htz h).mono ?_; rintro e w1 ⟨rfl, hb1⟩)
  go_ret
  exact ⟨rfl, hb1⟩
set_option maxHeartbeats 400000 in
theorem fu16 (u : Nat) (w : World) (hG : 5 < w.heap.size) (htz : w.cell? ⟨5, 15, none⟩ = some (.int .u8 4)) (h : u < 65536) :
    Calls Tryz.prog 42 #[.int .u64 u, .int .i64 16] w fun e w' => e = .returned (.string ⟨(hex4 u).toArray⟩) ∧ Below w.heap.size w w' := by
  go_enter Tryz.func42, Tryz.ntmps42
  go_wp2_with (go_at_call 67; refine (fu16i _ _ hG htz h).mono ?_; rintro e w1 ⟨rfl, hb1⟩)
  go_ret
  exact ⟨rfl, hb1⟩
set_option maxHeartbeats 400000 in
theorem fu10_small (u : Nat) (w : World) (h : u < 100) :
    Calls Tryz.prog 67 #[.int .u64 u, .int .i64 10] w fun e w' => e = .returned (.string ⟨(Lib.decDigits u).toArray⟩) ∧ w = w' := by
  have h' : (u : Int) < 100 := by omega
  go_enter Tryz.func67, Tryz.ntmps67
  go_wp2_with (go_at_call 86; refine (Tryz.internal_strconv_small u h _).mono ?_; rintro e w1 ⟨rfl, rfl⟩)
  go_ret
  exact ⟨rfl, rfl⟩
set_option maxRecDepth 100000 in
set_option maxHeartbeats 1000000 in
theorem fu10_big (u : Nat) (w : World) (h : 100 ≤ u) (hu64 : u < 18446744073709551616) (htab : Lib.TabIs Tryz.prog w "internal/strconv.uint64pow10" .u64 Lib.pow10Tab) :
    Calls Tryz.prog 67 #[.int .u64 u, .int .i64 10] w fun e w' => e = .returned (.string ⟨(Lib.decDigits u).toArray⟩) ∧ Below w.heap.size w w' := by
  have hu1 : 1 ≤ u := by omega
  have hnd20 : Lib.nDigits u ≤ 20 := by have := Lib.numDigits_eq u hu1 hu64; split at this <;> omega
  have hb3 : Lib.nDigits u ≤ 24 := by omega
  have hH0 := Lib.holds_zero0 w 140 (Lib.nDigits u) (by omega)
  have hfmt := Tryz.internal_strconv_formatBase10 w.heap.size 0 24 u (Array.replicate (Lib.nDigits u) 0) (w.alloc (.cells Lib.zeros24 140)) hH0 (by rw [Array.size_replicate]; exact Lib.lt_pow_nDigits u) hu64 (by rw [Array.size_replicate]; omega)
  rw [Array.size_replicate] at hfmt
  have HF := Lib.hid hfmt
  have HU := Lib.hid hu64
  have HH0 := Lib.hid hH0
  have h' : ¬ (u : Int) < 100 := by omega
  have hal : Tryz.prog.arrayLen 140 = 24 := by kernel_rfl
  have hel : Tryz.prog.elem 140 = 5 := by kernel_rfl
  have hsl : ∀ W, (Instr.sliceAt 140 (.pointer (some ⟨w.heap.size, 0, none⟩)) none (some (.int .i64 (Lib.nDigits u : Int))) none).run Tryz.prog W = .ok (.slice (some ⟨w.heap.size, 0, none⟩) (Lib.nDigits u) 24) W := fun W => by
    rw [run_sliceAt_array_h W 140 ⟨w.heap.size, 0, none⟩ (by simp [hal, hel, Tryz.underlying140]) .i64 (Lib.nDigits u : Int) (by omega) (by rw [hal]; omega)]
    go_simp
  clear hfmt hu64 hH0 hal hel
  go_enter Tryz.func67, Tryz.ntmps67
  go_wp2_with (go_at_call 87; refine (Tryz.internal_strconv_numDigits u hu1 HU.out _ (Lib.tabIs_alloc htab _)).mono ?_; rintro e w1 ⟨rfl, rfl⟩)
  go_at_call 88
  refine HF.out.mono ?_
  rintro e w1 ⟨rfl, k, v', dk, rfl, hF⟩
  generalize hW : World.drewN _ k = W2
  have hcv := run_convert_bytes_back (P := Tryz.prog) W2 129 9 5 ⟨w.heap.size, 0, none⟩ 24 (Lib.decDigits u) Tryz.underlying129 Tryz.underlying5 Tryz.underlying9 (fun j hj => by
    rw [← hW, Lib.row_is_numeral hF j hj, Lib.add_plain, World.cell?_drewN]
    exact Go.Sort.cell?_putRow (fun (b : UInt8) => Value.int .u8 (b.toNat : Int)) _ w.heap.size 0 _ dk HH0.out (by rw [hF.size, Array.size_replicate]) j (by rw [hF.size]; rw [Lib.decDigits_length] at hj; exact hj))
  rw [Lib.decDigits_length] at hcv
  have hB := Lib.hid (show Below w.heap.size w W2 by
    obtain ⟨os, eo⟩ := Lib.fin_at w (.cells Lib.zeros24 140) dk k 0
    rw [← hW, eo]
    exact ⟨rfl, rfl, rfl, by show w.heap.size ≤ (w.heap ++ os).size; simp, fun g hg => Lib.heap_grow_old w k os g hg⟩)
  clear hW
  go_wp2
  go_ret
  exact ⟨rfl, hB.out⟩
theorem fu10 (u : Nat) (w : World) (hu64 : u < 18446744073709551616) (htab : Lib.TabIs Tryz.prog w "internal/strconv.uint64pow10" .u64 Lib.pow10Tab) :
    Calls Tryz.prog 42 #[.int .u64 u, .int .i64 10] w fun e w' => e = .returned (.string ⟨(Lib.decDigits u).toArray⟩) ∧ Below w.heap.size w w' := by
  have hi : Calls Tryz.prog 67 #[.int .u64 u, .int .i64 10] w fun e w' => e = .returned (.string ⟨(Lib.decDigits u).toArray⟩) ∧ Below w.heap.size w w' := by
    by_cases h : u < 100
    · exact (fu10_small u w h).mono fun _ _ ⟨a, b⟩ => ⟨a, by rw [← b]; exact Below.refl _ _⟩
    · exact fu10_big u w (by omega) hu64 htab
  have HI := Lib.hid hi
  clear hi hu64
  go_enter Tryz.func42, Tryz.ntmps42
  go_wp2_with (go_at_call 67; refine HI.out.mono ?_; rintro e w1 ⟨rfl, hb1⟩)
  go_ret
  exact ⟨rfl, hb1⟩
end Go.Proofs.YtlikgfmcialepaaGreatDoor
