import Derived.Test.YthfgdgcdicacpaaNumMath
import Derived.WalkKit
import Derived.WalkSpells
import Derived.WalkLawsBesides
import Derived.Lib.Hide
import Derived.Deep.QuietTactic
import Derived.BigQuiet
namespace Go.Proofs.Ythfgdgcdicacpaa
open Go.RowKit Adr

theorem bcell {W w1 : World} (hb : Below W.heap.size W w1) : (∀ b o, b < W.heap.size → w1.cell? ⟨b, o, none⟩ = W.cell? ⟨b, o, none⟩) ∧ (∀ b o, b < W.heap.size → w1.frozen? ⟨b, o, none⟩ = W.frozen? ⟨b, o, none⟩) :=
 ⟨fun b o h => hb.cell (p := ⟨b, o, none⟩) h, fun b o h => hb.frozen (p := ⟨b, o, none⟩) h⟩
theorem bcellD {W w1 : World} (hb : Below W.drew.heap.size W.drew w1) : (∀ b o, b < W.heap.size → w1.cell? ⟨b, o, none⟩ = W.cell? ⟨b, o, none⟩) ∧ (∀ b o, b < W.heap.size → w1.frozen? ⟨b, o, none⟩ = W.frozen? ⟨b, o, none⟩) :=
 ⟨fun b o h => hb.cell (p := ⟨b, o, none⟩) h, fun b o h => hb.frozen (p := ⟨b, o, none⟩) h⟩
set_option maxHeartbeats 400000 in
theorem width_any (f : Int) (w : World) :
  Calls Try.prog 42 #[.int .u8 f] w fun e w' => e = .returned (.int .i64 (wid f)) ∧ w = w' := by
 go_enter Try.func42, Try.ntmps42
 go_wp2
 ·
  have h : (f == 4) = true := by assumption
  go_ret
  exact ⟨by simp at h; subst h; rfl, rfl⟩
 ·
  have h : (f == 4) = false := by assumption
  have h' : (f == 6) = true := by assumption
  go_ret
  exact ⟨by simp at h'; subst h'; rfl, rfl⟩
 ·
  have h : (f == 4) = false := by assumption
  have h' : (f == 6) = false := by assumption
  go_ret
  exact ⟨by simp at h h'; simp [wid, h, h'], rfl⟩

set_option maxHeartbeats 400000 in
theorem ca_any (f h l : Int) (w : World) (_hl : 0 ≤ l) :
  Calls Try.prog 69 #[.int .u8 f, .agg #[.int .u64 h, .int .u64 l]] w fun e w' => e = .returned (.bool (ca f h l)) ∧ Below w.heap.size w w' := by
 by_cases h4 : f = 4
 ·
  subst h4
  by_cases h0 : h = 0
  ·
   subst h0
   go_enter Try.func69, Try.ntmps69
   go_wp2
   go_ret
   exact ⟨by simp [ca], (Below.refl _ _).alloc (Nat.le_refl _) _⟩
  ·
   go_enter Try.func69, Try.ntmps69
   go_wp2
   go_ret
   exact ⟨by simp [ca, h0], (Below.refl _ _).alloc (Nat.le_refl _) _⟩
 ·
  have h5 : (f == 4) = false := by simp [h4]
  by_cases h6 : f = 6
  ·
   subst h6
   go_enter Try.func69, Try.ntmps69
   go_wp2
   go_ret
   exact ⟨by simp [ca], (Below.refl _ _).alloc (Nat.le_refl _) _⟩
  ·
   have h7 : (f == 6) = false := by simp [h6]
   clear h4 h6
   go_enter Try.func69, Try.ntmps69
   go_wp2
   go_ret
   simp at h5 h7
   exact ⟨by simp [ca, h5, h7], (Below.refl _ _).alloc (Nat.le_refl _) _⟩

theorem clr_le (l : Int) (k : Nat) (h : U64 l) : U64 (l / 2 ^ k * 2 ^ k) := by
 have hp : (0 : Int) < 2 ^ k := Int.pow_pos (by omega)
 have := Int.ediv_mul_le l (Int.ne_of_gt hp)
 have h2 : 0 ≤ l / 2 ^ k := Int.ediv_nonneg h.1 (by omega)
 have h3 := Int.mul_nonneg h2 (Int.le_of_lt hp)
 unfold U64 at *
 omega
set_option maxHeartbeats 400000 in
theorem clear_any (h l n : Int) (w : World) (uh : U64 h) (ul : U64 l) (h1 : 0 ≤ n) (h2 : n ≤ 128) :
  Calls Try.prog 44 #[.agg #[.int .u64 h, .int .u64 l], .int .i64 n] w fun e w' => e = .returned (.agg #[.int .u64 (clrH h n), .int .u64 (clrL l n)]) ∧ Below w.heap.size w w' := by
 have u0 := uh.1
 have v0 := ul.1
 have wh := wrap_u64 (clr_le h (n - 64).toNat uh)
 have wl := wrap_u64 (clr_le l n.toNat ul)
 have Wh := Lib.hid wh
 have Wl := Lib.hid wl
 have Uh := Lib.hid uh
 have Ul := Lib.hid ul
 clear wh wl uh ul
 by_cases h3 : 64 ≤ n
 ·
  go_enter Try.func44, Try.ntmps44
  go_wp2
  refine bodyPost_ret (v := .agg #[.int .u64 (IntKind.u64.wrap (h / 2 ^ (n - 64).toNat * 2 ^ (n - 64).toNat)), .int .u64 0]) (by simp [results, Try.results44, go_sem]) rfl ⟨?_, ((Below.refl _ _).alloc (Nat.le_refl _) _).alloc (by simp) _⟩
  rw [Wh.out]; simp [clrH, clrL, h3]
 ·
  go_enter Try.func44, Try.ntmps44
  go_wp2
  go_region
  go_wp2
  refine bodyPost_ret (v := .agg #[.int .u64 h, .int .u64 (IntKind.u64.wrap (l / 2 ^ n.toNat * 2 ^ n.toNat))]) (by simp [results, Try.results44, go_sem]) rfl ⟨?_, (((Below.refl _ _).alloc (Nat.le_refl _) _).alloc (by simp) _).drew⟩
  have h3' : ¬ 64 ≤ n := by omega
  rw [Wl.out]; simp [clrH, clrL, h3']
end Go.Proofs.Ythfgdgcdicacpaa
