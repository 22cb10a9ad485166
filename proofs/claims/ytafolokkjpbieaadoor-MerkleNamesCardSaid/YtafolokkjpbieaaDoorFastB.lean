/-
  SHA-256 as the kernel reckons it fast IS Sha.sha: rotations, rounds, schedule.
-/
import Derived.Test.YtafolokkjpbieaaDoorFastSha
namespace Go.Proofs.YtafolokkjpbieaaDoor
namespace Fast
open Sha
theorem F_eq {α : Type} (x : Nat) (f : Nat → α) : F x f = f x := by
  cases x with
  | zero => rfl
  | succ n => rfl
theorem ro_eq (x : UInt32) (n : Nat) (h1 : 1 ≤ n) (h2 : n < 32) : ro x.toNat n = (rr x n).toNat := by
  unfold ro rr
  rw [UInt32.toNat_or, UInt32.toNat_shiftRight, UInt32.toNat_shiftLeft, ofNat_toNat n h2, ofNat_toNat (32 - n) (by omega), Nat.mod_eq_of_lt h2, Nat.mod_eq_of_lt (show 32 - n < 32 by omega)]
  rfl
theorem shr_eq (x : UInt32) (n : Nat) (h2 : n < 32) : Nat.shiftRight x.toNat n = (x >>> UInt32.ofNat n).toNat := by
  rw [UInt32.toNat_shiftRight, ofNat_toNat n h2, Nat.mod_eq_of_lt h2]
  rfl
theorem xor_eq (x y : UInt32) : Nat.xor x.toNat y.toNat = (x ^^^ y).toNat := (UInt32.toNat_xor x y).symm
theorem and_eq (x y : UInt32) : Nat.land x.toNat y.toNat = (x &&& y).toNat := (UInt32.toNat_and x y).symm
theorem not_eq (x : UInt32) : Nat.sub 4294967295 x.toNat = (~~~ x).toNat := by
  rw [UInt32.toNat_not]
  rfl
theorem e1_eq (x : UInt32) : Nat.xor (Nat.xor (ro x.toNat 6) (ro x.toNat 11)) (ro x.toNat 25) = (e1 x).toNat := by
  rw [ro_eq x 6 (by decide) (by decide), ro_eq x 11 (by decide) (by decide), ro_eq x 25 (by decide) (by decide), xor_eq, xor_eq]
  rfl
theorem e0_eq (x : UInt32) : Nat.xor (Nat.xor (ro x.toNat 2) (ro x.toNat 13)) (ro x.toNat 22) = (e0 x).toNat := by
  rw [ro_eq x 2 (by decide) (by decide), ro_eq x 13 (by decide) (by decide), ro_eq x 22 (by decide) (by decide), xor_eq, xor_eq]
  rfl
theorem s1_eq (x : UInt32) : Nat.xor (Nat.xor (ro x.toNat 17) (ro x.toNat 19)) (Nat.shiftRight x.toNat 10) = (s1 x).toNat := by
  rw [ro_eq x 17 (by decide) (by decide), ro_eq x 19 (by decide) (by decide), shr_eq x 10 (by decide), xor_eq, xor_eq]
  rfl
theorem s0_eq (x : UInt32) : Nat.xor (Nat.xor (ro x.toNat 7) (ro x.toNat 18)) (Nat.shiftRight x.toNat 3) = (s0 x).toNat := by
  rw [ro_eq x 7 (by decide) (by decide), ro_eq x 18 (by decide) (by decide), shr_eq x 3 (by decide), xor_eq, xor_eq]
  rfl
def nats (l : List UInt32) : List Nat := l.map (·.toNat)
theorem go_step (k w : UInt32) (ks ws : List Nat) (r : Regs) :
    go (k.toNat :: ks) (w.toNat :: ws) r.a.toNat r.b.toNat r.c.toNat r.d.toNat r.e.toNat r.f.toNat r.g.toNat r.h.toNat =
    go ks ws (Sha.step r k w).a.toNat (Sha.step r k w).b.toNat (Sha.step r k w).c.toNat (Sha.step r k w).d.toNat (Sha.step r k w).e.toNat (Sha.step r k w).f.toNat (Sha.step r k w).g.toNat (Sha.step r k w).h.toNat := by
  rw [go, F_eq, F_eq, F_eq, e1_eq, e0_eq, and_eq, not_eq, and_eq, xor_eq, and_eq, and_eq, xor_eq, and_eq, xor_eq]
  have ha : Nat.mod (Nat.add (Nat.add (Nat.add (Nat.add (Nat.add r.h.toNat (e1 r.e).toNat) (r.e &&& r.f ^^^ ~~~r.e &&& r.g).toNat) k.toNat) w.toNat) (Nat.add (e0 r.a).toNat (r.a &&& r.b ^^^ r.a &&& r.c ^^^ r.b &&& r.c).toNat)) 4294967296 = (Sha.step r k w).a.toNat := by
    rw [step_eq]
    simp only [UInt32.toNat_add]
    show (_ + _ + _ + _ + _ + (_ + _)) % 4294967296 = _
    omega
  have he : Nat.mod (Nat.add r.d.toNat (Nat.add (Nat.add (Nat.add (Nat.add r.h.toNat (e1 r.e).toNat) (r.e &&& r.f ^^^ ~~~r.e &&& r.g).toNat) k.toNat) w.toNat)) 4294967296 = (Sha.step r k w).e.toNat := by
    rw [step_eq]
    simp only [UInt32.toNat_add]
    show (_ + (_ + _ + _ + _ + _)) % 4294967296 = _
    omega
  rw [ha, he, step_eq]
theorem go_turn (w : List UInt32) (hw : w.length = 64) (r0 : Regs) : ∀ j n, n + j = 64 → ∀ r, turn w n r0 = r →
    go (nats (K.drop n)) (nats (w.drop n)) r.a.toNat r.b.toNat r.c.toNat r.d.toNat r.e.toNat r.f.toNat r.g.toNat r.h.toNat = nats (turn w 64 r0).list
  | 0, n, hn, r, hr => by
    obtain rfl : n = 64 := by omega
    rw [List.drop_of_length_le (by rw [K_len]; omega), hr]
    rfl
  | j + 1, n, hn, r, hr => by
    have hk : K.drop n = K.getD n 0 :: K.drop (n + 1) := by
      rw [List.drop_eq_getElem_cons (by rw [K_len]; omega), List.getD_eq_getElem?_getD, List.getElem?_eq_getElem (by rw [K_len]; omega)]
      rfl
    have hwn : w.drop n = w.getD n 0 :: w.drop (n + 1) := by
      rw [List.drop_eq_getElem_cons (by omega), List.getD_eq_getElem?_getD, List.getElem?_eq_getElem (by omega)]
      rfl
    have h1 := go_turn w hw r0 j (n + 1) (by omega) (Sha.step r (K.getD n 0) (w.getD n 0)) (by rw [turn, hr])
    rw [← h1, hk, hwn]
    exact go_step _ _ _ _ r
/-- the words of a schedule so far, the newest first -/
def revw (x : List UInt8) (k : Nat) : List Nat := (nats ((mo x k).take (16 + k))).reverse
theorem revw_at (x : List UInt8) (k j : Nat) (hk : k ≤ 48) (hj : j < 16 + k) : (revw x k).getD j 0 = ((mo x k).getD (16 + k - 1 - j) 0).toNat := by
  have hl : (nats ((mo x k).take (16 + k))).length = 16 + k := by
    unfold nats
    rw [List.length_map, List.length_take, mo_len]
    omega
  unfold revw
  rw [List.getD_eq_getElem?_getD, List.getElem?_reverse (by rw [hl]; exact hj), hl]
  unfold nats
  rw [List.getElem?_map, List.getElem?_take, if_pos (by omega), List.getElem?_eq_getElem (by rw [mo_len]; omega), List.getD_eq_getElem?_getD, List.getElem?_eq_getElem (by rw [mo_len]; omega)]
  rfl
theorem revw_next (x : List UInt8) (k : Nat) (hk : k < 48) : revw x (k + 1) = (newW (mo x k) (16 + k)).toNat :: revw x k := by
  have h : (mo x (k + 1)).take (16 + (k + 1)) = (mo x k).take (16 + k) ++ [newW (mo x k) (16 + k)] := by
    rw [mo, show 16 + (k + 1) = (16 + k) + 1 by omega, List.take_succ_eq_append_getElem (by rw [List.length_set, mo_len]; omega)]
    congr 1
    · rw [List.take_set_of_le (by omega)]
    · rw [List.getElem_set_self]
  unfold revw
  rw [h]
  unfold nats
  rw [List.map_append, List.reverse_append]
  rfl
theorem ext_mo (x : List UInt8) : ∀ j k, k + j ≤ 48 → ext j (revw x k) = revw x (k + j)
  | 0, k, _ => rfl
  | j + 1, k, h => by
    have g1 := revw_at x k 1 (by omega) (by omega)
    have g6 := revw_at x k 6 (by omega) (by omega)
    have g14 := revw_at x k 14 (by omega) (by omega)
    have g15 := revw_at x k 15 (by omega) (by omega)
    rw [show 16 + k - 1 - 1 = 16 + k - 2 by omega] at g1
    rw [show 16 + k - 1 - 6 = 16 + k - 7 by omega] at g6
    rw [show 16 + k - 1 - 14 = 16 + k - 15 by omega] at g14
    rw [show 16 + k - 1 - 15 = 16 + k - 16 by omega] at g15
    have hn : Nat.mod (Nat.add (Nat.add (Nat.add (s1 ((mo x k).getD (16 + k - 2) 0)).toNat ((mo x k).getD (16 + k - 7) 0).toNat) (s0 ((mo x k).getD (16 + k - 15) 0)).toNat) ((mo x k).getD (16 + k - 16) 0).toNat) 4294967296 = (newW (mo x k) (16 + k)).toNat := by
      unfold newW
      simp only [UInt32.toNat_add]
      show (_ + _ + _ + _) % 4294967296 = _
      omega
    rw [ext, F_eq, F_eq, F_eq, g1, g6, g14, g15, s1_eq, s0_eq, hn, ← revw_next x k (by omega), ext_mo x j (k + 1) (by omega), show k + 1 + j = k + (j + 1) by omega]
theorem blk_eq (x : List UInt8) : blk (nats ((pw x 64).take 16)) = nats (turn (sched x) 64 Sha.start).list := by
  have h0 : (nats ((pw x 64).take 16)).reverse = revw x 0 := rfl
  have h1 : (ext 48 (revw x 0)).reverse = nats (sched x) := by
    rw [ext_mo x 48 0 (by omega)]
    unfold revw
    rw [List.reverse_reverse, List.take_of_length_le (by rw [mo_len]; omega)]
    rfl
  have h2 := go_turn (sched x) (sched_len x) Sha.start 64 0 (by omega) Sha.start rfl
  rw [List.drop_zero, List.drop_zero] at h2
  unfold blk
  rw [h0, h1, ← h2]
  rfl
end Fast
end Go.Proofs.YtafolokkjpbieaaDoor
