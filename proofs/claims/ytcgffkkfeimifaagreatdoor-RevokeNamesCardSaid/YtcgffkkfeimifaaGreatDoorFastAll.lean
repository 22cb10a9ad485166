import Derived.Test.YtcgffkkfeimifaaGreatDoorOneMath
namespace Go.Proofs.YtcgffkkfeimifaaGreatDoor
namespace Fast
noncomputable def F {α : Type} (x : Nat) (f : Nat → α) : α := Nat.rec (f 0) (fun n _ => f (n + 1)) x
def ro (x n : Nat) : Nat := Nat.lor (Nat.shiftRight x n) (Nat.mod (Nat.shiftLeft x (32 - n)) 4294967296)
noncomputable def ext : Nat → List Nat → List Nat
 | 0, l => l
 | n + 1, l => F (l.getD 1 0) fun w2 => F (l.getD 14 0) fun w15 =>
  F (Nat.mod (Nat.add (Nat.add (Nat.add (Nat.xor (Nat.xor (ro w2 17) (ro w2 19)) (Nat.shiftRight w2 10)) (l.getD 6 0)) (Nat.xor (Nat.xor (ro w15 7) (ro w15 18)) (Nat.shiftRight w15 3))) (l.getD 15 0)) 4294967296) fun w => ext n (w :: l)
noncomputable def go : List Nat → List Nat → Nat → Nat → Nat → Nat → Nat → Nat → Nat → Nat → List Nat
 | k :: ks, w :: ws, a, b, c, d, e, f, g, h =>
  F (Nat.add (Nat.add (Nat.add (Nat.add h (Nat.xor (Nat.xor (ro e 6) (ro e 11)) (ro e 25))) (Nat.xor (Nat.land e f) (Nat.land (Nat.sub 4294967295 e) g))) k) w) fun t =>
  F (Nat.mod (Nat.add t (Nat.add (Nat.xor (Nat.xor (ro a 2) (ro a 13)) (ro a 22)) (Nat.xor (Nat.xor (Nat.land a b) (Nat.land a c)) (Nat.land b c)))) 4294967296) fun a' =>
  F (Nat.mod (Nat.add d t) 4294967296) fun e' => go ks ws a' a b c e' e f g
 | _, _, a, b, c, d, e, f, g, h => [a, b, c, d, e, f, g, h]
noncomputable def blk (ws : List Nat) : List Nat :=
 go [0x428a2f98, 0x71374491, 0xb5c0fbcf, 0xe9b5dba5, 0x3956c25b, 0x59f111f1, 0x923f82a4, 0xab1c5ed5,
 0xd807aa98, 0x12835b01, 0x243185be, 0x550c7dc3, 0x72be5d74, 0x80deb1fe, 0x9bdc06a7, 0xc19bf174,
 0xe49b69c1, 0xefbe4786, 0x0fc19dc6, 0x240ca1cc, 0x2de92c6f, 0x4a7484aa, 0x5cb0a9dc, 0x76f988da,
 0x983e5152, 0xa831c66d, 0xb00327c8, 0xbf597fc7, 0xc6e00bf3, 0xd5a79147, 0x06ca6351, 0x14292967,
 0x27b70a85, 0x2e1b2138, 0x4d2c6dfc, 0x53380d13, 0x650a7354, 0x766a0abb, 0x81c2c92e, 0x92722c85,
 0xa2bfe8a1, 0xa81a664b, 0xc24b8b70, 0xc76c51a3, 0xd192e819, 0xd6990624, 0xf40e3585, 0x106aa070,
 0x19a4c116, 0x1e376c08, 0x2748774c, 0x34b0bcb5, 0x391c0cb3, 0x4ed8aa4a, 0x5b9cca4f, 0x682e6ff3,
 0x748f82ee, 0x78a5636f, 0x84c87814, 0x8cc70208, 0x90befffa, 0xa4506ceb, 0xbef9a3f7, 0xc67178f2] (ext 48 ws.reverse).reverse 0x6a09e667 0xbb67ae85 0x3c6ef372 0xa54ff53a 0x510e527f 0x9b05688c 0x1f83d9ab 0x5be0cd19
noncomputable def many : Nat → List Nat → Nat
 | 0, l => l.getD 0 0
 | n + 1, l => F (l.getD 0 0) fun a => F (l.getD 1 0) fun b => F (l.getD 2 0) fun c => F (l.getD 3 0) fun d => many n (blk [a, b, c, d, n, 2147483648, 0, 0, 0, 0, 0, 0, 0, 0, 0, 144])
theorem trial : (many 20 [1, 2, 3, 4] == 5) = false := by decide +kernel
end Fast
end Go.Proofs.YtcgffkkfeimifaaGreatDoor
namespace Go.Proofs.YtcgffkkfeimifaaGreatDoor
namespace Fast
open Sha
theorem F_eq {α : Type} (x : Nat) (f : Nat → α) : F x f = f x := by
 cases x with
 | zero => rfl
 | succ n => rfl
theorem ro_eq (x : UInt32) (n : Nat) (h1 : 1 ≤ n) (h2 : n < 32) : ro x.toNat n = (rr x n).toNat := by
 unfold ro rr
 rw [UInt32.toNat_or, UInt32.toNat_shiftRight, UInt32.toNat_shiftLeft, ofNat_toNat n h2, ofNat_toNat (32 - n) (by omega), Nat.mod_eq_of_lt h2, Nat.mod_eq_of_lt (show 32 - n < 32 by omega)]
 rfl
theorem shr_eq (x : UInt32) (n : Nat) (h2 : n < 32) : Nat.shiftRight x.toNat n = (x >>> UInt32.ofNat n).toNat := by
 rw [UInt32.toNat_shiftRight, ofNat_toNat n h2, Nat.mod_eq_of_lt h2]
 rfl
theorem xor_eq (x y : UInt32) : Nat.xor x.toNat y.toNat = (x ^^^ y).toNat := (UInt32.toNat_xor x y).symm
theorem and_eq (x y : UInt32) : Nat.land x.toNat y.toNat = (x &&& y).toNat := (UInt32.toNat_and x y).symm
theorem not_eq (x : UInt32) : Nat.sub 4294967295 x.toNat = (~~~ x).toNat := by
 rw [UInt32.toNat_not]
 rfl
theorem e1_eq (x : UInt32) : Nat.xor (Nat.xor (ro x.toNat 6) (ro x.toNat 11)) (ro x.toNat 25) = (e1 x).toNat := by
 rw [ro_eq x 6 (by decide) (by decide), ro_eq x 11 (by decide) (by decide), ro_eq x 25 (by decide) (by decide), xor_eq, xor_eq]
 rfl
theorem e0_eq (x : UInt32) : Nat.xor (Nat.xor (ro x.toNat 2) (ro x.toNat 13)) (ro x.toNat 22) = (e0 x).toNat := by
 rw [ro_eq x 2 (by decide) (by decide), ro_eq x 13 (by decide) (by decide), ro_eq x 22 (by decide) (by decide), xor_eq, xor_eq]
 rfl
theorem s1_eq (x : UInt32) : Nat.xor (Nat.xor (ro x.toNat 17) (ro x.toNat 19)) (Nat.shiftRight x.toNat 10) = (s1 x).toNat := by
 rw [ro_eq x 17 (by decide) (by decide), ro_eq x 19 (by decide) (by decide), shr_eq x 10 (by decide), xor_eq, xor_eq]
 rfl
theorem s0_eq (x : UInt32) : Nat.xor (Nat.xor (ro x.toNat 7) (ro x.toNat 18)) (Nat.shiftRight x.toNat 3) = (s0 x).toNat := by
 rw [ro_eq x 7 (by decide) (by decide), ro_eq x 18 (by decide) (by decide), shr_eq x 3 (by decide), xor_eq, xor_eq]
 rfl
def nats (l : List UInt32) : List Nat := l.map (·.toNat)
theorem go_step (k w : UInt32) (ks ws : List Nat) (r : Regs) :
  go (k.toNat :: ks) (w.toNat :: ws) r.a.toNat r.b.toNat r.c.toNat r.d.toNat r.e.toNat r.f.toNat r.g.toNat r.h.toNat =
  go ks ws (Sha.step r k w).a.toNat (Sha.step r k w).b.toNat (Sha.step r k w).c.toNat (Sha.step r k w).d.toNat (Sha.step r k w).e.toNat (Sha.step r k w).f.toNat (Sha.step r k w).g.toNat (Sha.step r k w).h.toNat := by
 rw [go, F_eq, F_eq, F_eq, e1_eq, e0_eq, and_eq, not_eq, and_eq, xor_eq, and_eq, and_eq, xor_eq, and_eq, xor_eq]
 have ha : Nat.mod (Nat.add (Nat.add (Nat.add (Nat.add (Nat.add r.h.toNat (e1 r.e).toNat) (r.e &&& r.f ^^^ ~~~r.e &&& r.g).toNat) k.toNat) w.toNat) (Nat.add (e0 r.a).toNat (r.a &&& r.b ^^^ r.a &&& r.c ^^^ r.b &&& r.c).toNat)) 4294967296 = (Sha.step r k w).a.toNat := by
  rw [step_eq]
  simp only [UInt32.toNat_add]
  show (_ + _ + _ + _ + _ + (_ + _)) % 4294967296 = _
  omega
 have he : Nat.mod (Nat.add r.d.toNat (Nat.add (Nat.add (Nat.add (Nat.add r.h.toNat (e1 r.e).toNat) (r.e &&& r.f ^^^ ~~~r.e &&& r.g).toNat) k.toNat) w.toNat)) 4294967296 = (Sha.step r k w).e.toNat := by
  rw [step_eq]
  simp only [UInt32.toNat_add]
  show (_ + (_ + _ + _ + _ + _)) % 4294967296 = _
  omega
 rw [ha, he, step_eq]
theorem go_turn (w : List UInt32) (hw : w.length = 64) (r0 : Regs) : ∀ j n, n + j = 64 → ∀ r, turn w n r0 = r →
  go (nats (K.drop n)) (nats (w.drop n)) r.a.toNat r.b.toNat r.c.toNat r.d.toNat r.e.toNat r.f.toNat r.g.toNat r.h.toNat = nats (turn w 64 r0).list
 | 0, n, hn, r, hr => by
  obtain rfl : n = 64 := by omega
  rw [List.drop_of_length_le (by rw [K_len]; omega), hr]
  rfl
 | j + 1, n, hn, r, hr => by
  have hk : K.drop n = K.getD n 0 :: K.drop (n + 1) := by
   rw [List.drop_eq_getElem_cons (by rw [K_len]; omega), List.getD_eq_getElem?_getD, List.getElem?_eq_getElem (by rw [K_len]; omega)]
   rfl
  have hwn : w.drop n = w.getD n 0 :: w.drop (n + 1) := by
   rw [List.drop_eq_getElem_cons (by omega), List.getD_eq_getElem?_getD, List.getElem?_eq_getElem (by omega)]
   rfl
  have h1 := go_turn w hw r0 j (n + 1) (by omega) (Sha.step r (K.getD n 0) (w.getD n 0)) (by rw [turn, hr])
  rw [← h1, hk, hwn]
  exact go_step _ _ _ _ r
def revw (x : List UInt8) (k : Nat) : List Nat := (nats ((mo x k).take (16 + k))).reverse
theorem revw_at (x : List UInt8) (k j : Nat) (hk : k ≤ 48) (hj : j < 16 + k) : (revw x k).getD j 0 = ((mo x k).getD (16 + k - 1 - j) 0).toNat := by
 have hl : (nats ((mo x k).take (16 + k))).length = 16 + k := by
  unfold nats
  rw [List.length_map, List.length_take, mo_len]
  omega
 unfold revw
 rw [List.getD_eq_getElem?_getD, List.getElem?_reverse (by rw [hl]; exact hj), hl]
 unfold nats
 rw [List.getElem?_map, List.getElem?_take, if_pos (by omega), List.getElem?_eq_getElem (by rw [mo_len]; omega), List.getD_eq_getElem?_getD, List.getElem?_eq_getElem (by rw [mo_len]; omega)]
 rfl
theorem revw_next (x : List UInt8) (k : Nat) (hk : k < 48) : revw x (k + 1) = (newW (mo x k) (16 + k)).toNat :: revw x k := by
 have h : (mo x (k + 1)).take (16 + (k + 1)) = (mo x k).take (16 + k) ++ [newW (mo x k) (16 + k)] := by
  rw [mo, show 16 + (k + 1) = (16 + k) + 1 by omega, List.take_succ_eq_append_getElem (by rw [List.length_set, mo_len]; omega)]
  congr 1
  ·
   rw [List.take_set_of_le (by omega)]
  ·
   rw [List.getElem_set_self]
 unfold revw
 rw [h]
 unfold nats
 rw [List.map_append, List.reverse_append]
 rfl
theorem ext_mo (x : List UInt8) : ∀ j k, k + j ≤ 48 → ext j (revw x k) = revw x (k + j)
 | 0, k, _ => rfl
 | j + 1, k, h => by
  have g1 := revw_at x k 1 (by omega) (by omega)
  have g6 := revw_at x k 6 (by omega) (by omega)
  have g14 := revw_at x k 14 (by omega) (by omega)
  have g15 := revw_at x k 15 (by omega) (by omega)
  rw [show 16 + k - 1 - 1 = 16 + k - 2 by omega] at g1
  rw [show 16 + k - 1 - 6 = 16 + k - 7 by omega] at g6
  rw [show 16 + k - 1 - 14 = 16 + k - 15 by omega] at g14
  rw [show 16 + k - 1 - 15 = 16 + k - 16 by omega] at g15
  have hn : Nat.mod (Nat.add (Nat.add (Nat.add (s1 ((mo x k).getD (16 + k - 2) 0)).toNat ((mo x k).getD (16 + k - 7) 0).toNat) (s0 ((mo x k).getD (16 + k - 15) 0)).toNat) ((mo x k).getD (16 + k - 16) 0).toNat) 4294967296 = (newW (mo x k) (16 + k)).toNat := by
   unfold newW
   simp only [UInt32.toNat_add]
   show (_ + _ + _ + _) % 4294967296 = _
   omega
  rw [ext, F_eq, F_eq, F_eq, g1, g6, g14, g15, s1_eq, s0_eq, hn, ← revw_next x k (by omega), ext_mo x j (k + 1) (by omega), show k + 1 + j = k + (j + 1) by omega]
end Fast
end Go.Proofs.YtcgffkkfeimifaaGreatDoor
namespace Go.Proofs.YtcgffkkfeimifaaGreatDoor
namespace Fast
open Sha Ots
set_option linter.unusedVariables false
def wb (w : UInt32) : List UInt8 := [UInt8.ofNat (w.toNat / 2 ^ 24), UInt8.ofNat (w.toNat / 2 ^ 16), UInt8.ofNat (w.toNat / 2 ^ 8), UInt8.ofNat (w.toNat / 2 ^ 0)]
def wbs (l : List UInt32) : List UInt8 := l.flatMap wb
theorem wbs_cons (w : UInt32) (l : List UInt32) : wbs (w :: l) = wb w ++ wbs l := rfl
theorem wbs_app (a b : List UInt32) : wbs (a ++ b) = wbs a ++ wbs b := by unfold wbs; rw [List.flatMap_append]
theorem wbs_len (l : List UInt32) : (wbs l).length = 4 * l.length := by
 induction l with
 | nil => rfl
 | cons w r ih => rw [wbs_cons, List.length_append, ih, List.length_cons, show (wb w).length = 4 from rfl]; omega
theorem wbs_drop (l : List UInt32) : ∀ k, (wbs l).drop (4 * k) = wbs (l.drop k) := by
 induction l with
 | nil => intro k; rw [List.drop_nil]; exact List.drop_nil
 | cons w r ih =>
  intro k
  cases k with
  | zero => rfl
  | succ k =>
   rw [wbs_cons, List.drop_succ_cons, ← ih k, show 4 * (k + 1) = (wb w).length + 4 * k by rw [show (wb w).length = 4 from rfl]; omega, List.drop_append, List.drop_of_length_le (by omega), List.nil_append, Nat.add_sub_cancel_left]
theorem wbs_take (l : List UInt32) : ∀ k, (wbs l).take (4 * k) = wbs (l.take k) := by
 induction l with
 | nil => intro k; rw [List.take_nil]; exact List.take_nil
 | cons w r ih =>
  intro k
  cases k with
  | zero => rfl
  | succ k =>
   rw [wbs_cons, List.take_succ_cons, wbs_cons, ← ih k, show 4 * (k + 1) = (wb w).length + 4 * k by rw [show (wb w).length = 4 from rfl]; omega, List.take_append, List.take_of_length_le (by omega), Nat.add_sub_cancel_left]
theorem takeIn_toNat (a : UInt32) (c : UInt8) : (takeIn a c).toNat = (a.toNat * 256 + c.toNat) % 4294967296 := by
 unfold takeIn
 have hc := c.toNat_lt
 rw [UInt32.toNat_or, UInt32.toNat_shiftLeft, UInt32.toNat_ofNat', Nat.mod_eq_of_lt (show c.toNat < 2 ^ 32 by omega), show (8 : UInt32).toNat % 32 = 8 from rfl]
 have h1 : a.toNat <<< 8 % 2 ^ 32 = (a.toNat % 16777216) <<< 8 := by
  rw [Nat.shiftLeft_eq, Nat.shiftLeft_eq]
  omega
 rw [h1, ← Nat.shiftLeft_add_eq_or_of_lt (show c.toNat < 2 ^ 8 by omega), Nat.shiftLeft_eq]
 omega
theorem word_wb (w : UInt32) : takeIn (takeIn (takeIn (takeIn 0 (UInt8.ofNat (w.toNat / 2 ^ 24))) (UInt8.ofNat (w.toNat / 2 ^ 16))) (UInt8.ofNat (w.toNat / 2 ^ 8))) (UInt8.ofNat (w.toNat / 2 ^ 0)) = w := by
 have hw := w.toNat_lt
 apply UInt32.toNat_inj.1
 rw [takeIn_toNat, takeIn_toNat, takeIn_toNat, takeIn_toNat, UInt8.toNat_ofNat', UInt8.toNat_ofNat', UInt8.toNat_ofNat', UInt8.toNat_ofNat', show (0 : UInt32).toNat = 0 from rfl]
 omega
theorem wbs_at (l : List UInt32) : ∀ k j, j < 4 → k < l.length → (wbs l).getD (4 * k + j) 0 = (wb (l.getD k 0)).getD j 0 := by
 induction l with
 | nil => intro k j _ h; simp at h
 | cons w r ih =>
  intro k j hj hk
  rw [wbs_cons, List.getD_eq_getElem?_getD]
  cases k with
  | zero =>
   rw [List.getElem?_append_left (by rw [show (wb w).length = 4 from rfl]; omega), Nat.mul_zero, Nat.zero_add, List.getD_eq_getElem?_getD]
   rfl
  | succ k =>
   rw [List.getElem?_append_right (by rw [show (wb w).length = 4 from rfl]; omega), show (wb w).length = 4 from rfl, show 4 * (k + 1) + j - 4 = 4 * k + j by omega, ← List.getD_eq_getElem?_getD, ih k j hj (by simpa using hk), List.getD_cons_succ]
theorem hp_at (l : List UInt32) : ∀ k j, j < k → k ≤ 32 → (hp l k)[j]? = some (byteAt l j)
 | 0, j, h, _ => by omega
 | k + 1, j, h, hk => by
  rw [hp, List.getElem?_set]
  by_cases e : k = j
  ·
   rw [if_pos e, if_pos (by rw [hp_len]; omega), e]
  ·
   rw [if_neg e]
   exact hp_at l k j (by omega) (by omega)
theorem hash_wbs (r : Regs) : r.hash = wbs r.list := by
 obtain ⟨l, hl⟩ : ∃ l, r.list = l := ⟨_, rfl⟩
 have h8 : l.length = 8 := by rw [← hl]; rfl
 unfold Regs.hash
 rw [hl]
 apply List.ext_getElem?
 intro j
 by_cases h : j < 32
 ·
  rw [hp_at l 32 j h (Nat.le_refl _)]
  have hw := wbs_at l (j / 4) (j % 4) (by omega) (by omega)
  rw [show 4 * (j / 4) + j % 4 = j by omega, List.getD_eq_getElem?_getD] at hw
  have hlt : j < (wbs l).length := by rw [wbs_len, h8]; omega
  rw [List.getElem?_eq_getElem hlt] at hw ⊢
  rw [Option.getD_some] at hw
  rw [hw]
  unfold byteAt
  have h4 : j % 4 = 0 ∨ j % 4 = 1 ∨ j % 4 = 2 ∨ j % 4 = 3 := by omega
  rcases h4 with e | e | e | e <;> rw [e] <;> rfl
 ·
  rw [List.getElem?_eq_none (by rw [hp_len]; omega), List.getElem?_eq_none (by rw [wbs_len, h8]; omega)]
theorem getD_set_same (l : List UInt32) (k : Nat) (h : k < l.length) (v : UInt32) : (l.set k v).getD k 0 = v := by
 rw [List.getD_eq_getElem?_getD, List.getElem?_set_self h]
 rfl
theorem pw4 (x : List UInt8) (k : Nat) (hk : k < 64) : pw x (4 * k + 4) = (pw x (4 * k)).set k (takeIn (takeIn (takeIn (takeIn ((pw x (4 * k)).getD k 0) (x.getD (4 * k) 0)) (x.getD (4 * k + 1) 0)) (x.getD (4 * k + 2) 0)) (x.getD (4 * k + 3) 0)) := by
 have hl := pw_len x (4 * k)
 have s1 : pw x (4 * k + 1) = (pw x (4 * k)).set k (takeIn ((pw x (4 * k)).getD k 0) (x.getD (4 * k) 0)) := by
  rw [pw, show 4 * k / 4 = k by omega]
 have s2 : pw x (4 * k + 2) = (pw x (4 * k)).set k (takeIn (takeIn ((pw x (4 * k)).getD k 0) (x.getD (4 * k) 0)) (x.getD (4 * k + 1) 0)) := by
  rw [pw, show (4 * k + 1) / 4 = k by omega, s1, getD_set_same _ _ (by omega), List.set_set]
 have s3 : pw x (4 * k + 3) = (pw x (4 * k)).set k (takeIn (takeIn (takeIn ((pw x (4 * k)).getD k 0) (x.getD (4 * k) 0)) (x.getD (4 * k + 1) 0)) (x.getD (4 * k + 2) 0)) := by
  rw [pw, show (4 * k + 2) / 4 = k by omega, s2, getD_set_same _ _ (by omega), List.set_set]
 rw [pw, show (4 * k + 3) / 4 = k by omega, s3, getD_set_same _ _ (by omega), List.set_set]
theorem pw_wbs (l : List UInt32) (hl : l.length = 16) : ∀ k, k ≤ 16 → pw (wbs l) (4 * k) = l.take k ++ List.replicate (64 - k) 0
 | 0, _ => rfl
 | k + 1, hk => by
  have ih := pw_wbs l hl k (by omega)
  have hlen : (l.take k).length = k := by rw [List.length_take]; omega
  have h0 : (pw (wbs l) (4 * k)).getD k 0 = 0 := by
   rw [ih, List.getD_eq_getElem?_getD, List.getElem?_append_right (by omega), hlen, List.getElem?_replicate]
   rw [if_pos (by omega)]
   rfl
  have a0 := wbs_at l k 0 (by omega) (by omega)
  have a1 := wbs_at l k 1 (by omega) (by omega)
  have a2 := wbs_at l k 2 (by omega) (by omega)
  have a3 := wbs_at l k 3 (by omega) (by omega)
  rw [Nat.add_zero] at a0
  have hw := word_wb (l.getD k 0)
  rw [show 4 * (k + 1) = 4 * k + 4 by omega, pw4 _ _ (by omega), h0, a0, a1, a2, a3]
  have e : takeIn (takeIn (takeIn (takeIn 0 ((wb (l.getD k 0)).getD 0 0)) ((wb (l.getD k 0)).getD 1 0)) ((wb (l.getD k 0)).getD 2 0)) ((wb (l.getD k 0)).getD 3 0) = l.getD k 0 := hw
  rw [e, ih, List.set_append_right _ _ (by omega), hlen, Nat.sub_self, show 64 - k = (64 - (k + 1)) + 1 by omega, List.replicate_succ, List.set_cons_zero]
  rw [List.take_succ_eq_append_getElem (by omega : k < l.length), List.append_assoc, List.getD_eq_getElem?_getD, List.getElem?_eq_getElem (by omega : k < l.length)]
  rfl
theorem pw_take (l : List UInt32) (hl : l.length = 16) : (pw (wbs l) 64).take 16 = l := by
 rw [show 64 = 4 * 16 from rfl, pw_wbs l hl 16 (by omega), List.take_of_length_le (show l.length ≤ 16 by omega), List.take_left' hl]
noncomputable def frc {α : Type} : List Nat → (List Nat → α) → α
 | [], k => k []
 | x :: xs, k => F x fun x => frc xs fun l => k (x :: l)
theorem frc_eq {α : Type} : ∀ (l : List Nat) (k : List Nat → α), frc l k = k l
 | [], k => rfl
 | x :: xs, k => by rw [frc, F_eq, frc_eq xs]
def KL : List Nat := [0x428a2f98, 0x71374491, 0xb5c0fbcf, 0xe9b5dba5, 0x3956c25b, 0x59f111f1, 0x923f82a4, 0xab1c5ed5,
 0xd807aa98, 0x12835b01, 0x243185be, 0x550c7dc3, 0x72be5d74, 0x80deb1fe, 0x9bdc06a7, 0xc19bf174,
 0xe49b69c1, 0xefbe4786, 0x0fc19dc6, 0x240ca1cc, 0x2de92c6f, 0x4a7484aa, 0x5cb0a9dc, 0x76f988da,
 0x983e5152, 0xa831c66d, 0xb00327c8, 0xbf597fc7, 0xc6e00bf3, 0xd5a79147, 0x06ca6351, 0x14292967,
 0x27b70a85, 0x2e1b2138, 0x4d2c6dfc, 0x53380d13, 0x650a7354, 0x766a0abb, 0x81c2c92e, 0x92722c85,
 0xa2bfe8a1, 0xa81a664b, 0xc24b8b70, 0xc76c51a3, 0xd192e819, 0xd6990624, 0xf40e3585, 0x106aa070,
 0x19a4c116, 0x1e376c08, 0x2748774c, 0x34b0bcb5, 0x391c0cb3, 0x4ed8aa4a, 0x5b9cca4f, 0x682e6ff3,
 0x748f82ee, 0x78a5636f, 0x84c87814, 0x8cc70208, 0x90befffa, 0xa4506ceb, 0xbef9a3f7, 0xc67178f2]
theorem KL_eq : nats K = KL := rfl
noncomputable def cmp {α : Type} (ws : List Nat) (a b c d e f g h : Nat) (k : Nat → Nat → Nat → Nat → Nat → Nat → Nat → Nat → α) : α :=
 frc ws.reverse fun l => frc (go KL (ext 48 l).reverse a b c d e f g h) fun t =>
 F (Nat.mod (Nat.add a (t.getD 0 0)) 4294967296) fun a => F (Nat.mod (Nat.add b (t.getD 1 0)) 4294967296) fun b =>
 F (Nat.mod (Nat.add c (t.getD 2 0)) 4294967296) fun c => F (Nat.mod (Nat.add d (t.getD 3 0)) 4294967296) fun d =>
 F (Nat.mod (Nat.add e (t.getD 4 0)) 4294967296) fun e => F (Nat.mod (Nat.add f (t.getD 5 0)) 4294967296) fun f =>
 F (Nat.mod (Nat.add g (t.getD 6 0)) 4294967296) fun g => F (Nat.mod (Nat.add h (t.getD 7 0)) 4294967296) fun h => k a b c d e f g h
theorem add_nat (x y : UInt32) : Nat.mod (Nat.add x.toNat y.toNat) 4294967296 = (x + y).toNat := (UInt32.toNat_add x y).symm
theorem cmp_eq {α : Type} (l : List UInt32) (hl : l.length = 16) (r : Regs) (k : Nat → Nat → Nat → Nat → Nat → Nat → Nat → Nat → α) :
  cmp (nats l) r.a.toNat r.b.toNat r.c.toNat r.d.toNat r.e.toNat r.f.toNat r.g.toNat r.h.toNat k =
  k (after r (wbs l)).a.toNat (after r (wbs l)).b.toNat (after r (wbs l)).c.toNat (after r (wbs l)).d.toNat (after r (wbs l)).e.toNat (after r (wbs l)).f.toNat (after r (wbs l)).g.toNat (after r (wbs l)).h.toNat := by
 obtain ⟨x, hx⟩ : ∃ x, wbs l = x := ⟨_, rfl⟩
 have h0 : (nats l).reverse = revw x 0 := by
  have h := pw_take l hl
  rw [hx] at h
  unfold revw
  rw [mo, Nat.add_zero, h]
 have h1 : (ext 48 (revw x 0)).reverse = nats (sched x) := by
  rw [ext_mo x 48 0 (by omega)]
  unfold revw
  rw [List.reverse_reverse, List.take_of_length_le (by rw [mo_len]; omega)]
  rfl
 have h2 := go_turn (sched x) (sched_len x) r 64 0 (by omega) r rfl
 rw [List.drop_zero, List.drop_zero, KL_eq] at h2
 unfold cmp
 rw [frc_eq, frc_eq, h0, h1, h2, F_eq, F_eq, F_eq, F_eq, F_eq, F_eq, F_eq, F_eq, hx]
 obtain ⟨s, hs⟩ : ∃ s, turn (sched x) 64 r = s := ⟨_, rfl⟩
 have ha : after r x = r.plus s := by unfold after; rw [hs]
 rw [ha, hs]
 show k (Nat.mod (Nat.add r.a.toNat s.a.toNat) 4294967296) (Nat.mod (Nat.add r.b.toNat s.b.toNat) 4294967296) (Nat.mod (Nat.add r.c.toNat s.c.toNat) 4294967296) (Nat.mod (Nat.add r.d.toNat s.d.toNat) 4294967296) (Nat.mod (Nat.add r.e.toNat s.e.toNat) 4294967296) (Nat.mod (Nat.add r.f.toNat s.f.toNat) 4294967296) (Nat.mod (Nat.add r.g.toNat s.g.toNat) 4294967296) (Nat.mod (Nat.add r.h.toNat s.h.toNat) 4294967296) = _
 rw [add_nat, add_nat, add_nat, add_nat, add_nat, add_nat, add_nat, add_nat]
 rfl
noncomputable def stW {α : Type} (i j a b c d : Nat) (k : Nat → Nat → Nat → Nat → α) : α :=
 F (Nat.add (Nat.add (Nat.mul i 16777216) (Nat.mul j 65536)) 32768) fun w => cmp [a, b, c, d, w, 0, 0, 0, 0, 0, 0, 0, 0, 0, 0, 144] 0x6a09e667 0xbb67ae85 0x3c6ef372 0xa54ff53a 0x510e527f 0x9b05688c 0x1f83d9ab 0x5be0cd19 fun a b c d _ _ _ _ => k a b c d
theorem four_bytes (i j : Nat) (hi : i < 256) (hj : j < 256) (w : UInt32) (hw : w.toNat = i * 16777216 + j * 65536 + 32768) : wb w = [UInt8.ofNat i, UInt8.ofNat j, 128, 0] := by
 unfold wb
 rw [hw]
 have e1 : (i * 16777216 + j * 65536 + 32768) / 2 ^ 24 = i := by omega
 have e2 : UInt8.ofNat ((i * 16777216 + j * 65536 + 32768) / 2 ^ 16) = UInt8.ofNat j := by
  apply UInt8.toNat_inj.1
  rw [UInt8.toNat_ofNat', UInt8.toNat_ofNat']
  omega
 have e3 : UInt8.ofNat ((i * 16777216 + j * 65536 + 32768) / 2 ^ 8) = 128 := by
  apply UInt8.toNat_inj.1
  rw [UInt8.toNat_ofNat']
  show _ = 128
  omega
 have e4 : UInt8.ofNat ((i * 16777216 + j * 65536 + 32768) / 2 ^ 0) = 0 := by
  apply UInt8.toNat_inj.1
  rw [UInt8.toNat_ofNat']
  show _ = 0
  omega
 rw [e1, e2, e3, e4]
theorem sha_of (x y : List UInt8) (hy : x ++ ending x.length = y) (n : Nat) (hn : y.length / 64 = n) (r : Regs) (hr : run n Sha.start y = r) : sha x = r.hash := by
 subst hy
 subst hn
 subst hr
 rfl
theorem run_one (y : List UInt8) (h : y.length = 64) (r : Regs) : run 1 r y = after r y := by
 rw [show (1 : Nat) = 0 + 1 from rfl, run, run, Nat.mul_zero, List.drop_zero, List.take_of_length_le (by omega)]
theorem first_four (r : Regs) : (wbs r.list).take 16 = wbs [r.a, r.b, r.c, r.d] := wbs_take r.list 4
theorem sha_one (x : List UInt8) (l : List UInt32) (hl : l.length = 16) (h : x ++ ending x.length = wbs l) (r : Regs) (hr : after Sha.start (wbs l) = r) : sh x = wbs [r.a, r.b, r.c, r.d] := by
 have hlen : (wbs l).length = 64 := by rw [wbs_len, hl]
 have h1 := sha_of x (wbs l) h 1 (by rw [hlen]) r (by rw [run_one _ hlen, hr])
 unfold sh
 rw [h1, hash_wbs, first_four]
theorem end_18 : ending 18 = 128 :: 0 :: wbs [0, 0, 0, 0, 0, 0, 0, 0, 0, 0, (144 : UInt32)] := by decide +kernel
theorem stW_eq (i j : Nat) (hi : i < 256) (hj : j < 256) (a b c d : UInt32) : ∃ A B C D : UInt32, stp (wbs [a, b, c, d]) i j = wbs [A, B, C, D] ∧ ∀ (α : Type) (k : Nat → Nat → Nat → Nat → α), stW i j a.toNat b.toNat c.toNat d.toNat k = k A.toNat B.toNat C.toNat D.toNat := by
 obtain ⟨w, hw⟩ : ∃ w : UInt32, w.toNat = i * 16777216 + j * 65536 + 32768 := ⟨UInt32.ofNat (i * 16777216 + j * 65536 + 32768), by rw [UInt32.toNat_ofNat']; omega⟩
 obtain ⟨l, hl⟩ : ∃ l, [a, b, c, d, w, 0, 0, 0, 0, 0, 0, 0, 0, 0, 0, (144 : UInt32)] = l := ⟨_, rfl⟩
 have hlen : l.length = 16 := by rw [← hl]; rfl
 have h18 : (wbs [a, b, c, d] ++ [UInt8.ofNat i, UInt8.ofNat j]).length = 18 := by rw [List.length_append, wbs_len]; rfl
 have hx : (wbs [a, b, c, d] ++ [UInt8.ofNat i, UInt8.ofNat j]) ++ ending (wbs [a, b, c, d] ++ [UInt8.ofNat i, UInt8.ofNat j]).length = wbs l := by
  rw [← hl, h18, end_18, show [a, b, c, d, w, 0, 0, 0, 0, 0, 0, 0, 0, 0, 0, (144 : UInt32)] = [a, b, c, d] ++ (w :: [0, 0, 0, 0, 0, 0, 0, 0, 0, 0, (144 : UInt32)]) from rfl, wbs_app, wbs_cons w, four_bytes i j hi hj w hw, List.append_assoc]
  rfl
 obtain ⟨r, hr⟩ : ∃ r, after Sha.start (wbs l) = r := ⟨_, rfl⟩
 have hs := sha_one _ l hlen hx r hr
 have hc := fun (α : Type) (k : Nat → Nat → Nat → Nat → α) => cmp_eq l hlen Sha.start fun a b c d _ _ _ _ => k a b c d
 have hn : nats l = [a.toNat, b.toNat, c.toNat, d.toNat, i * 16777216 + j * 65536 + 32768, 0, 0, 0, 0, 0, 0, 0, 0, 0, 0, 144] := by rw [← hl, ← hw]; rfl
 rw [hn, hr] at hc
 refine ⟨r.a, r.b, r.c, r.d, hs, fun α k => ?_⟩
 unfold stW
 rw [F_eq]
 exact hc α k
noncomputable def chW {α : Type} (i : Nat) : Nat → Nat → Nat → Nat → Nat → Nat → (Nat → Nat → Nat → Nat → α) → α
 | 0, _, a, b, c, d, k => k a b c d
 | n + 1, j, a, b, c, d, k => stW i j a b c d fun a b c d => chW i n (j + 1) a b c d k
theorem clm_first (x : List UInt8) (i j n : Nat) : clm x i j (n + 1) = clm (stp x i j) i (j + 1) n := by
 rw [Nat.add_comm n 1, clm_add]
 rfl
theorem chW_eq (i : Nat) (hi : i < 256) : ∀ (n j : Nat), n + j ≤ 256 → ∀ (a b c d : UInt32), ∃ A B C D : UInt32, clm (wbs [a, b, c, d]) i j n = wbs [A, B, C, D] ∧ ∀ (α : Type) (k : Nat → Nat → Nat → Nat → α), chW i n j a.toNat b.toNat c.toNat d.toNat k = k A.toNat B.toNat C.toNat D.toNat
 | 0, j, _, a, b, c, d => ⟨a, b, c, d, rfl, fun _ _ => rfl⟩
 | n + 1, j, h, a, b, c, d => by
  obtain ⟨a1, b1, c1, d1, h1, h2⟩ := stW_eq i j hi (by omega) a b c d
  obtain ⟨A, B, C, D, h3, h4⟩ := chW_eq i hi n (j + 1) (by omega) a1 b1 c1 d1
  refine ⟨A, B, C, D, ?_, fun α k => ?_⟩
  ·
   rw [clm_first, h1, h3]
  ·
   rw [chW, h2, h4]
noncomputable def enW {α : Type} (s t : Nat) (a b c d : Nat) : Nat → Nat → List Nat → (List Nat → α) → α
 | 0, _, acc, k => k acc
 | n + 1, i, acc, k => F i fun i => stW i s a b c d fun a1 b1 c1 d1 => chW i t 0 a1 b1 c1 d1 fun a2 b2 c2 d2 => enW s t a b c d n (i + 1) (d2 :: c2 :: b2 :: a2 :: acc) k
theorem enW_eq (s t : Nat) (hs : s = 255) (ht : t = 15) (a b c d : UInt32) (x : List UInt8) (hx : wbs [a, b, c, d] = x) : ∀ (n i : Nat), n + i ≤ 256 → ∀ (acc : List UInt32), ∃ E : List UInt32, E.length = 4 * n ∧ ((List.range' i n).map fun i => chn x i 15).flatten = wbs E ∧ ∀ (α : Type) (k : List Nat → α), enW s t a.toNat b.toNat c.toNat d.toNat n i (nats acc) k = k (nats (E.reverse ++ acc))
 | 0, i, _, acc => ⟨[], rfl, rfl, fun _ _ => rfl⟩
 | n + 1, i, h, acc => by
  obtain ⟨a1, b1, c1, d1, h1, h2⟩ := stW_eq i s (by omega) (by omega) a b c d
  obtain ⟨A, B, C, D, h3, h4⟩ := chW_eq i (by omega) t 0 (by omega) a1 b1 c1 d1
  obtain ⟨E, e1, e2, e3⟩ := enW_eq s t hs ht a b c d x hx n (i + 1) (by omega) (D :: C :: B :: A :: acc)
  have hch : chn x i 15 = wbs [A, B, C, D] := by
   unfold chn
   rw [← hx, ← hs, ← ht, h1, h3]
  have hfl : ((List.range' i (n + 1)).map fun i => chn x i 15).flatten = wbs ([A, B, C, D] ++ E) := by
   rw [List.range'_succ, List.map_cons, List.flatten_cons, e2, hch, wbs_app]
  refine ⟨[A, B, C, D] ++ E, ?_, hfl, fun α k => ?_⟩
  ·
   rw [List.length_append, e1]
   show 4 + 4 * n = _
   omega
  ·
   rw [enW, F_eq, h2, h4, show D.toNat :: C.toNat :: B.toNat :: A.toNat :: nats acc = nats (D :: C :: B :: A :: acc) from rfl, e3]
   have hq : E.reverse ++ D :: C :: B :: A :: acc = ([A, B, C, D] ++ E).reverse ++ acc := by simp
   rw [hq]
noncomputable def ruW : Nat → List Nat → Nat → Nat → Nat → Nat → Nat → Nat → Nat → Nat → List Nat
 | 0, _, a, b, c, d, _, _, _, _ => [a, b, c, d]
 | n + 1, ws, a, b, c, d, e, f, g, h => frc (ws.take 16) fun l => frc (ws.drop 16) fun r => cmp l a b c d e f g h fun a b c d e f g h => ruW n r a b c d e f g h
theorem run_first (x : List UInt8) : ∀ (n : Nat) (r : Regs), run (n + 1) r x = run n (after r (x.take 64)) (x.drop 64)
 | 0, r => by
  show after r ((x.drop (64 * 0)).take 64) = _
  rw [Nat.mul_zero, List.drop_zero]
  rfl
 | n + 1, r => by
  rw [run, run_first x n r, run, List.drop_drop]
  rw [show 64 + 64 * n = 64 * (n + 1) by omega]
theorem nats_take (l : List UInt32) (k : Nat) : (nats l).take k = nats (l.take k) := by unfold nats; rw [List.map_take]
theorem nats_drop (l : List UInt32) (k : Nat) : (nats l).drop k = nats (l.drop k) := by unfold nats; rw [List.map_drop]
theorem ruW_eq : ∀ (n : Nat) (l : List UInt32), l.length = 16 * n → ∀ (r : Regs), ruW n (nats l) r.a.toNat r.b.toNat r.c.toNat r.d.toNat r.e.toNat r.f.toNat r.g.toNat r.h.toNat = nats [(run n r (wbs l)).a, (run n r (wbs l)).b, (run n r (wbs l)).c, (run n r (wbs l)).d]
 | 0, _, _, _ => rfl
 | n + 1, l, hl, r => by
  rw [ruW, frc_eq, frc_eq, nats_take, nats_drop, cmp_eq _ (by rw [List.length_take]; omega) r, ruW_eq n (l.drop 16) (by rw [List.length_drop]; omega), run_first]
  rw [show (64 : Nat) = 4 * 16 from rfl, wbs_take, wbs_drop]
theorem end_560 : ending 560 = wbs [2147483648, 0, 0, (4480 : UInt32)] := by decide +kernel
end Fast
end Go.Proofs.YtcgffkkfeimifaaGreatDoor
namespace Go.Proofs.YtcgffkkfeimifaaGreatDoor
namespace Fast
open Sha Ots
set_option linter.unusedVariables false
theorem nats_inj : ∀ (l m : List UInt32), nats l = nats m → l = m
 | [], [], _ => rfl
 | [], w :: m, h => by simp [nats] at h
 | w :: l, [], h => by simp [nats] at h
 | v :: l, w :: m, h => by
  have h1 : v.toNat = w.toNat ∧ nats l = nats m := by simpa [nats] using h
  rw [UInt32.toNat_inj.1 h1.1, nats_inj l m h1.2]
theorem five (a b c d : UInt32) (x : List UInt8) (hx : wbs [a, b, c, d] = x) (i : Nat) (hi : i ≤ 30) (E : List UInt32) (h : enW 255 15 a.toNat b.toNat c.toNat d.toNat 5 i [] (fun l => l) = nats E.reverse) :
  ((List.range' i 5).map fun i => chn x i 15).flatten = wbs E := by
 obtain ⟨E2, e1, e2, e3⟩ := enW_eq 255 15 rfl rfl a b c d x hx 5 i (by omega) []
 have h3 := e3 (List Nat) (fun l => l)
 have h4 : nats [] = ([] : List Nat) := rfl
 rw [h4, h, List.append_nil] at h3
 have h5 := congrArg List.reverse (nats_inj _ _ h3)
 rw [List.reverse_reverse, List.reverse_reverse] at h5
 rw [e2, h5]
theorem key_of (x : List UInt8) (E : List UInt32) (hE : E.length = 140) (h : ((List.range 35).map fun i => chn x i 15).flatten = wbs E) (P : List UInt32)
  (hp : ruW 9 (nats (E ++ [2147483648, 0, 0, (4480 : UInt32)])) 0x6a09e667 0xbb67ae85 0x3c6ef372 0xa54ff53a 0x510e527f 0x9b05688c 0x1f83d9ab 0x5be0cd19 = nats P) : pub x = wbs P := by
 obtain ⟨l, hl⟩ : ∃ l, E ++ [2147483648, 0, 0, (4480 : UInt32)] = l := ⟨_, rfl⟩
 rw [hl] at hp
 have hlen : l.length = 16 * 9 := by rw [← hl, List.length_append, hE]; rfl
 have hE5 : (wbs E).length = 560 := by rw [wbs_len, hE]
 have hw : wbs E ++ ending (wbs E).length = wbs l := by
  rw [← hl, wbs_app, hE5, end_560]
 obtain ⟨r, hr⟩ : ∃ r, run 9 Sha.start (wbs l) = r := ⟨_, rfl⟩
 have hs := sha_of (wbs E) (wbs l) hw 9 (by rw [wbs_len, hlen]) r hr
 have hru := ruW_eq 9 l hlen Sha.start
 rw [hr] at hru
 have h7 : nats P = nats [r.a, r.b, r.c, r.d] := hp.symm.trans hru
 unfold pub
 rw [h]
 unfold sh
 rw [hs, hash_wbs, first_four, nats_inj _ _ h7]
theorem range_35 : List.range 35 = List.range' 0 5 ++ (List.range' 5 5 ++ (List.range' 10 5 ++ (List.range' 15 5 ++ (List.range' 20 5 ++ (List.range' 25 5 ++ List.range' 30 5))))) := by decide +kernel
end Fast
end Go.Proofs.YtcgffkkfeimifaaGreatDoor
