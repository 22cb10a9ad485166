/-
  PLAIN MATHEMATICS of layer 5: SHA-256 over words of 32 bits, as the document has it.
-/
import Derived.Test.YthfgdgcdicacpaaRows
import Derived.RowKit
namespace Go.Proofs.Ythfgdgcdicacpaa
namespace Sha
def rr (x : UInt32) (n : Nat) : UInt32 := (x >>> UInt32.ofNat n) ||| (x <<< UInt32.ofNat (32 - n))
def e1 (x : UInt32) : UInt32 := rr x 6 ^^^ rr x 11 ^^^ rr x 25
def e0 (x : UInt32) : UInt32 := rr x 2 ^^^ rr x 13 ^^^ rr x 22
def s1 (x : UInt32) : UInt32 := rr x 17 ^^^ rr x 19 ^^^ (x >>> 10)
def s0 (x : UInt32) : UInt32 := rr x 7 ^^^ rr x 18 ^^^ (x >>> 3)
def K : List UInt32 := [0x428a2f98, 0x71374491, 0xb5c0fbcf, 0xe9b5dba5, 0x3956c25b, 0x59f111f1, 0x923f82a4, 0xab1c5ed5,
  0xd807aa98, 0x12835b01, 0x243185be, 0x550c7dc3, 0x72be5d74, 0x80deb1fe, 0x9bdc06a7, 0xc19bf174,
  0xe49b69c1, 0xefbe4786, 0x0fc19dc6, 0x240ca1cc, 0x2de92c6f, 0x4a7484aa, 0x5cb0a9dc, 0x76f988da,
  0x983e5152, 0xa831c66d, 0xb00327c8, 0xbf597fc7, 0xc6e00bf3, 0xd5a79147, 0x06ca6351, 0x14292967,
  0x27b70a85, 0x2e1b2138, 0x4d2c6dfc, 0x53380d13, 0x650a7354, 0x766a0abb, 0x81c2c92e, 0x92722c85,
  0xa2bfe8a1, 0xa81a664b, 0xc24b8b70, 0xc76c51a3, 0xd192e819, 0xd6990624, 0xf40e3585, 0x106aa070,
  0x19a4c116, 0x1e376c08, 0x2748774c, 0x34b0bcb5, 0x391c0cb3, 0x4ed8aa4a, 0x5b9cca4f, 0x682e6ff3,
  0x748f82ee, 0x78a5636f, 0x84c87814, 0x8cc70208, 0x90befffa, 0xa4506ceb, 0xbef9a3f7, 0xc67178f2]
structure Regs where
  a : UInt32
  b : UInt32
  c : UInt32
  d : UInt32
  e : UInt32
  f : UInt32
  g : UInt32
  h : UInt32
deriving DecidableEq
def start : Regs := ⟨0x6a09e667, 0xbb67ae85, 0x3c6ef372, 0xa54ff53a, 0x510e527f, 0x9b05688c, 0x1f83d9ab, 0x5be0cd19⟩
def step (r : Regs) (k w : UInt32) : Regs :=
  let t := r.h + e1 r.e + ((r.e &&& r.f) ^^^ (~~~ r.e &&& r.g)) + k + w
  let u := e0 r.a + ((r.a &&& r.b) ^^^ (r.a &&& r.c) ^^^ (r.b &&& r.c))
  ⟨t + u, r.a, r.b, r.c, r.d + t, r.e, r.f, r.g⟩
/-- a word takes in one byte more -/
def takeIn (a : UInt32) (c : UInt8) : UInt32 := (a <<< 8) ||| UInt32.ofNat c.toNat
/-- 64 words, the first k bytes taken in -/
def pw (x : List UInt8) : Nat → List UInt32
  | 0 => List.replicate 64 0
  | k + 1 => (pw x k).set (k / 4) (takeIn ((pw x k).getD (k / 4) 0) (x.getD k 0))
/-- word i out of those before it -/
def newW (w : List UInt32) (i : Nat) : UInt32 := s1 (w.getD (i - 2) 0) + w.getD (i - 7) 0 + s0 (w.getD (i - 15) 0) + w.getD (i - 16) 0
def mo (x : List UInt8) : Nat → List UInt32
  | 0 => pw x 64
  | k + 1 => (mo x k).set (16 + k) (newW (mo x k) (16 + k))
def sched (x : List UInt8) : List UInt32 := mo x 48
theorem pw_len (x : List UInt8) : ∀ k, (pw x k).length = 64
  | 0 => by simp [pw]
  | k + 1 => by rw [pw, List.length_set, pw_len x k]
theorem mo_len (x : List UInt8) : ∀ k, (mo x k).length = 64
  | 0 => pw_len x 64
  | k + 1 => by rw [mo, List.length_set, mo_len x k]
theorem sched_len (x : List UInt8) : (sched x).length = 64 := mo_len x 48
def turn (w : List UInt32) : Nat → Regs → Regs
  | 0, r => r
  | n + 1, r => step (turn w n r) (K.getD n 0) (w.getD n 0)
def Regs.plus (r s : Regs) : Regs := ⟨r.a + s.a, r.b + s.b, r.c + s.c, r.d + s.d, r.e + s.e, r.f + s.f, r.g + s.g, r.h + s.h⟩
def after (r : Regs) (x : List UInt8) : Regs := r.plus (turn (sched x) 64 r)
def Regs.list (r : Regs) : List UInt32 := [r.a, r.b, r.c, r.d, r.e, r.f, r.g, r.h]
/-- byte k of words, the first byte of each the greatest -/
def byteAt (l : List UInt32) (k : Nat) : UInt8 := UInt8.ofNat ((l.getD (k / 4) 0).toNat / 2 ^ (8 * (3 - k % 4)))
/-- 32 bytes, the first k of them set -/
def hp (l : List UInt32) : Nat → List UInt8
  | 0 => List.replicate 32 0
  | k + 1 => (hp l k).set k (byteAt l k)
def Regs.hash (r : Regs) : List UInt8 := hp r.list 32
theorem hp_len (l : List UInt32) : ∀ k, (hp l k).length = 32
  | 0 => by simp [hp]
  | k + 1 => by rw [hp, List.length_set, hp_len l k]
def be8 (n : Nat) : List UInt8 := [UInt8.ofNat (n / 2^56), UInt8.ofNat (n / 2^48), UInt8.ofNat (n / 2^40), UInt8.ofNat (n / 2^32), UInt8.ofNat (n / 2^24), UInt8.ofNat (n / 2^16), UInt8.ofNat (n / 2^8), UInt8.ofNat n]
/-- what is added to so many bytes -/
def ending (n : Nat) : List UInt8 := 128 :: (List.replicate ((119 - n % 64) % 64) 0 ++ be8 (8 * n))
/-- all whole blocks, one after the other -/
def run : Nat → Regs → List UInt8 → Regs
  | 0, r, _ => r
  | n + 1, r, x => after (run n r x) ((x.drop (64 * n)).take 64)
def sha (x : List UInt8) : List UInt8 :=
  let y := x ++ ending x.length
  (run (y.length / 64) start y).hash

end Sha
theorem sha_abc : Sha.sha [97, 98, 99] = [0xba, 0x78, 0x16, 0xbf, 0x8f, 0x01, 0xcf, 0xea, 65, 65, 64, 222, 93, 174, 34, 35, 176, 3, 97, 163, 150, 23, 122, 156, 180, 16, 255, 97, 242, 0, 21, 173] := by decide +kernel
theorem sha_nil : Sha.sha [] = [227, 176, 196, 66, 152, 252, 28, 20, 154, 251, 244, 200, 153, 111, 185, 36, 39, 174, 65, 228, 100, 155, 147, 76, 164, 149, 153, 27, 120, 82, 184, 85] := by decide +kernel
namespace Sha
/-- a word as the model's number -/
def u (x : UInt32) : Int := (x.toNat : Int)
theorem u_lo (x : UInt32) : 0 ≤ u x := by unfold u; omega
theorem u_hi (x : UInt32) : u x < 4294967296 := by unfold u; have := x.toNat_lt; omega
theorem ofInt_u (x : UInt32) : BitVec.ofInt 32 (u x) = x.toBitVec := by
  apply BitVec.eq_of_toNat_eq
  have h := x.toNat_lt
  simp [u]
theorem u_add (a b : UInt32) : (u a + u b) % 4294967296 = u (a + b) := by
  unfold u; rw [UInt32.toNat_add]; omega
theorem wrap32 (n : Int) : IntKind.u32.wrap n = n % 4294967296 := by simp [IntKind.wrap, IntKind.bits, IntKind.signed]
theorem u_xor (a b : UInt32) : bits .xor .u32 (u a) (u b) = u (a ^^^ b) := by
  have h := (a ^^^ b).toNat_lt
  simp only [bits, IntKind.bits, ofInt_u, wrap32]
  show (((a.toBitVec ^^^ b.toBitVec).toNat : Int)) % 4294967296 = u (a ^^^ b)
  rw [← UInt32.toBitVec_xor]; unfold u
  show (((a ^^^ b).toNat : Int)) % 4294967296 = _
  omega
theorem u_and (a b : UInt32) : bits .and .u32 (u a) (u b) = u (a &&& b) := by
  have h := (a &&& b).toNat_lt
  simp only [bits, IntKind.bits, ofInt_u, wrap32]
  show (((a.toBitVec &&& b.toBitVec).toNat : Int)) % 4294967296 = u (a &&& b)
  rw [← UInt32.toBitVec_and]; unfold u
  show (((a &&& b).toNat : Int)) % 4294967296 = _
  omega
theorem u_or (a b : UInt32) : bits .or .u32 (u a) (u b) = u (a ||| b) := by
  have h := (a ||| b).toNat_lt
  simp only [bits, IntKind.bits, ofInt_u, wrap32]
  show (((a.toBitVec ||| b.toBitVec).toNat : Int)) % 4294967296 = u (a ||| b)
  rw [← UInt32.toBitVec_or]; unfold u
  show (((a ||| b).toNat : Int)) % 4294967296 = _
  omega
theorem u_all : (4294967295 : Int) = u 4294967295 := by decide
theorem u_not (a : UInt32) : bits .xor .u32 4294967295 (u a) = u (~~~ a) := by
  rw [u_all, u_xor]
  congr 1
theorem ofNat_toNat (n : Nat) (h : n < 32) : (UInt32.ofNat n).toNat = n := by
  rw [UInt32.toNat_ofNat']; omega
theorem u_shr (a : UInt32) (n : Nat) (h : n < 32) : u a / 2 ^ n = u (a >>> UInt32.ofNat n) := by
  unfold u
  rw [UInt32.toNat_shiftRight, ofNat_toNat n h, Nat.mod_eq_of_lt h, Nat.shiftRight_eq_div_pow]
  exact (Int.natCast_ediv a.toNat (2 ^ n)).symm ▸ by rw [Int.natCast_pow]; rfl
theorem u_shl (a : UInt32) (n : Nat) (h : n < 32) : (u a * 2 ^ n) % 4294967296 = u (a <<< UInt32.ofNat n) := by
  unfold u
  rw [UInt32.toNat_shiftLeft, ofNat_toNat n h, Nat.mod_eq_of_lt h, Nat.shiftLeft_eq]
  rw [Int.natCast_emod, Int.natCast_mul, Int.natCast_pow]; rfl
theorem rr_or (a : UInt32) (n : Nat) (h1 : 1 ≤ n) (h2 : n < 32) : bits .or .u32 ((u a * 2 ^ (32 - n)) % 4294967296) (u a / 2 ^ n) = u (rr a n) := by
  rw [u_shl a _ (by omega), u_shr a n h2, u_or]
  unfold rr
  rw [UInt32.or_comm]
theorem rr_or' (a : UInt32) (n : Nat) (h1 : 1 ≤ n) (h2 : n < 32) : bits .or .u32 (u a / 2 ^ n) ((u a * 2 ^ (32 - n)) % 4294967296) = u (rr a n) := by
  rw [u_shl a _ (by omega), u_shr a n h2, u_or]
  rfl
theorem u_takeIn (a : UInt32) (c : UInt8) : bits .or .u32 ((u a * 256) % 4294967296) (c.toNat : Int) = u (takeIn a c) := by
  have h1 := u_shl a 8 (by decide)
  have h2 : (c.toNat : Int) = u (UInt32.ofNat c.toNat) := by
    unfold u
    rw [UInt32.toNat_ofNat', Nat.mod_eq_of_lt (by have := c.toNat_lt; omega)]
  have h3 : (u a * (256 : Int)) % (4294967296 : Int) = u (a <<< 8) := by rw [show (2 : Int) ^ 8 = 256 by decide] at h1; exact h1
  rw [h3, h2, u_or]
  rfl
theorem u_s1 (p : UInt32) : bits .xor .u32 (bits .xor .u32 (u (rr p 17)) (u (rr p 19))) (u p / 1024) = u (s1 p) := by
  have h : u p / (1024 : Int) = u (p >>> 10) := u_shr p 10 (by decide)
  rw [h, u_xor, u_xor]
  rfl
theorem u_s0 (p : UInt32) : bits .xor .u32 (bits .xor .u32 (u (rr p 7)) (u (rr p 18))) (u p / 8) = u (s0 p) := by
  have h : u p / (8 : Int) = u (p >>> 3) := u_shr p 3 (by decide)
  rw [h, u_xor, u_xor]
  rfl
theorem u_add4 (a b c d : UInt32) : (u a + u b + u c + u d) % 4294967296 = u (a + b + c + d) := by
  rw [← u_add (a + b + c) d, ← u_add (a + b) c, ← u_add a b]
  omega
theorem mo_step (x : List UInt8) (i : Nat) (h : 16 ≤ i) : mo x (i + 1 - 16) = (mo x (i - 16)).set i (newW (mo x (i - 16)) i) := by
  rw [show i + 1 - 16 = (i - 16) + 1 by omega, mo, show 16 + (i - 16) = i by omega]
theorem u_t (e f g h k w : UInt32) : ((u h + u (e1 e) + bits .xor .u32 (bits .and .u32 (u e) (u f)) (bits .and .u32 (bits .xor .u32 4294967295 (u e)) (u g)) + u k) % 4294967296 + u w) % 4294967296 = u (h + e1 e + ((e &&& f) ^^^ (~~~ e &&& g)) + k + w) := by
  rw [u_not, u_and, u_and, u_xor, u_add4, u_add]
theorem u_u (a b c : UInt32) : (u (e0 a) + bits .xor .u32 (bits .xor .u32 (bits .and .u32 (u a) (u b)) (bits .and .u32 (u a) (u c))) (bits .and .u32 (u b) (u c))) % 4294967296 = u (e0 a + ((a &&& b) ^^^ (a &&& c) ^^^ (b &&& c))) := by
  rw [u_and, u_and, u_and, u_xor, u_xor, u_add]
theorem step_eq (r : Regs) (k w : UInt32) : step r k w = ⟨(r.h + e1 r.e + ((r.e &&& r.f) ^^^ (~~~ r.e &&& r.g)) + k + w) + (e0 r.a + ((r.a &&& r.b) ^^^ (r.a &&& r.c) ^^^ (r.b &&& r.c))), r.a, r.b, r.c, r.d + (r.h + e1 r.e + ((r.e &&& r.f) ^^^ (~~~ r.e &&& r.g)) + k + w), r.e, r.f, r.g⟩ := rfl
/-- the registers with the first k sums -/
def pl (r s : List UInt32) : Nat → List UInt32
  | 0 => r
  | k + 1 => (pl r s k).set k ((pl r s k).getD k 0 + s.getD k 0)
theorem pl_len (r s : List UInt32) : ∀ k, (pl r s k).length = r.length
  | 0 => rfl
  | k + 1 => by rw [pl, List.length_set, pl_len r s k]
theorem pl_all (r s : Regs) : pl r.list s.list 8 = (r.plus s).list := rfl
theorem list_len (r : Regs) : r.list.length = 8 := rfl
theorem K_len : K.length = 64 := rfl
theorem mx : (if IntKind.u32.signed = true then (-1 : Int) else IntKind.u32.max) = 4294967295 := by decide
theorem u_byte (l : List UInt32) (k : Nat) : (u (l.getD (k / 4) 0) / 2 ^ (8 * (3 - k % 4))) % 256 = ((byteAt l k).toNat : Int) := by
  unfold byteAt u
  rw [UInt8.toNat_ofNat', Int.natCast_emod, Int.natCast_ediv, Int.natCast_pow]
  rfl
end Sha
end Go.Proofs.Ythfgdgcdicacpaa
