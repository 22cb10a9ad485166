import Derived.Test.YthfgdgcdicacpaaRows
import Derived.RowKit
namespace Go.Proofs.Ythfgdgcdicacpaa
namespace Sha
def rr (x : UInt32) (n : Nat) : UInt32 := (x >>> UInt32.ofNat n) ||| (x <<< UInt32.ofNat (32 - n))
def e1 (x : UInt32) : UInt32 := rr x 6 ^^^ rr x 11 ^^^ rr x 25
def e0 (x : UInt32) : UInt32 := rr x 2 ^^^ rr x 13 ^^^ rr x 22
def s1 (x : UInt32) : UInt32 := rr x 17 ^^^ rr x 19 ^^^ (x >>> 10)
def s0 (x : UInt32) : UInt32 := rr x 7 ^^^ rr x 18 ^^^ (x >>> 3)
def K : List UInt32 := [0x428a2f98, 0x71374491, 0xb5c0fbcf, 0xe9b5dba5, 0x3956c25b, 0x59f111f1, 0x923f82a4, 0xab1c5ed5,
 0xd807aa98, 0x12835b01, 0x243185be, 0x550c7dc3, 0x72be5d74, 0x80deb1fe, 0x9bdc06a7, 0xc19bf174,
 0xe49b69c1, 0xefbe4786, 0x0fc19dc6, 0x240ca1cc, 0x2de92c6f, 0x4a7484aa, 0x5cb0a9dc, 0x76f988da,
 0x983e5152, 0xa831c66d, 0xb00327c8, 0xbf597fc7, 0xc6e00bf3, 0xd5a79147, 0x06ca6351, 0x14292967,
 0x27b70a85, 0x2e1b2138, 0x4d2c6dfc, 0x53380d13, 0x650a7354, 0x766a0abb, 0x81c2c92e, 0x92722c85,
 0xa2bfe8a1, 0xa81a664b, 0xc24b8b70, 0xc76c51a3, 0xd192e819, 0xd6990624, 0xf40e3585, 0x106aa070,
 0x19a4c116, 0x1e376c08, 0x2748774c, 0x34b0bcb5, 0x391c0cb3, 0x4ed8aa4a, 0x5b9cca4f, 0x682e6ff3,
 0x748f82ee, 0x78a5636f, 0x84c87814, 0x8cc70208, 0x90befffa, 0xa4506ceb, 0xbef9a3f7, 0xc67178f2]
structure Regs where
 a : UInt32
 b : UInt32
 c : UInt32
 d : UInt32
 e : UInt32
 f : UInt32
 g : UInt32
 h : UInt32
deriving DecidableEq
def start : Regs := ⟨0x6a09e667, 0xbb67ae85, 0x3c6ef372, 0xa54ff53a, 0x510e527f, 0x9b05688c, 0x1f83d9ab, 0x5be0cd19⟩
def step (r : Regs) (k w : UInt32) : Regs :=
 let t := r.h + e1 r.e + ((r.e &&& r.f) ^^^ (~~~ r.e &&& r.g)) + k + w
 let u := e0 r.a + ((r.a &&& r.b) ^^^ (r.a &&& r.c) ^^^ (r.b &&& r.c))
 ⟨t + u, r.a, r.b, r.c, r.d + t, r.e, r.f, r.g⟩
def takeIn (a : UInt32) (c : UInt8) : UInt32 := (a <<< 8) ||| UInt32.ofNat c.toNat
def pw (x : List UInt8) : Nat → List UInt32
 | 0 => List.replicate 64 0
 | k + 1 => (pw x k).set (k / 4) (takeIn ((pw x k).getD (k / 4) 0) (x.getD k 0))
def newW (w : List UInt32) (i : Nat) : UInt32 := s1 (w.getD (i - 2) 0) + w.getD (i - 7) 0 + s0 (w.getD (i - 15) 0) + w.getD (i - 16) 0
def mo (x : List UInt8) : Nat → List UInt32
 | 0 => pw x 64
 | k + 1 => (mo x k).set (16 + k) (newW (mo x k) (16 + k))
def sched (x : List UInt8) : List UInt32 := mo x 48
def turn (w : List UInt32) : Nat → Regs → Regs
 | 0, r => r
 | n + 1, r => step (turn w n r) (K.getD n 0) (w.getD n 0)
def Regs.plus (r s : Regs) : Regs := ⟨r.a + s.a, r.b + s.b, r.c + s.c, r.d + s.d, r.e + s.e, r.f + s.f, r.g + s.g, r.h + s.h⟩
def after (r : Regs) (x : List UInt8) : Regs := r.plus (turn (sched x) 64 r)
def Regs.list (r : Regs) : List UInt32 := [r.a, r.b, r.c, r.d, r.e, r.f, r.g, r.h]
def byteAt (l : List UInt32) (k : Nat) : UInt8 := UInt8.ofNat ((l.getD (k / 4) 0).toNat / 2 ^ (8 * (3 - k % 4)))
def hp (l : List UInt32) : Nat → List UInt8
 | 0 => List.replicate 32 0
 | k + 1 => (hp l k).set k (byteAt l k)
def Regs.hash (r : Regs) : List UInt8 := hp r.list 32
def be8 (n : Nat) : List UInt8 := [UInt8.ofNat (n / 2^56), UInt8.ofNat (n / 2^48), UInt8.ofNat (n / 2^40), UInt8.ofNat (n / 2^32), UInt8.ofNat (n / 2^24), UInt8.ofNat (n / 2^16), UInt8.ofNat (n / 2^8), UInt8.ofNat n]
def ending (n : Nat) : List UInt8 := 128 :: (List.replicate ((119 - n % 64) % 64) 0 ++ be8 (8 * n))
def run : Nat → Regs → List UInt8 → Regs
 | 0, r, _ => r
 | n + 1, r, x => after (run n r x) ((x.drop (64 * n)).take 64)
def sha (x : List UInt8) : List UInt8 :=
 let y := x ++ ending x.length
 (run (y.length / 64) start y).hash

end Sha
namespace Sha
def u (x : UInt32) : Int := (x.toNat : Int)
theorem ofNat_toNat (n : Nat) (h : n < 32) : (UInt32.ofNat n).toNat = n := by
 rw [UInt32.toNat_ofNat']; omega
def pl (r s : List UInt32) : Nat → List UInt32
 | 0 => r
 | k + 1 => (pl r s k).set k ((pl r s k).getD k 0 + s.getD k 0)
end Sha
end Go.Proofs.Ythfgdgcdicacpaa
