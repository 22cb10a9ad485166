/-
  SHA-256 AS THE KERNEL RECKONS IT FAST: a trial of speed, not yet shown to be Sha.sha.
-/
import Derived.Test.YtafolokkjpbieaaDoorOneMath
namespace Go.Proofs.YtafolokkjpbieaaDoor
namespace Fast
/-- x reckoned first -/
noncomputable def F {α : Type} (x : Nat) (f : Nat → α) : α := Nat.rec (f 0) (fun n _ => f (n + 1)) x
def ro (x n : Nat) : Nat := Nat.lor (Nat.shiftRight x n) (Nat.mod (Nat.shiftLeft x (32 - n)) 4294967296)
noncomputable def ext : Nat → List Nat → List Nat
  | 0, l => l
  | n + 1, l => F (l.getD 1 0) fun w2 => F (l.getD 14 0) fun w15 =>
    F (Nat.mod (Nat.add (Nat.add (Nat.add (Nat.xor (Nat.xor (ro w2 17) (ro w2 19)) (Nat.shiftRight w2 10)) (l.getD 6 0)) (Nat.xor (Nat.xor (ro w15 7) (ro w15 18)) (Nat.shiftRight w15 3))) (l.getD 15 0)) 4294967296) fun w => ext n (w :: l)
noncomputable def go : List Nat → List Nat → Nat → Nat → Nat → Nat → Nat → Nat → Nat → Nat → List Nat
  | k :: ks, w :: ws, a, b, c, d, e, f, g, h =>
    F (Nat.add (Nat.add (Nat.add (Nat.add h (Nat.xor (Nat.xor (ro e 6) (ro e 11)) (ro e 25))) (Nat.xor (Nat.land e f) (Nat.land (Nat.sub 4294967295 e) g))) k) w) fun t =>
    F (Nat.mod (Nat.add t (Nat.add (Nat.xor (Nat.xor (ro a 2) (ro a 13)) (ro a 22)) (Nat.xor (Nat.xor (Nat.land a b) (Nat.land a c)) (Nat.land b c)))) 4294967296) fun a' =>
    F (Nat.mod (Nat.add d t) 4294967296) fun e' => go ks ws a' a b c e' e f g
  | _, _, a, b, c, d, e, f, g, h => [a, b, c, d, e, f, g, h]
def KN : List Nat := Sha.K.map (·.toNat)
/-- one block of sixteen words -/
noncomputable def blk (ws : List Nat) : List Nat :=
  go [0x428a2f98, 0x71374491, 0xb5c0fbcf, 0xe9b5dba5, 0x3956c25b, 0x59f111f1, 0x923f82a4, 0xab1c5ed5,
  0xd807aa98, 0x12835b01, 0x243185be, 0x550c7dc3, 0x72be5d74, 0x80deb1fe, 0x9bdc06a7, 0xc19bf174,
  0xe49b69c1, 0xefbe4786, 0x0fc19dc6, 0x240ca1cc, 0x2de92c6f, 0x4a7484aa, 0x5cb0a9dc, 0x76f988da,
  0x983e5152, 0xa831c66d, 0xb00327c8, 0xbf597fc7, 0xc6e00bf3, 0xd5a79147, 0x06ca6351, 0x14292967,
  0x27b70a85, 0x2e1b2138, 0x4d2c6dfc, 0x53380d13, 0x650a7354, 0x766a0abb, 0x81c2c92e, 0x92722c85,
  0xa2bfe8a1, 0xa81a664b, 0xc24b8b70, 0xc76c51a3, 0xd192e819, 0xd6990624, 0xf40e3585, 0x106aa070,
  0x19a4c116, 0x1e376c08, 0x2748774c, 0x34b0bcb5, 0x391c0cb3, 0x4ed8aa4a, 0x5b9cca4f, 0x682e6ff3,
  0x748f82ee, 0x78a5636f, 0x84c87814, 0x8cc70208, 0x90befffa, 0xa4506ceb, 0xbef9a3f7, 0xc67178f2] (ext 48 ws.reverse).reverse 0x6a09e667 0xbb67ae85 0x3c6ef372 0xa54ff53a 0x510e527f 0x9b05688c 0x1f83d9ab 0x5be0cd19
/-- n blocks, each of four words of the one before: a trial of speed -/
noncomputable def many : Nat → List Nat → Nat
  | 0, l => l.getD 0 0
  | n + 1, l => F (l.getD 0 0) fun a => F (l.getD 1 0) fun b => F (l.getD 2 0) fun c => F (l.getD 3 0) fun d => many n (blk [a, b, c, d, n, 2147483648, 0, 0, 0, 0, 0, 0, 0, 0, 0, 144])
theorem trial : (many 20 [1, 2, 3, 4] == 5) = false := by decide +kernel
end Fast
end Go.Proofs.YtafolokkjpbieaaDoor
