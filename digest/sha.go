package digest

import (
	"iter"
	"math/bits"

	"gatepath/api"
)

const (
	blockBytes = 64
	wordBytes  = 4
	// sizeBytes are those of the number of bits that ends the last block.
	sizeBytes = 8
	rounds    = 64
)

// block is so many bytes as are put into the registers at once.
type block [blockBytes]byte

// registers are the registers a to h.
type registers [8]uint32

// beginning is what is in the registers at first.
var beginning = registers{0x6a09e667, 0xbb67ae85, 0x3c6ef372, 0xa54ff53a, 0x510e527f, 0x9b05688c, 0x1f83d9ab, 0x5be0cd19}

// constants are the document's K.
var constants = [rounds]uint32{
	0x428a2f98, 0x71374491, 0xb5c0fbcf, 0xe9b5dba5, 0x3956c25b, 0x59f111f1, 0x923f82a4, 0xab1c5ed5,
	0xd807aa98, 0x12835b01, 0x243185be, 0x550c7dc3, 0x72be5d74, 0x80deb1fe, 0x9bdc06a7, 0xc19bf174,
	0xe49b69c1, 0xefbe4786, 0x0fc19dc6, 0x240ca1cc, 0x2de92c6f, 0x4a7484aa, 0x5cb0a9dc, 0x76f988da,
	0x983e5152, 0xa831c66d, 0xb00327c8, 0xbf597fc7, 0xc6e00bf3, 0xd5a79147, 0x06ca6351, 0x14292967,
	0x27b70a85, 0x2e1b2138, 0x4d2c6dfc, 0x53380d13, 0x650a7354, 0x766a0abb, 0x81c2c92e, 0x92722c85,
	0xa2bfe8a1, 0xa81a664b, 0xc24b8b70, 0xc76c51a3, 0xd192e819, 0xd6990624, 0xf40e3585, 0x106aa070,
	0x19a4c116, 0x1e376c08, 0x2748774c, 0x34b0bcb5, 0x391c0cb3, 0x4ed8aa4a, 0x5b9cca4f, 0x682e6ff3,
	0x748f82ee, 0x78a5636f, 0x84c87814, 0x8cc70208, 0x90befffa, 0xa4506ceb, 0xbef9a3f7, 0xc67178f2,
}

// blocks tells the blocks of all parts, one part after the other, with the ending that makes them whole.
func blocks(parts ...[]byte) iter.Seq[block] {
	return func(yield func(block) bool) {
		var b block
		used := 0
		// fill reports whether there is a wish for more.
		fill := func(bytes []byte) bool {
			for len(bytes) > 0 {
				n := copy(b[used:], bytes)
				bytes = bytes[n:]
				used = (used + n) % blockBytes
				if used == 0 && !yield(b) {
					return false
				}
			}
			return true
		}
		size := uint64(0)
		for _, part := range parts {
			size += uint64(len(part))
			if !fill(part) {
				return
			}
		}
		fill(ending(size))
	}
}

// ending returns what is added to so many bytes: 128, as few zeros as possible, and the number of bits.
func ending(size uint64) []byte {
	zeros := (2*blockBytes - 1 - sizeBytes - size%blockBytes) % blockBytes
	out := make([]byte, 1+zeros, blockBytes+1+sizeBytes)
	out[0] = 128
	for shift := 8 * (sizeBytes - 1); shift >= 0; shift -= 8 {
		out = append(out, byte(8*size>>shift))
	}
	return out
}

// after returns what is in the registers after a block.
func (r registers) after(x block) registers {
	w := schedule(x)
	a, b, c, d, e, f, g, h := r[0], r[1], r[2], r[3], r[4], r[5], r[6], r[7]
	for i := range rounds {
		t := h + turns(e, 6, 11, 25) + (e&f ^ ^e&g) + constants[i] + w[i]
		u := turns(a, 2, 13, 22) + (a&b ^ a&c ^ b&c)
		h, g, f, e, d, c, b, a = g, f, e, d+t, c, b, a, t+u
	}
	for i, v := range (registers{a, b, c, d, e, f, g, h}) {
		r[i] += v
	}
	return r
}

// schedule returns the document's W of a block.
func schedule(x block) [rounds]uint32 {
	var w [rounds]uint32
	for i, c := range x {
		w[i/wordBytes] = w[i/wordBytes]<<8 | uint32(c)
	}
	for i := blockBytes / wordBytes; i < rounds; i++ {
		s1 := right(w[i-2], 17) ^ right(w[i-2], 19) ^ w[i-2]>>10
		s0 := right(w[i-15], 7) ^ right(w[i-15], 18) ^ w[i-15]>>3
		w[i] = s1 + w[i-7] + s0 + w[i-16]
	}
	return w
}

// turns returns the exclusive or of three rotations to the right.
func turns(x uint32, i, j, k int) uint32 {
	return right(x, i) ^ right(x, j) ^ right(x, k)
}

func right(x uint32, n int) uint32 {
	return bits.RotateLeft32(x, -n)
}

// hash returns the bytes of the registers.
func (r registers) hash() api.Hash {
	var h api.Hash
	for i := range h {
		shift := 8 * (wordBytes - 1 - i%wordBytes)
		h[i] = byte(r[i/wordBytes] >> shift)
	}
	return h
}
