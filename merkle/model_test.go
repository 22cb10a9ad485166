package merkle

import (
	"crypto/sha256"
	"encoding/hex"
	"math"
	"math/rand"
	"slices"
	"testing"

	"gatepath/api"
	"gatepath/onetime"
)

// modelShort returns the short digest of the bytes of all parts, by Go's own SHA-256.
func modelShort(parts ...[]byte) api.Short {
	h := sha256.Sum256(slices.Concat(parts...))
	return api.Short(h[:16])
}

// modelSeed returns the seed of a one-time key.
func modelSeed(seed api.Short, k int) api.Short {
	return modelShort(seed[:], []byte{byte(k), 254, 0})
}

// modelNode returns the node of a tree at a level, by those below it.
func modelNode(seed api.Short, level, k int) api.Short {
	if level == 0 {
		return onetime.Public(modelSeed(seed, k))
	}
	left, right := modelNode(seed, level-1, 2*k), modelNode(seed, level-1, 2*k+1)
	return modelShort([]byte{1}, left[:], right[:])
}

// modelTree has the nodes of a tree, as tree[level][k].
func modelTree(seed api.Short, height int) [][]api.Short {
	var tree [][]api.Short
	for level := range height + 1 {
		var nodes []api.Short
		for k := range 1 << (height - level) {
			nodes = append(nodes, modelNode(seed, level, k))
		}
		tree = append(tree, nodes)
	}
	return tree
}

// modelPath returns the path of an index: the nodes that differ from those on its way in the last binary digit.
func modelPath(tree [][]api.Short, index int) []api.Short {
	var list []api.Short
	for level := range len(tree) - 1 {
		n := index / int(math.Pow(2, float64(level)))
		if n%2 == 0 {
			n++
		} else {
			n--
		}
		list = append(list, tree[level][n])
	}
	return list
}

// modelRoot returns what follows from a one-time key and the rest of a path.
func modelRoot(x api.Short, index int, path []api.Short) api.Short {
	if len(path) == 0 {
		return x
	}
	left, right := x, path[0]
	if index%2 == 1 {
		left, right = right, left
	}
	return modelRoot(modelShort([]byte{1}, left[:], right[:]), index/2, path[1:])
}

func someBytes(r *rand.Rand, n int) []byte {
	b := make([]byte, n)
	r.Read(b)
	return b
}

func someShort(r *rand.Rand) api.Short {
	return api.Short(someBytes(r, 16))
}

func someShorts(r *rand.Rand, n int) []api.Short {
	list := make([]api.Short, n)
	for i := range list {
		list[i] = someShort(r)
	}
	return list
}

// same returns a short digest of equal bytes.
func same(b byte) api.Short {
	return api.Short(slices.Repeat([]byte{b}, 16))
}

// counted is the seed of the bytes 0 to 15.
func counted() api.Short {
	var x api.Short
	for i := range x {
		x[i] = byte(i)
	}
	return x
}

// seeds are those of equal bytes, and others.
func seeds() []api.Short {
	r := rand.New(rand.NewSource(1))
	return append([]api.Short{{}, same(255), same(254), counted(), {15: 1}}, someShorts(r, 3)...)
}

func messages() [][]byte {
	r := rand.New(rand.NewSource(2))
	return [][]byte{nil, {0}, []byte("abc"), {255}, someBytes(r, 16), someBytes(r, 33), make([]byte, 64), someBytes(r, 1000), someBytes(r, api.MaxBytes), someBytes(r, api.MaxBytes+1)}
}

// wrongHeights are not from 0 to MaxHeight; some of them are no number by which a shift is possible, or shift a 1 out of all bits.
func wrongHeights() []int {
	return []int{-1, -2, -4, -64, -1 << 32, math.MinInt, math.MinInt + 1, 5, 6, 8, 16, 31, 32, 33, 62, 63, 64, 65, 1000, 1 << 32, 1<<32 + 1, math.MaxInt}
}

// wrongIndices are not from 0 to 2^height - 1; some of them are if only a part of them is looked at.
func wrongIndices(height int) []int {
	return []int{-1, -2, -1 << height, -1 << 32, math.MinInt, 1 << height, 1<<height + 1, 2 << height, 255, 256, 1 << 32, 1<<32 + 1, math.MaxInt}
}

func fromHex(t *testing.T, s string) api.Short {
	t.Helper()
	b, err := hex.DecodeString(s)
	if err != nil || len(b) != 16 {
		t.Fatal(s, err)
	}
	return api.Short(b)
}

// signed returns what Sign returns, which has no error.
func signed(t *testing.T, seed api.Short, height, index int, message []byte) api.KeySig {
	t.Helper()
	sig, e := Sign(seed, height, index, message)
	if e != api.OK {
		t.Fatal(seed, height, index, e)
	}
	return sig
}

// public returns what Key returns, which has no error.
func public(t *testing.T, seed api.Short, height int) api.PublicKey {
	t.Helper()
	key, e := Key(seed, height)
	if e != api.OK {
		t.Fatal(seed, height, e)
	}
	return key
}

// cloned returns a signature that shares no memory with sig.
func cloned(sig api.KeySig) api.KeySig {
	return api.KeySig{Index: sig.Index, Chains: slices.Clone(sig.Chains), Path: slices.Clone(sig.Path)}
}

func equal(a, b api.KeySig) bool {
	return a.Index == b.Index && slices.Equal(a.Chains, b.Chains) && slices.Equal(a.Path, b.Path)
}

func isZero(sig api.KeySig) bool {
	return equal(sig, api.KeySig{})
}
