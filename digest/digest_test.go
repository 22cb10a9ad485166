package digest

import (
	"bytes"
	"crypto/sha256"
	"math/rand"
	"slices"
	"strings"
	"testing"

	"gatepath/api"
)

// someBytes returns n bytes, of which zeros, 255 and 128 are more frequent than others.
func someBytes(r *rand.Rand, n int) []byte {
	b := make([]byte, n)
	for i := range b {
		b[i] = [...]byte{0, 255, 128, byte(r.Intn(256)), byte(r.Intn(256)), byte(r.Intn(256))}[r.Intn(6)]
	}
	return b
}

// divide returns a copy of b in parts of at most so many bytes, some of them empty.
func divide(r *rand.Rand, b []byte, most int) [][]byte {
	var parts [][]byte
	for len(b) > 0 {
		n := min(r.Intn(most+1), len(b))
		parts = append(parts, slices.Clone(b[:n]))
		b = b[n:]
	}
	return parts
}

// lengths are all small ones, and those around multiples of 64 and around limits.
func lengths() []int {
	var list []int
	for n := range 400 {
		list = append(list, n)
	}
	for _, n := range []int{1 << 10, 1 << 13, api.MaxBytes, 2 * api.MaxBytes} {
		for _, d := range []int{-64, -10, -9, -8, -1, 0, 1, 8, 55, 56, 63, 64} {
			list = append(list, n+d)
		}
	}
	return list
}

// P5.1

// knownDigests are digests of texts, as they were published with SHA-256.
func knownDigests() map[string]string {
	return map[string]string{
		"":    "e3b0c44298fc1c149afbf4c8996fb92427ae41e4649b934ca495991b7852b855",
		"abc": "ba7816bf8f01cfea414140de5dae2223b00361a396177a9cb410ff61f20015ad",
		"abcdbcdecdefdefgefghfghighijhijkijkljklmklmnlmnomnopnopq":                                                         "248d6a61d20638b8e5c026930c3e6039a33ce45964ff2167f6ecedd419db06c1",
		"abcdefghbcdefghicdefghijdefghijkefghijklfghijklmghijklmnhijklmnoijklmnopjklmnopqklmnopqrlmnopqrsmnopqrstnopqrstu": "cf5b16a778af8380036ce59e7b0492370b249b11e8f07a51afac45037afee9d1",
		strings.Repeat("a", 1_000_000): "cdc76e5c9914fb9281a1c7e284d73e67f1809a48a497200e046d39ccc7112cd0",
	}
}

func TestKnownDigests(t *testing.T) {
	for text, want := range knownDigests() {
		b := []byte(text)
		h := Sum(b)
		if Hex(h[:]) != want {
			t.Error(len(b), Hex(h[:]))
		}
		if j := Join(b); j != h {
			t.Error(len(b), j)
		}
		s := Short(b)
		if Hex(s[:]) != want[:32] {
			t.Error(len(b), Hex(s[:]))
		}
	}
}

func TestSumOfAllLengths(t *testing.T) {
	r := rand.New(rand.NewSource(1))
	for _, n := range lengths() {
		for _, b := range [][]byte{someBytes(r, n), make([]byte, n), bytes.Repeat([]byte{255}, n), bytes.Repeat([]byte{128}, n)} {
			want := sha256.Sum256(b)
			if h := Sum(b); h != api.Hash(want) {
				t.Fatal(n, h)
			}
			if s := Short(b); s != api.Short(want[:16]) {
				t.Fatal(n, s)
			}
		}
	}
}

func TestSumOfNothing(t *testing.T) {
	want := api.Hash(sha256.Sum256(nil))
	if Sum(nil) != want || Sum([]byte{}) != want {
		t.Error(Sum(nil), Sum([]byte{}))
	}
	for _, parts := range [][][]byte{nil, {}, {nil}, {{}}, {nil, {}, nil}} {
		if h := Join(parts...); h != want {
			t.Error(parts, h)
		}
	}
	if s := Short(nil); s != api.Short(want[:16]) || Short([]byte{}) != s {
		t.Error(s)
	}
}

func TestJoinKeepsTheOrder(t *testing.T) {
	for _, c := range []struct {
		parts [][]byte
		text  string
	}{
		{[][]byte{[]byte("a"), []byte("b"), []byte("c")}, "abc"},
		{[][]byte{[]byte("ab"), []byte("c")}, "abc"},
		{[][]byte{nil, []byte("abc"), {}}, "abc"},
		{[][]byte{[]byte("b"), []byte("a")}, "ba"},
		{[][]byte{[]byte("ab"), []byte("ab")}, "abab"},
	} {
		if h := Join(c.parts...); h != api.Hash(sha256.Sum256([]byte(c.text))) {
			t.Error(c.text, h)
		}
	}
}

func TestJoinOfOneMemory(t *testing.T) {
	b := []byte(strings.Repeat("0123456789", 20))
	want := sha256.Sum256(slices.Concat(b, b[:70], b[30:], b))
	if h := Join(b, b[:70], b[30:], b); h != api.Hash(want) {
		t.Error(h)
	}
}

func TestJoinOfMany(t *testing.T) {
	parts := make([][]byte, 100_000)
	whole := sha256.New()
	for i := range parts {
		parts[i] = bytes.Repeat([]byte{byte(i)}, i%5)
		whole.Write(parts[i])
	}
	if h := Join(parts...); !slices.Equal(h[:], whole.Sum(nil)) {
		t.Error(h)
	}
}

// modelEnding returns what is added to so many bytes, by trying whether it is enough.
func modelEnding(size uint64) []byte {
	out := []byte{128}
	for (size%64+uint64(len(out))+8)%64 != 0 {
		out = append(out, 0)
	}
	for i := range 8 {
		out = append(out, byte(8*size>>(56-8*i)))
	}
	return out
}

func TestEnding(t *testing.T) {
	for _, size := range []uint64{0, 64, 1 << 16, 1<<29 - 64, 1 << 29, 1 << 31, 1 << 32, 1 << 40, 1<<61 - 64} { // also numbers of bits that need more than 32
		for n := range uint64(64) {
			if out := ending(size + n); !slices.Equal(out, modelEnding(size+n)) {
				t.Error(size+n, out)
			}
		}
	}
	want := slices.Concat([]byte{128}, make([]byte, 23), []byte{1, 2, 3, 4, 5, 6, 7, 0})
	if out := ending(0x0102030405060700 / 8); !slices.Equal(out, want) {
		t.Error(out)
	}
}

func TestBlocksCanBeLeft(t *testing.T) {
	b := someBytes(rand.New(rand.NewSource(2)), 300)
	for wish := 1; wish <= 5; wish++ {
		var told []byte
		n := 0
		for x := range blocks(b[:100], b[100:]) {
			told = append(told, x[:]...)
			n++
			if n == wish {
				break
			}
		}
		whole := slices.Concat(b, modelEnding(300))
		if n != wish || len(whole) != 320 || !slices.Equal(told, whole[:64*wish]) {
			t.Error(wish, n, told)
		}
	}
}

// P5.3, of digests

func TestJoinOfEveryTwoAndThree(t *testing.T) {
	b := someBytes(rand.New(rand.NewSource(3)), 200)
	whole := Sum(b)
	for i := range len(b) + 1 {
		if h := Join(b[:i], b[i:]); h != whole {
			t.Fatal(i, h)
		}
		for j := i; j <= len(b); j++ {
			if h := Join(b[:i], b[i:j], b[j:]); h != whole {
				t.Fatal(i, j, h)
			}
		}
	}
}

func TestJoinOfAllParts(t *testing.T) {
	r := rand.New(rand.NewSource(4))
	for range 3000 {
		b := someBytes(r, r.Intn(1000))
		parts := divide(r, b, 1+r.Intn(200))
		if h := Join(parts...); h != Sum(b) || h != api.Hash(sha256.Sum256(b)) {
			t.Fatal(b, parts, h)
		}
	}
}

// Arguments are only read, with the memory behind them, and nothing is kept from call to call (R2).

func TestDigestsOnlyRead(t *testing.T) {
	r := rand.New(rand.NewSource(5))
	memory := someBytes(r, 1000)
	before := slices.Clone(memory)
	parts := [][]byte{memory[:10], memory[100:300], memory[:0], memory[5:70], nil, memory[500:]}
	kept := slices.Clone(parts)
	h := Join(parts[:3]...)
	for n := range 200 {
		Sum(memory[:n])
		Short(memory[:n])
		Join(memory[:n], memory[n:2*n])
	}
	if Join(parts[:3]...) != h || !slices.Equal(memory, before) {
		t.Error("changed")
	}
	for i, part := range parts {
		if len(part) != len(kept[i]) || len(part) > 0 && &part[0] != &kept[i][0] {
			t.Error("changed part", i)
		}
	}
}

// The chapter's examples.

func TestExamples(t *testing.T) {
	h := Sum(nil)
	if !strings.HasPrefix(Hex(h[:]), "e3b0c44298fc1c14") {
		t.Error(h)
	}
	h = Sum([]byte("abc"))
	if !strings.HasPrefix(Hex(h[:]), "ba7816bf8f01cfea") {
		t.Error(h)
	}
	b := []byte{0, 255, 16}
	if Hex(b) != "00ff10" || Base64(b) != "AP8Q" {
		t.Error(Hex(b), Base64(b))
	}
}
