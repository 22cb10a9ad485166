package onetime

import (
	"crypto/sha256"
	"math/rand"
	"slices"
	"strconv"
	"strings"
	"testing"

	"gatepath/api"
)

// modelShort returns the short digest of the bytes of all parts, by Go's own SHA-256.
func modelShort(parts ...[]byte) api.Short {
	h := sha256.Sum256(slices.Concat(parts...))
	return api.Short(h[:16])
}

// modelDigits returns the digits that belong to a short digest, by strings of digits.
func modelDigits(x api.Short) []int {
	text := ""
	for _, b := range x {
		text += padded(int64(b), 2)
	}
	c := int64(0)
	for _, d := range fromDigits(text) {
		c += int64(15 - d)
	}
	return fromDigits(text + padded(c, 3))
}

// padded returns n in the base sixteen, with zeros in front of it up to a width.
func padded(n int64, width int) string {
	s := strconv.FormatInt(n, 16)
	return strings.Repeat("0", width-len(s)) + s
}

func fromDigits(text string) []int {
	var list []int
	for _, c := range text {
		list = append(list, strings.IndexRune("0123456789abcdef", c))
	}
	return list
}

// messages are of all small lengths, and of some greater ones, up to more than are signed elsewhere.
func messages() [][]byte {
	r := rand.New(rand.NewSource(1))
	list := [][]byte{nil, {}, []byte("a"), []byte("abc"), []byte("abc\x00"), {0}, {255}}
	for n := range 150 {
		list = append(list, someBytes(r, n), make([]byte, n))
	}
	for _, n := range []int{1000, api.MaxBytes - 1, api.MaxBytes, api.MaxBytes + 1, 3 * api.MaxBytes} {
		list = append(list, someBytes(r, n))
	}
	return list
}

func someBytes(r *rand.Rand, n int) []byte {
	b := make([]byte, n)
	r.Read(b)
	return b
}

func someShort(r *rand.Rand) api.Short {
	return api.Short(someBytes(r, 16))
}

// same returns a short digest of equal bytes.
func same(b byte) api.Short {
	var x api.Short
	for i := range x {
		x[i] = b
	}
	return x
}

// shorts are short digests: those with equal bytes, those with one digit that differs from 0 or from 15, and others.
func shorts() []api.Short {
	var list []api.Short
	for b := range 256 {
		list = append(list, same(byte(b)))
	}
	for i := range 16 {
		for d := range byte(16) {
			for _, b := range []byte{0, 255} {
				x, y := same(b), same(b)
				x[i], y[i] = b&15|d<<4, b&240|d
				list = append(list, x, y)
			}
		}
	}
	r := rand.New(rand.NewSource(2))
	for range 1000 {
		list = append(list, someShort(r))
	}
	return list
}

// P6.1, of digits

func TestKnownDigits(t *testing.T) {
	for _, c := range []struct {
		message string
		want    []int
	}{
		{"", []int{14, 3, 11, 0, 12, 4, 4, 2, 9, 8, 15, 12, 1, 12, 1, 4, 9, 10, 15, 11, 15, 4, 12, 8, 9, 9, 6, 15, 11, 9, 2, 4, 0, 13, 11}},
		{"abc", []int{11, 10, 7, 8, 1, 6, 11, 15, 8, 15, 0, 1, 12, 15, 14, 10, 4, 1, 4, 1, 4, 0, 13, 14, 5, 13, 10, 14, 2, 2, 2, 3, 0, 15, 4}},
		{"a longer message that is signed", []int{2, 13, 8, 11, 13, 8, 1, 1, 13, 3, 2, 9, 4, 5, 13, 10, 15, 9, 4, 12, 6, 14, 11, 9, 5, 0, 2, 15, 10, 3, 5, 12, 0, 14, 8}},
	} {
		if d := Digits([]byte(c.message)); !slices.Equal(d, c.want) {
			t.Errorf("%q: %v", c.message, d)
		}
	}
}

func TestDigitsOfNothing(t *testing.T) {
	want := modelDigits(modelShort())
	if d := Digits(nil); !slices.Equal(d, want) {
		t.Error(d)
	}
	if d := Digits([]byte{}); !slices.Equal(d, want) {
		t.Error(d)
	}
}

func TestDigits(t *testing.T) {
	for _, m := range messages() {
		d := Digits(m)
		if !slices.Equal(d, modelDigits(modelShort(m))) {
			t.Fatal(len(m), d)
		}
	}
}

func TestDigitsOf(t *testing.T) {
	for _, x := range shorts() {
		d := digitsOf(x)
		if len(d) != api.OneChains || slices.Min(d) < 0 || slices.Max(d) > api.OneSteps {
			t.Fatal(x, d)
		}
		if !slices.Equal(d, modelDigits(x)) {
			t.Fatal(x, d)
		}
	}
}

func TestDigitsOfEdges(t *testing.T) {
	last := func(x api.Short) []int { return digitsOf(x)[32:] }
	first := func(d int) []int { return slices.Repeat([]int{d}, 32) }
	if d := digitsOf(same(0)); !slices.Equal(d, append(first(0), 1, 14, 0)) {
		t.Error(d)
	}
	if d := digitsOf(same(255)); !slices.Equal(d, append(first(15), 0, 0, 0)) {
		t.Error(d)
	}
	x := same(0)
	x[0] = 0x10
	if d := digitsOf(x); d[0] != 1 || d[1] != 0 || !slices.Equal(d[32:], []int{1, 13, 15}) {
		t.Error(d)
	}
	for _, c := range []struct {
		one  byte // the first byte, before others 0 or 255
		rest api.Short
		want []int
	}{
		{0xfe, same(255), []int{0, 0, 1}},
		{0x0f, same(255), []int{0, 0, 15}},
		{0x0e, same(255), []int{0, 1, 0}},
		{0x77, same(0x77), []int{1, 0, 0}}, // 32 times 8
		{0x87, same(0x77), []int{0, 15, 15}},
	} {
		c.rest[0] = c.one
		if d := last(c.rest); !slices.Equal(d, c.want) {
			t.Error(c, d)
		}
	}
}

// P6.3, of digits

// lessSomewhere reports whether one of the digits a is less than that of b at the same position.
func lessSomewhere(a, b []int) bool {
	for i := range a {
		if a[i] < b[i] {
			return true
		}
	}
	return false
}

func TestEachHasLessSomewhere(t *testing.T) {
	check := func(x, y api.Short) {
		if x == y {
			return
		}
		a, b := digitsOf(x), digitsOf(y)
		if !lessSomewhere(a, b) || !lessSomewhere(b, a) {
			t.Fatal(x, y, a, b)
		}
	}
	list := shorts()
	for _, x := range list[:300] {
		for _, y := range list {
			check(x, y)
		}
	}
	for _, x := range list {
		for bit := range 128 {
			y := x
			y[bit/8] ^= 1 << (bit % 8)
			check(x, y)
		}
	}
}

func TestMessagesHaveLessSomewhere(t *testing.T) {
	list := messages()
	for i, m := range list {
		for _, n := range list[:i] {
			if modelShort(m) == modelShort(n) {
				continue
			}
			a, b := Digits(m), Digits(n)
			if !lessSomewhere(a, b) || !lessSomewhere(b, a) {
				t.Fatal(m, n, a, b)
			}
		}
	}
}

// Arguments are only read, and results share no memory (R2).

func TestDigitsShareNothing(t *testing.T) {
	memory := someBytes(rand.New(rand.NewSource(3)), 300)
	before := slices.Clone(memory)
	for n := range 200 {
		want := modelDigits(modelShort(memory[:n]))
		d := Digits(memory[:n])
		clear(d[:cap(d)])
		if d = Digits(memory[:n]); !slices.Equal(d, want) {
			t.Error(n, d)
		}
	}
	if !slices.Equal(memory, before) {
		t.Error("changed")
	}
}
