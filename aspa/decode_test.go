package aspa

import (
	"math"
	"slices"
	"strings"
	"testing"

	"gatepath/api"
)

// P15.2 and P15.4: what Decode refuses; accepted holds the rest of what it returns against the model.

// TestDecodeWrong decodes what would be the encodings of attestations that are not valid, and bytes that are no encodings.
func TestDecodeWrong(t *testing.T) {
	for i, a := range wrongAuths() {
		if accepted(t, modelEncode(a)) {
			t.Fatal(i, brief(a))
		}
	}
	for _, b := range [][]byte{nil, {}, {0}, {128}, {128, 0}, {128, 2, 1, 0}, {128, 3, 1, 1, 5}, {128, 4, 1, 0, 2, 0}, {128, 5, 1, 0, 2, 1, 7}, {1, 0}, {2, 0}, make([]byte, 65536), make([]byte, 65537), make([]byte, 1<<20)} {
		if accepted(t, b) {
			t.Error(len(b))
		}
	}
	if !accepted(t, []byte{128, 5, 1, 1, 5, 2, 0}) {
		t.Error("refused")
	}
}

// TestDecodeSmall decodes all strings of up to seven bytes from a small alphabet, behind the tag of the list.
func TestDecodeSmall(t *testing.T) {
	alphabet := []byte{0, 1, 2, 3, 5, 6, 129}
	found := 0
	var try func(b []byte)
	try = func(b []byte) {
		if accepted(t, b) {
			found++
		}
		if len(b) < 8 {
			for _, x := range alphabet {
				try(append(slices.Clone(b), x))
			}
		}
	}
	try([]byte{128})
	// A customer of one byte without providers, one with a provider of one byte, and a customer of two bytes without providers.
	if found != 6+6*5+6*7 {
		t.Error(found)
	}
}

func TestDecodeCut(t *testing.T) {
	for _, a := range []api.ProviderAuth{example(), varied(), full(), auth(9, 0)} {
		b := encoded(t, a)
		for n := range b {
			if accepted(t, b[:n]) || accepted(t, b[n+1:]) {
				t.Fatal(n)
			}
		}
		for _, tail := range [][]byte{{0}, {1, 0}, {2, 0}, {2, 1, 1}, b} {
			if accepted(t, slices.Concat(b, tail)) {
				t.Fatal(tail)
			}
		}
	}
}

// TestDecodeOtherTags has one tag after the other changed to each other one.
func TestDecodeOtherTags(t *testing.T) {
	right := modelParts(varied())
	for tag := range 256 {
		if accepted(t, []byte(modelValue(byte(tag), right...))) != (tag == 128) {
			t.Error(tag)
		}
		for i, s := range right {
			parts := slices.Clone(right)
			parts[i] = string([]byte{byte(tag)}) + s[1:]
			if accepted(t, []byte(modelValue(128, parts...))) != (byte(tag) == s[0]) {
				t.Error(tag, i)
			}
		}
	}
}

// TestDecodeOtherValues has values left out, written twice, in another order, or replaced.
func TestDecodeOtherValues(t *testing.T) {
	right := modelParts(varied())
	decodes := func(parts []string) bool { return accepted(t, []byte(modelValue(128, parts...))) }
	if !decodes(right) {
		t.Fatal("refused")
	}
	for i, s := range right {
		without := slices.Delete(slices.Clone(right), i, i+1)
		if decodes(without) != (i > 0) {
			t.Error(i, "without")
		}
		for j := range right {
			if decodes(slices.Insert(slices.Clone(without), j, s)) != (i == j) {
				t.Error(i, j, "moved")
			}
		}
		for _, other := range []string{s, right[0], modelValue(1), modelValue(2), modelValue(3), modelValue(3, "a"), modelValue(129), modelValue(128, s), modelValue(130, s)} {
			for j := range len(right) + 1 {
				if decodes(slices.Insert(slices.Clone(right), j, other)) {
					t.Error(i, j, other)
				}
			}
		}
		for _, other := range []string{modelValue(3), modelValue(129), modelValue(128, s), modelValue(s[0]+128, s), modelValue(s[0]), s + s} {
			if decodes(slices.Insert(slices.Clone(without), i, other)) {
				t.Error(i, other)
			}
		}
	}
	rest := strings.Join(right[1:], "")
	for i, other := range [][]string{nil, right[:1], {rest}, {rest, right[0]}, {right[0], modelValue(129, rest)}, {modelValue(129, right[0]), rest}, {modelValue(128, right...)}, {right[0], right[0], rest}} {
		if decodes(other) {
			t.Error(i, other)
		}
	}
}

func TestDecodeCounts(t *testing.T) {
	for _, n := range []int{0, 1, 2, 48, 49, 50, 51, 52, 100, 255, 256, 257, 306, 1000, 5000} {
		for _, first := range []uint32{2, 1000, 1 << 31} {
			if accepted(t, modelEncode(auth(1, row(first, n)...))) != (1 <= n && n <= 50) {
				t.Error(n, first)
			}
		}
	}
}

// TestDecodeNumbers writes other bytes where a number is. The numbers that are lost if a type is too narrow for them are among these.
func TestDecodeNumbers(t *testing.T) {
	all := func(x uint64) bool { return 0 < x && x <= math.MaxUint32 }
	for i, k := range []struct {
		of   api.ProviderAuth
		at   int
		good func(x uint64) bool
	}{
		{auth(5, 0), 0, all},
		{auth(5, 300), 0, func(x uint64) bool { return all(x) && x != 300 }},
		{auth(5, 300), 1, func(x uint64) bool { return x <= math.MaxUint32 && x != 5 }},
		{auth(5, 1<<31, 1<<32-1), 1, func(x uint64) bool { return all(x) && x != 5 && x < math.MaxUint32 }},
		{auth(5, 6, 70000, 1<<24), 2, func(x uint64) bool { return 6 < x && x < 1<<24 }},
		{auth(300, 5, 256), 2, func(x uint64) bool { return all(x) && 5 < x && x != 300 }},
		{auth(1<<31, 5, 6), 0, func(x uint64) bool { return all(x) && x != 5 && x != 6 }},
	} {
		parts := modelParts(k.of)
		tag := parts[k.at][0]
		right := parts[k.at][2:]
		write := func(b string) bool {
			parts[k.at] = modelValue(tag, b)
			return accepted(t, []byte(modelValue(128, parts...)))
		}
		for _, base := range []uint64{0, 1 << 8, 1 << 16, 69900, 1<<24 - 128, 1<<31 - 128, math.MaxUint32 - 255, 1 << 32, 1<<32 + 1<<8, 1 << 33, 1 << 40, 1 << 63, math.MaxUint64 - 1<<32 + 1, math.MaxUint64 - 255} {
			for x := range uint64(256) {
				if write(modelBytes(base+x)) != k.good(base+x) {
					t.Error(i, base+x)
				}
			}
		}
		for _, b := range []string{"\x00", "\x00\x00", "\x00\x01", "\x00" + right, strings.Repeat("\x00", 8), "\x01" + strings.Repeat("\x00", 8), strings.Repeat("\xff", 9), strings.Repeat("\x00", 8) + "\x01"} {
			if write(b) {
				t.Error(i, b)
			}
		}
	}
}

// TestDecodeSpoilt changes bytes of encodings: nothing else is accepted than the encoding of what is read.
func TestDecodeSpoilt(t *testing.T) {
	good, all := 0, 0
	for _, a := range []api.ProviderAuth{example(), varied(), full(), auth(9, 0)} {
		b := encoded(t, a)
		for i := range b {
			for x := range 256 {
				spoilt := slices.Clone(b)
				spoilt[i] = byte(x)
				if accepted(t, spoilt) {
					good++
				}
				all++
			}
			for _, x := range []byte{0, 1, 2, 127, 128, 255, b[i]} {
				accepted(t, slices.Insert(slices.Clone(b), i, x))
			}
			accepted(t, slices.Delete(slices.Clone(b), i, i+1))
		}
	}
	if good == 0 || good == all {
		t.Error(good, all)
	}
}

func FuzzDecode(f *testing.F) {
	for _, a := range []api.ProviderAuth{{}, example(), varied(), full(), auth(9, 0)} {
		f.Add(modelEncode(a))
	}
	f.Add([]byte{})
	f.Fuzz(func(t *testing.T, b []byte) { accepted(t, b) })
}
