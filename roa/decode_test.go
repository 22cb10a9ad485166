package roa

import (
	"math"
	"slices"
	"strings"
	"testing"

	"gatepath/api"
)

// P14.2 and P14.5: what Decode refuses; accepted holds the rest of what it returns against the model.

// TestDecodeWrong decodes what would be the encodings of authorisations that are not valid, and bytes that are no encodings.
func TestDecodeWrong(t *testing.T) {
	for i, a := range wrongAuths() {
		if accepted(t, modelEncode(a)) {
			t.Fatal(i, brief(a))
		}
	}
	for _, b := range [][]byte{nil, {}, {0}, {128}, {128, 0}, {128, 2, 1, 0}, {128, 2, 129, 0}, {128, 4, 1, 0, 129, 0}, {1, 0}, make([]byte, 65536), make([]byte, 65537), make([]byte, 1<<20)} {
		if accepted(t, b) {
			t.Error(len(b))
		}
	}
	if !accepted(t, []byte{128, 15, 1, 0, 129, 11, 1, 1, 4, 2, 0, 3, 0, 4, 0, 5, 0}) {
		t.Error("refused")
	}
}

func TestDecodeCut(t *testing.T) {
	for _, a := range []api.RouteAuth{example(), varied()} {
		b := encoded(t, a)
		for n := range b {
			if accepted(t, b[:n]) || accepted(t, b[n+1:]) {
				t.Fatal(n)
			}
		}
		for _, tail := range [][]byte{{0}, {1, 0}, b} {
			if accepted(t, slices.Concat(b, tail)) {
				t.Fatal(tail)
			}
		}
	}
}

// parts are what the encoding of an authorisation is put together from: the tags of its lists, and the encodings of the values in them.
type parts struct {
	whole    byte
	system   string
	elements []elementPart
}

type elementPart struct {
	tag    byte
	fields []string
}

func partsOf(a api.RouteAuth) parts {
	p := parts{whole: 128, system: modelValue(1, modelBytes(uint64(a.As)))}
	for _, x := range a.Prefixes {
		p.elements = append(p.elements, elementPart{129, modelFields(x)})
	}
	return p
}

// list returns the encodings of the values in the list.
func (p parts) list() []string {
	list := []string{p.system}
	for _, x := range p.elements {
		list = append(list, modelValue(x.tag, x.fields...))
	}
	return list
}

// bytes puts the parts together.
func (p parts) bytes() []byte {
	return []byte(modelValue(p.whole, p.list()...))
}

// TestDecodeOtherTags has one tag after the other changed to each other one.
func TestDecodeOtherTags(t *testing.T) {
	p := partsOf(varied())
	if !accepted(t, p.bytes()) {
		t.Fatal("refused")
	}
	for tag := range 256 {
		tags, values := []*byte{&p.whole}, []*string{&p.system}
		for i := range p.elements {
			tags = append(tags, &p.elements[i].tag)
			for j := range p.elements[i].fields {
				values = append(values, &p.elements[i].fields[j])
			}
		}
		for i, at := range tags {
			right := *at
			if *at = byte(tag); accepted(t, p.bytes()) != (*at == right) {
				t.Fatal(i, tag)
			}
			*at = right
		}
		for i, at := range values {
			right := *at
			if *at = string([]byte{byte(tag)}) + right[1:]; accepted(t, p.bytes()) != (*at == right) {
				t.Fatal(i, tag)
			}
			*at = right
		}
	}
}

// TestDecodeOtherFields has the numbers of an element left out, written twice, in another order, or replaced.
func TestDecodeOtherFields(t *testing.T) {
	for _, k := range []int{0, 5, 13, 21} {
		p := partsOf(varied())
		right := p.elements[k].fields
		refuse := func(fields []string, what ...any) {
			t.Helper()
			if p.elements[k].fields = fields; accepted(t, p.bytes()) {
				t.Error(k, what)
			}
		}
		for i, s := range right {
			without := slices.Delete(slices.Clone(right), i, i+1)
			refuse(without, i)
			for j := range right {
				if j != i {
					refuse(slices.Insert(slices.Clone(without), j, s), i, j, "moved")
				}
			}
			for _, other := range []string{s, modelValue(1), modelValue(6), modelValue(7, "a"), modelValue(129), modelValue(128, s)} {
				for j := range len(right) + 1 {
					refuse(slices.Insert(slices.Clone(right), j, other), i, j, other)
				}
			}
			for _, other := range []string{modelValue(7), modelValue(129), modelValue(128, s), modelValue(s[0]+128, s), s + s} {
				refuse(slices.Insert(slices.Clone(without), i, other), i, other)
			}
		}
		refuse(nil)
		refuse([]string{strings.Join(right, "") + right[4]})
		refuse([]string{modelValue(129, right...)})
		if p.elements[k].fields = right; !accepted(t, p.bytes()) {
			t.Error(k)
		}
	}
}

// TestDecodeOtherElements has elements left out, written twice, and in another order, and other values among them.
func TestDecodeOtherElements(t *testing.T) {
	all := varied()
	list := partsOf(all).list()
	for i, x := range all.Prefixes {
		without := slices.Delete(slices.Clone(all.Prefixes), i, i+1)
		if !accepted(t, modelEncode(api.RouteAuth{As: all.As, Prefixes: without})) {
			t.Error(i, "without")
		}
		for j := range all.Prefixes {
			if accepted(t, modelEncode(api.RouteAuth{As: all.As, Prefixes: slices.Insert(slices.Clone(without), j, x)})) != (i == j) {
				t.Error(i, j, "moved")
			}
			if accepted(t, modelEncode(api.RouteAuth{As: all.As, Prefixes: slices.Insert(slices.Clone(all.Prefixes), j, x)})) {
				t.Error(i, j, "twice")
			}
		}
		for _, other := range []string{list[0], modelValue(1, "x"), modelValue(2), modelValue(129), modelValue(128), modelValue(129, list[i+1]), string(modelEncode(all))} {
			for _, at := range []int{0, 1 + i} {
				if accepted(t, []byte(modelValue(128, slices.Insert(slices.Clone(list), at, other)...))) {
					t.Error(i, at, other)
				}
			}
		}
	}
	elements := strings.Join(list[1:], "")
	for i, other := range [][]string{{elements}, {elements, list[0]}, {list[0], modelValue(129, elements)}, {modelValue(129, list[0]), elements}, {list[0]}, {list[0], list[0], elements}} {
		if accepted(t, []byte(modelValue(128, other...))) {
			t.Error(i, other)
		}
	}
}

func TestDecodeCounts(t *testing.T) {
	for _, n := range []int{0, 1, 2, 98, 99, 100, 101, 102, 128, 200, 600} {
		if accepted(t, modelEncode(api.RouteAuth{Prefixes: long(n)})) != (1 <= n && n <= 100) {
			t.Error(n)
		}
	}
}

// TestDecodeNumbers writes other bytes where a number is. The numbers that are lost if a type is too narrow for them are among these.
func TestDecodeNumbers(t *testing.T) {
	one := partsOf(api.RouteAuth{As: 5, Prefixes: []api.AuthPrefix{upTo("2001:db8::/32", 48)}})
	old := partsOf(example())
	for i, k := range []struct {
		p    *parts
		at   *string
		good func(x uint64) bool
	}{
		{&one, &one.system, func(x uint64) bool { return x <= math.MaxUint32 }},
		{&one, &one.elements[0].fields[0], func(x uint64) bool { return x == 6 }},
		{&one, &one.elements[0].fields[1], func(x uint64) bool { return x<<32 == 0 }},
		{&one, &one.elements[0].fields[2], func(x uint64) bool { return x == 0 }},
		{&one, &one.elements[0].fields[3], func(x uint64) bool { return 29 <= x && x <= 48 }},
		{&one, &one.elements[0].fields[4], func(x uint64) bool { return 32 <= x && x <= 128 }},
		{&old, &old.system, func(x uint64) bool { return x <= math.MaxUint32 }},
		{&old, &old.elements[0].fields[0], func(x uint64) bool { return x == 4 }},
		{&old, &old.elements[0].fields[1], func(x uint64) bool { return x == 0 }},
		{&old, &old.elements[0].fields[2], func(x uint64) bool { return x < 1<<32 && x<<40 == 0 }},
		{&old, &old.elements[0].fields[3], func(x uint64) bool { return 7 <= x && x <= 16 }},
		{&old, &old.elements[0].fields[4], func(x uint64) bool { return 8 <= x && x <= 32 }},
	} {
		right := *k.at
		write := func(b string) bool {
			*k.at = modelValue(right[0], b)
			return accepted(t, k.p.bytes())
		}
		for _, base := range []uint64{0, 1 << 8, 1 << 16, 1 << 24, 1 << 31, 1 << 32, 1 << 33, 1 << 40, 1 << 63, math.MaxUint64 - 1<<32 + 1, math.MaxUint64 - 255} {
			for x := range uint64(256) {
				if write(modelBytes(base+x)) != k.good(base+x) {
					t.Error(i, base+x)
				}
			}
		}
		for _, b := range []string{"\x00", "\x00\x00", "\x00\x01", "\x00" + right[2:], strings.Repeat("\x00", 8), "\x01" + strings.Repeat("\x00", 8), strings.Repeat("\xff", 9), strings.Repeat("\x00", 8) + "\x01"} {
			if write(b) {
				t.Error(i, b)
			}
		}
		*k.at = right
	}
}

// TestDecodeSpoilt changes bytes of encodings: nothing else is accepted than the encoding of what is read.
func TestDecodeSpoilt(t *testing.T) {
	good, all := 0, 0
	for _, a := range []api.RouteAuth{example(), varied(), single(long(1)[0])} {
		b := encoded(t, a)
		for i := range b {
			for _, x := range []byte{b[i] + 1, b[i] - 1, b[i] ^ 128, b[i] ^ 64, 0, 1, 127, 128, 255} {
				spoilt := slices.Clone(b)
				spoilt[i] = x
				if accepted(t, spoilt) {
					good++
				}
				all++
				accepted(t, slices.Insert(slices.Clone(b), i, x))
			}
			accepted(t, slices.Delete(slices.Clone(b), i, i+1))
		}
	}
	if good == 0 || good == all {
		t.Error(good, all)
	}
}

func FuzzDecode(f *testing.F) {
	for _, a := range []api.RouteAuth{{}, example(), varied(), full()} {
		f.Add(modelEncode(a))
	}
	f.Add([]byte{})
	f.Fuzz(func(t *testing.T, b []byte) { accepted(t, b) })
}
