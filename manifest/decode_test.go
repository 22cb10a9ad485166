package manifest

import (
	"math"
	"slices"
	"strings"
	"testing"

	"gatepath/api"
)

// P13.2 and P13.5: what Decode refuses; accepted holds the rest of what it returns against the model.

// TestDecodeWrong decodes what would be the encodings of manifests that are not valid, and bytes that are no encodings.
func TestDecodeWrong(t *testing.T) {
	for i, l := range wrongLists() {
		if accepted(t, modelEncode(l)) {
			t.Fatal(i, brief(l))
		}
	}
	for _, b := range [][]byte{nil, {}, {0}, {128}, {128, 0}, {128, 2, 1, 0}, {128, 4, 1, 0, 2, 0}, {1, 0}, make([]byte, 65536), make([]byte, 65537), make([]byte, 1<<20)} {
		if accepted(t, b) {
			t.Error(len(b))
		}
	}
	if !accepted(t, []byte{128, 6, 1, 0, 2, 0, 3, 0}) {
		t.Error("refused")
	}
}

func TestDecodeCut(t *testing.T) {
	for _, l := range []api.ManifestList{{}, example(), varied()} {
		b := encoded(t, l)
		for n := range b {
			if accepted(t, b[:n]) || accepted(t, b[n+1:]) {
				t.Fatal(n)
			}
		}
		for _, tail := range [][]byte{{0}, {1, 0}, b} {
			if accepted(t, slices.Concat(b, tail)) {
				t.Fatal(tail)
			}
		}
	}
}

// parts are what the encoding of a manifest is put together from: the tags of its lists, and the encodings of the values in them.
type parts struct {
	whole byte
	heads []string
	files []filePart
}

type filePart struct {
	tag    byte
	fields []string
}

func partsOf(l api.ManifestList) parts {
	p := parts{whole: 128, heads: []string{modelValue(1, modelBytes(l.Number)), modelValue(2, modelBytes(uint64(l.Valid.From))), modelValue(3, modelBytes(uint64(l.Valid.To)))}}
	for _, f := range l.Files {
		p.files = append(p.files, filePart{129, []string{modelValue(1, f.Name), modelValue(2, string(f.Hash[:]))}})
	}
	return p
}

// bytes puts the parts together.
func (p parts) bytes() []byte {
	list := slices.Clone(p.heads)
	for _, f := range p.files {
		list = append(list, modelValue(f.tag, f.fields...))
	}
	return []byte(modelValue(p.whole, list...))
}

// TestDecodeOtherTags has one tag after the other changed to each other one.
func TestDecodeOtherTags(t *testing.T) {
	p := partsOf(varied())
	if !accepted(t, p.bytes()) {
		t.Fatal("refused")
	}
	for tag := range 256 {
		tags, lists := []*byte{&p.whole}, [][]string{p.heads}
		for i := range p.files {
			tags, lists = append(tags, &p.files[i].tag), append(lists, p.files[i].fields)
		}
		for i, at := range tags {
			right := *at
			if *at = byte(tag); accepted(t, p.bytes()) != (*at == right) {
				t.Fatal(i, tag)
			}
			*at = right
		}
		for i, list := range lists {
			for j, s := range list {
				list[j] = string([]byte{byte(tag)}) + s[1:]
				if accepted(t, p.bytes()) != (list[j] == s) {
					t.Fatal(i, j, tag)
				}
				list[j] = s
			}
		}
	}
}

// TestDecodeOtherLists has fields left out, written twice, in another order, or replaced: those before the files, and those of files.
func TestDecodeOtherLists(t *testing.T) {
	for k := range 4 {
		p := partsOf(varied())
		list := []*[]string{&p.heads, &p.files[0].fields, &p.files[4].fields, &p.files[9].fields}[k]
		right := *list
		refuse := func(fields []string, what ...any) {
			t.Helper()
			if *list = fields; accepted(t, p.bytes()) {
				t.Error(k, what)
			}
		}
		for i, s := range right {
			without := slices.Delete(slices.Clone(right), i, i+1)
			refuse(without, i)
			for j := range right {
				if j != i {
					refuse(slices.Insert(slices.Clone(without), j, s), i, j, "moved")
				}
			}
			for _, other := range []string{s, modelValue(1), modelValue(7), modelValue(129), modelValue(128, s), modelFile(varied().Files[0])} {
				for j := range len(right) + 1 {
					refuse(slices.Insert(slices.Clone(right), j, other), i, j, other)
				}
			}
			for _, other := range []string{modelValue(7), modelValue(129), modelValue(128, s), modelValue(s[0]+128, s), s + s} {
				refuse(slices.Insert(slices.Clone(without), i, other), i, other)
			}
		}
		refuse(nil)
		if *list = right; !accepted(t, p.bytes()) {
			t.Error(k)
		}
	}
}

// TestDecodeOtherFiles has files left out, written twice, in another order, and other values among them.
func TestDecodeOtherFiles(t *testing.T) {
	all := varied()
	for i, f := range all.Files {
		without := slices.Delete(slices.Clone(all.Files), i, i+1)
		for j := range all.Files {
			p := partsOf(changed(all, func(l *api.ManifestList) { l.Files = slices.Insert(slices.Clone(without), j, f) }))
			if accepted(t, p.bytes()) != (i == j) {
				t.Error(i, j, "moved")
			}
			p = partsOf(changed(all, func(l *api.ManifestList) { l.Files = slices.Insert(l.Files, j, f) }))
			if accepted(t, p.bytes()) {
				t.Error(i, j, "twice")
			}
		}
		if !accepted(t, partsOf(changed(all, func(l *api.ManifestList) { l.Files = without })).bytes()) {
			t.Error(i, "without")
		}
		list := []string{modelValue(1), modelValue(2), modelValue(3)}
		for _, f := range all.Files {
			list = append(list, modelFile(f))
		}
		for _, other := range []string{modelValue(1, "x"), modelValue(3), modelValue(4), modelValue(129), modelValue(128), modelValue(129, modelFile(f)), string(modelEncode(all))} {
			if accepted(t, []byte(modelValue(128, slices.Insert(slices.Clone(list), 3+i, other)...))) {
				t.Error(i, other)
			}
		}
		files := strings.Join(list[3:], "")
		for _, other := range [][]string{{files + list[0] + list[1] + list[2]}, {list[0], list[1], list[2], modelValue(129, files)}, {modelValue(129, list[:3]...), files}} {
			if accepted(t, []byte(modelValue(128, other...))) {
				t.Error(i, other)
			}
		}
	}
}

func TestDecodeCounts(t *testing.T) {
	for _, n := range []int{0, 1, 2, 198, 199, 200, 201, 202, 300, 800} {
		l := api.ManifestList{Files: someFiles(n)}
		if accepted(t, modelEncode(l)) != (n <= 200) {
			t.Error(n)
		}
	}
}

// TestDecodeNumbers writes other bytes where a number is.
func TestDecodeNumbers(t *testing.T) {
	p := partsOf(changed(varied(), func(l *api.ManifestList) { l.Valid.To = 2000 }))
	for i, place := range []struct{ least, most uint64 }{{0, math.MaxUint64}, {0, 2000}, {1000, 1 << 40}} {
		before := p.heads[i]
		write := func(b string) bool {
			p.heads[i] = modelValue(before[0], b)
			return accepted(t, p.bytes())
		}
		for _, x := range []uint64{0, 1, 255, 256, 999, 1000, 1001, 1999, 2000, 2001, 1 << 32, 1<<32 + 1500, 1<<40 - 1, 1 << 40, 1<<40 + 1, 1<<63 - 1, 1 << 63, 1<<63 + 1500, math.MaxUint64} {
			if write(modelBytes(x)) != (place.least <= x && x <= place.most) {
				t.Error(i, x)
			}
		}
		for _, b := range []string{"\x00", "\x00\x00", "\x00\x01", "\x00" + before[2:], strings.Repeat("\x00", 8), "\x01" + strings.Repeat("\x00", 8), strings.Repeat("\xff", 9), strings.Repeat("\x00", 8) + "\x01"} {
			if write(b) {
				t.Error(i, b)
			}
		}
		p.heads[i] = before
	}
}

// TestDecodeNames writes other names: they have to be parts, and in order.
func TestDecodeNames(t *testing.T) {
	p := partsOf(varied())
	for _, name := range slices.Concat(badNames(), []string{"-", "A", "A.cer", "B", "Z", "ZZ", "[", "_", "a", strings.Repeat("W", 40)}) {
		p.files[4].fields[0] = modelValue(1, name)
		if accepted(t, p.bytes()) != (modelPart(name) && "A.cer" < name && name < "_") {
			t.Error(name)
		}
	}
}

// TestDecodeHashes writes other numbers of bytes where a digest is.
func TestDecodeHashes(t *testing.T) {
	p := partsOf(varied())
	for n := range 100 {
		p.files[3].fields[1] = modelValue(2, strings.Repeat("\x00", n))
		if accepted(t, p.bytes()) != (n == 32) {
			t.Error(n)
		}
	}
}

// TestDecodeSpoilt changes bytes of encodings: nothing else is accepted than the encoding of what is read.
func TestDecodeSpoilt(t *testing.T) {
	good, all := 0, 0
	for _, l := range []api.ManifestList{{}, example(), varied()} {
		b := encoded(t, l)
		for i := range b {
			for _, x := range []byte{b[i] + 1, b[i] - 1, b[i] ^ 128, b[i] ^ 64, 0, 1, 127, 128, 255} {
				spoilt := slices.Clone(b)
				spoilt[i] = x
				if accepted(t, spoilt) {
					good++
				}
				all++
				accepted(t, slices.Insert(slices.Clone(b), i, x))
			}
			accepted(t, slices.Delete(slices.Clone(b), i, i+1))
		}
	}
	if good == 0 || good == all {
		t.Error(good, all)
	}
}

func FuzzDecode(f *testing.F) {
	for _, l := range []api.ManifestList{{}, example(), varied(), full()} {
		f.Add(modelEncode(l))
	}
	f.Add([]byte{})
	f.Fuzz(func(t *testing.T, b []byte) { accepted(t, b) })
}
