package revoke

import (
	"bytes"
	"crypto/sha256"
	"encoding/hex"
	"math"
	"slices"
	"strings"
	"testing"

	"gatepath/api"
)

// P11.1

func TestCheckValid(t *testing.T) {
	for i, l := range validLists() {
		if e := Check(l); e != api.OK || modelCheck(l) != api.OK {
			t.Error(i, brief(l), e)
		}
	}
}

func TestCheckBad(t *testing.T) {
	for i, bad := range slices.Concat(badFields(), badSigs()) {
		for _, of := range []api.RevList{varied(), changed(varied(), func(l *api.RevList) { l.Sig = fitting(2, 3) })} {
			l := changed(of, bad)
			if e := Check(l); e != api.ErrBad || modelCheck(l) != api.ErrBad {
				t.Error(i, brief(l), e)
			}
		}
	}
	if e := Check(api.RevList{}); e != api.ErrBad {
		t.Error(e)
	}
}

// TestCheckMany has too many serials in lists that are valid otherwise, and in others: ErrMany comes first.
func TestCheckMany(t *testing.T) {
	for i, many := range manyEdits() {
		if e := Check(changed(varied(), many)); e != api.ErrMany {
			t.Error(i, e)
		}
		for j, bad := range slices.Concat(badFields(), badSigs()) {
			if e := Check(changed(varied(), bad, many)); e != api.ErrMany {
				t.Error(i, j, e)
			}
		}
	}
	for n, want := range map[int]api.Errno{499: api.OK, 500: api.OK, 501: api.ErrMany} {
		if e := Check(changed(varied(), func(l *api.RevList) { l.Serials = lastSerials(n) })); e != want {
			t.Error(n, e)
		}
	}
}

// TestCheckShortLists has all lists of up to four serials out of some.
func TestCheckShortLists(t *testing.T) {
	var check func(serials []uint64)
	check = func(serials []uint64) {
		l := api.RevList{Issuer: "a", Serials: serials}
		if e := Check(l); e != modelCheck(l) {
			t.Fatal(serials, e)
		}
		if len(serials) == 4 {
			return
		}
		for _, x := range []uint64{0, 1, 2, 3, 1 << 32, 1 << 63, math.MaxUint64} {
			check(append(slices.Clone(serials), x))
		}
	}
	check(nil)
}

// TestCheckBadPlace has one serial that is not right, at each place of a long list.
func TestCheckBadPlace(t *testing.T) {
	for i := range 500 {
		for _, x := range []uint64{0, 1, math.MaxUint64} {
			l := api.RevList{Issuer: "a", Serials: lastSerials(500)}
			l.Serials[i] = x
			if e := Check(l); e != modelCheck(l) {
				t.Fatal(i, x, e)
			}
		}
	}
}

func TestCheckEmptyLists(t *testing.T) {
	l := plain()
	l.Serials, l.Sig = []uint64{}, api.KeySig{Chains: []api.Short{}, Path: []api.Short{}}
	if e := Check(l); e != api.OK || !bytes.Equal(encoded(t, l), encoded(t, plain())) {
		t.Error(e)
	}
	l.Sig = fitting(0, 0)
	l.Sig.Path = nil
	if e := Check(l); e != api.OK {
		t.Error(e)
	}
}

// someLists are revocation lists of all kinds, not all of them valid.
func someLists() []api.RevList {
	list := slices.Concat(validLists()[:120], []api.RevList{{}})
	for _, bad := range slices.Concat(badFields(), badSigs()) {
		list = append(list, changed(varied(), bad))
	}
	return list
}

func TestSame(t *testing.T) {
	list := someLists()
	shown := make([]string, len(list))
	for i, l := range list {
		shown[i] = show(l)
	}
	for i, a := range list {
		for j, b := range list {
			if Same(a, b) != (shown[i] == shown[j]) {
				t.Fatal(brief(a), brief(b))
			}
		}
	}
}

// TestSameFields changes one field after the other of a list that is not valid.
func TestSameFields(t *testing.T) {
	base := api.RevList{Issuer: "\x00", Number: 1, Valid: api.Window{From: 5, To: -5}, Serials: []uint64{0, 9, 9}, Sig: api.KeySig{Index: -3, Chains: make([]api.Short, 2), Path: make([]api.Short, 3)}}
	for i, change := range []edit{
		func(l *api.RevList) { l.Issuer = "" },
		func(l *api.RevList) { l.Issuer += " " },
		func(l *api.RevList) { l.Number = 0 },
		func(l *api.RevList) { l.Number += 1 << 32 },
		func(l *api.RevList) { l.Valid.From-- },
		func(l *api.RevList) { l.Valid.To-- },
		func(l *api.RevList) { l.Serials = nil },
		func(l *api.RevList) { l.Serials[2]++ },
		func(l *api.RevList) { l.Serials = l.Serials[:2] },
		func(l *api.RevList) { l.Serials = append(l.Serials, 0) },
		func(l *api.RevList) { slices.Reverse(l.Serials) },
		func(l *api.RevList) { l.Sig.Index = 0 },
		func(l *api.RevList) { l.Sig.Chains[1][15] = 1 },
		func(l *api.RevList) { l.Sig.Chains = nil },
		func(l *api.RevList) { l.Sig.Path[2][0] = 1 },
		func(l *api.RevList) { l.Sig.Path = append(l.Sig.Path, api.Short{}) },
		func(l *api.RevList) { l.Sig.Chains, l.Sig.Path = l.Sig.Path, l.Sig.Chains },
	} {
		other := Twin(base)
		if !Same(base, other) {
			t.Fatal(i, brief(other))
		}
		change(&other)
		if Same(base, other) || Same(other, base) || !Same(other, Twin(other)) {
			t.Error(i, brief(other))
		}
	}
}

func TestSameEmpty(t *testing.T) {
	a, b := api.RevList{}, api.RevList{Serials: []uint64{}, Sig: api.KeySig{Chains: []api.Short{}, Path: []api.Short{}}}
	if !Same(a, b) || !Same(b, a) || !Same(Twin(b), a) || !Same(Twin(a), b) {
		t.Error("nil and empty lists differ")
	}
}

func TestTwin(t *testing.T) {
	for _, l := range slices.Concat(someLists(), wrongLists()[:50]) {
		if x := Twin(l); show(x) != show(l) {
			t.Fatal(brief(l), brief(x))
		}
	}
}

// P11.2: what is known was computed with another program, from the chapters.

func TestExample(t *testing.T) {
	want := []byte{134, 19, 1, 1, 97, 2, 1, 2, 3, 0, 4, 1, 9, 129, 6, 5, 1, 5, 5, 1, 7}
	if b := body(t, example()); !bytes.Equal(b, want) {
		t.Error(b)
	}
	want = slices.Concat([]byte{135, 29}, want, []byte{131, 6, 1, 0, 2, 0, 3, 0})
	if b := encoded(t, example()); !bytes.Equal(b, want) {
		t.Error(b)
	}
}

func TestKnownBodies(t *testing.T) {
	want := "865a01074e65745f312d780203011170030203e80406010000000000813e05010105017f0501800501ff050201000502ffff05030100000505010000000005087fffffffffffffff050880000000000000000508ffffffffffffffff"
	if b := body(t, varied()); hex.EncodeToString(b) != want {
		t.Error(hex.EncodeToString(b))
	}
	b := body(t, full())
	if sum := sha256.Sum256(b); len(b) != 5076 || hex.EncodeToString(sum[:]) != "e843b70c5b69d11b11faf7bb9b303cd0b2e9732f0c5b46f66fc5fe921bcd8540" {
		t.Error(len(b), hex.EncodeToString(sum[:]))
	}
}

// TestThereAndBack holds the bodies and encodings of valid lists against the model, and decodes them (P11.5 besides).
func TestThereAndBack(t *testing.T) {
	for i, l := range validLists() {
		b, all := body(t, l), encoded(t, l)
		if !bytes.Equal(b, modelBody(l)) || !bytes.Equal(all, modelEncode(l)) {
			t.Fatal(i, brief(l))
		}
		d, e := Decode(all)
		if e != api.OK || show(d) != show(l) || !Same(l, d) {
			t.Fatal(i, brief(l), brief(d), e)
		}
	}
}

// TestSerialValuesStop leaves the walk over the serials after each number of them.
func TestSerialValuesStop(t *testing.T) {
	for most := 1; most <= 3; most++ {
		n := 0
		for v := range serialValues([]uint64{300, 7}) {
			if n++; v.Tag != 5 || n == most {
				break
			}
		}
		if n != min(most, 2) {
			t.Error(most, n)
		}
	}
}

func TestNoBodies(t *testing.T) {
	for i, l := range wrongLists() {
		b, e := Body(l)
		all, f := Encode(l)
		if want := modelCheck(l); want == api.OK || e != want || f != want || len(b)+len(all) != 0 {
			t.Fatal(i, brief(l), e, f, want)
		}
	}
}

// TestDecodeWrong decodes what would be the encodings of lists that are not valid, and bytes that are no encodings.
func TestDecodeWrong(t *testing.T) {
	for i, l := range wrongLists() {
		if accepted(t, modelEncode(l)) {
			t.Fatal(i, brief(l))
		}
	}
	long := changed(full(), func(l *api.RevList) { l.Serials = lastSerials(6600) })
	if len(modelEncode(long)) <= api.MaxOctets {
		t.Fatal("too short")
	}
	for _, b := range [][]byte{nil, {}, {0}, {135}, {135, 0}, {134, 0}, {135, 2, 134, 0}, {135, 4, 134, 0, 131, 0}, modelBody(varied()), make([]byte, 65536), make([]byte, 65537), make([]byte, 1<<20), modelEncode(long)} {
		if accepted(t, b) {
			t.Error(len(b))
		}
	}
}

func TestDecodeCut(t *testing.T) {
	for _, l := range []api.RevList{plain(), example(), varied(), changed(varied(), func(l *api.RevList) { l.Sig = fitting(1, 1) })} {
		b := encoded(t, l)
		for n := range b {
			if accepted(t, b[:n]) || accepted(t, b[n+1:]) {
				t.Fatal(n)
			}
		}
		for _, tail := range [][]byte{{0}, {1, 0}, b} {
			if accepted(t, slices.Concat(b, tail)) {
				t.Fatal(tail)
			}
		}
	}
}

// parts are what the encoding of a revocation list is put together from: the tags of its lists, and the encodings of the values in them.
type parts struct {
	whole, body, serials, sig byte
	fields                    []string
	list                      []string
	chains                    []string
}

func partsOf(l api.RevList) parts {
	p := parts{whole: 135, body: 134, serials: 129, sig: 131}
	p.fields = []string{modelValue(1, l.Issuer), modelValue(2, modelBytes(l.Number)), modelValue(3, modelBytes(uint64(l.Valid.From))), modelValue(4, modelBytes(uint64(l.Valid.To)))}
	for _, x := range l.Serials {
		p.list = append(p.list, modelValue(5, modelBytes(x)))
	}
	p.chains = []string{modelValue(1, modelBytes(uint64(l.Sig.Index))), modelValue(2, modelShorts(l.Sig.Chains)), modelValue(3, modelShorts(l.Sig.Path))}
	return p
}

// bytes puts the parts together.
func (p parts) bytes() []byte {
	body := modelValue(p.body, strings.Join(p.fields, ""), modelValue(p.serials, p.list...))
	return []byte(modelValue(p.whole, body, modelValue(p.sig, p.chains...)))
}

// TestDecodeOtherTags has one tag after the other changed to each other one.
func TestDecodeOtherTags(t *testing.T) {
	for _, l := range []api.RevList{varied(), changed(varied(), func(l *api.RevList) { l.Sig = fitting(2, 1) })} {
		for tag := range 256 {
			all := partsOf(l)
			for i, at := range []*byte{&all.whole, &all.body, &all.serials, &all.sig} {
				right := *at
				if *at = byte(tag); accepted(t, all.bytes()) != (*at == right) {
					t.Fatal(i, tag)
				}
				*at = right
			}
			for _, list := range [][]string{all.fields, all.list, all.chains} {
				for i, s := range list {
					list[i] = string([]byte{byte(tag)}) + s[1:]
					if accepted(t, all.bytes()) != (list[i] == s) {
						t.Fatal(i, tag, list)
					}
					list[i] = s
				}
			}
		}
	}
}

// TestDecodeOtherLists has parts left out, written twice, in another order, or in a list of their own.
func TestDecodeOtherLists(t *testing.T) {
	l := changed(varied(), func(l *api.RevList) { l.Sig = fitting(2, 1) })
	for k := range 3 {
		of := func(p *parts) *[]string { return []*[]string{&p.fields, &p.list, &p.chains}[k] }
		p := partsOf(l)
		right := *of(&p)
		for i, s := range right {
			without := slices.Delete(slices.Clone(right), i, i+1)
			*of(&p) = without
			if accepted(t, p.bytes()) != (k == 1) {
				t.Error(k, i, "without")
			}
			for _, other := range []string{s, modelValue(5, ""), modelValue(9, ""), modelValue(129), modelValue(135, s)} {
				for j := range len(right) + 1 {
					*of(&p) = slices.Insert(slices.Clone(right), j, other)
					if accepted(t, p.bytes()) {
						t.Error(k, i, j, other)
					}
				}
				if other == s {
					continue
				}
				*of(&p) = slices.Insert(slices.Clone(without), i, other)
				if accepted(t, p.bytes()) {
					t.Error(k, i, other)
				}
			}
			if i > 0 {
				*of(&p) = slices.Insert(slices.Clone(without), i-1, s)
				if accepted(t, p.bytes()) {
					t.Error(k, i, "swapped")
				}
			}
		}
		if *of(&p) = right; !accepted(t, p.bytes()) {
			t.Error(k)
		}
	}
}

// TestDecodeOuterLists has more or less than a body and a signature, and more or less than the fields of a body.
func TestDecodeOuterLists(t *testing.T) {
	body, sig := string(modelBody(example())), modelValue(131, modelValue(1), modelValue(2), modelValue(3))
	if !accepted(t, []byte(modelValue(135, body, sig))) {
		t.Fatal("refused")
	}
	for i, list := range [][]string{{}, {body}, {sig}, {sig, body}, {body, body}, {sig, sig}, {body, sig, sig}, {body, body, sig}, {body, sig, modelValue(1)}, {modelValue(1), body, sig}, {modelValue(135, body, sig)}, {body, modelValue(131)}, {modelValue(134), sig}, {modelValue(1), modelValue(1)}} {
		if accepted(t, []byte(modelValue(135, list...))) {
			t.Error(i)
		}
	}
	fields := partsOf(example()).fields
	serials := modelValue(129, partsOf(example()).list...)
	for i, list := range [][]string{fields, {serials}, slices.Insert(slices.Clone(fields), 0, serials), append(slices.Clone(fields), serials, serials), append(slices.Clone(fields), serials, modelValue(5)), append(slices.Clone(fields), modelValue(5, "\x05"), modelValue(5, "\x07"))} {
		if accepted(t, []byte(modelValue(135, modelValue(134, list...), sig))) {
			t.Error(i)
		}
	}
}

// TestDecodeNumbers writes other bytes where a number is.
func TestDecodeNumbers(t *testing.T) {
	base := changed(varied(), func(l *api.RevList) { l.Valid.To, l.Serials, l.Sig = 2000, []uint64{300, 500, 700}, fitting(2, 1) })
	right := partsOf(base)
	for i, place := range []struct {
		at          *string
		least, most uint64
	}{
		{&right.fields[1], 0, math.MaxUint64}, {&right.fields[2], 0, 2000}, {&right.fields[3], 1000, 1 << 40},
		{&right.list[0], 1, 499}, {&right.list[1], 301, 699}, {&right.list[2], 501, math.MaxUint64}, {&right.chains[0], 0, 3},
	} {
		before := *place.at
		write := func(b string) bool {
			*place.at = modelValue(before[0], b)
			return accepted(t, right.bytes())
		}
		for _, x := range []uint64{0, 1, 2, 3, 4, 15, 16, 255, 256, 300, 301, 499, 500, 501, 699, 700, 999, 1000, 2000, 2001, 1 << 32, 1<<32 + 1, 1<<32 + 400, 1<<40 - 1, 1 << 40, 1<<40 + 1, 1<<63 - 1, 1 << 63, 1<<63 + 1000, math.MaxUint64} {
			if write(modelBytes(x)) != (place.least <= x && x <= place.most) {
				t.Error(i, x)
			}
		}
		for _, b := range []string{"\x00", "\x00\x00", "\x00\x01", "\x00" + before[2:], strings.Repeat("\x00", 8), "\x01" + strings.Repeat("\x00", 8), strings.Repeat("\xff", 9), strings.Repeat("\x00", 8) + "\x01"} {
			if write(b) {
				t.Error(i, b)
			}
		}
		*place.at = before
	}
}

func TestDecodeIssuers(t *testing.T) {
	p := partsOf(varied())
	for _, s := range []string{"", "a", "A-_9", " ", "a b", "a.b", "\x00", "a\x00", "é", strings.Repeat("a", 40), strings.Repeat("a", 41), strings.Repeat("a", 1000)} {
		p.fields[0] = modelValue(1, s)
		if accepted(t, p.bytes()) != modelName.MatchString(s) {
			t.Error(s)
		}
	}
}

// TestDecodeShorts writes other numbers of bytes where short digests are.
func TestDecodeShorts(t *testing.T) {
	for height := range 5 {
		p := partsOf(changed(example(), func(l *api.RevList) { l.Sig = fitting(height, 0) }))
		chains, path := p.chains[1], p.chains[2]
		for n := range 100 {
			p.chains[2] = modelValue(3, strings.Repeat("x", n))
			if accepted(t, p.bytes()) != (n%16 == 0 && n <= 4*16) {
				t.Error("path", height, n)
			}
		}
		p.chains[2] = path
		for n := range 1200 {
			p.chains[1] = modelValue(2, strings.Repeat("x", n))
			if accepted(t, p.bytes()) != (n == 35*16 || n == 0 && height == 0) {
				t.Error("chains", height, n)
			}
		}
		if p.chains[1] = chains; !accepted(t, p.bytes()) {
			t.Error(height)
		}
	}
}

// TestDecodeSpoilt changes bytes of encodings: nothing else is accepted than the encoding of what is read.
func TestDecodeSpoilt(t *testing.T) {
	good, all := 0, 0
	for _, l := range []api.RevList{plain(), example(), varied(), changed(example(), func(l *api.RevList) { l.Sig = fitting(1, 1) })} {
		b := encoded(t, l)
		for i := range b {
			for _, x := range []byte{b[i] + 1, b[i] - 1, b[i] ^ 128, b[i] ^ 64, 0, 1, 127, 128, 255} {
				spoilt := slices.Clone(b)
				spoilt[i] = x
				if accepted(t, spoilt) {
					good++
				}
				all++
				accepted(t, slices.Insert(slices.Clone(b), i, x))
			}
			accepted(t, slices.Delete(slices.Clone(b), i, i+1))
		}
	}
	if good == 0 || good == all {
		t.Error(good, all)
	}
}

func FuzzDecode(f *testing.F) {
	for _, l := range []api.RevList{plain(), example(), varied(), full()} {
		f.Add(modelEncode(l))
	}
	f.Add([]byte{})
	f.Fuzz(func(t *testing.T, b []byte) { accepted(t, b) })
}

// P11.4

func TestRevoked(t *testing.T) {
	for i, l := range validLists() {
		asked := []uint64{0, 1, 2, 5, 6, 7, 1 << 32, 1 << 63, math.MaxUint64 - 1, math.MaxUint64}
		for _, x := range l.Serials {
			asked = append(asked, x-1, x, x+1)
		}
		for _, x := range asked {
			if is, e := Revoked(l, x); e != api.OK || is != slices.Contains(l.Serials, x) {
				t.Fatal(i, brief(l), x, is, e)
			}
		}
	}
	for x, want := range map[uint64]bool{5: true, 6: false} {
		if is, e := Revoked(example(), x); is != want || e != api.OK {
			t.Error(x, is, e)
		}
	}
}

func TestRevokedWrong(t *testing.T) {
	for i, l := range wrongLists() {
		want := modelCheck(l)
		for _, x := range append([]uint64{0, 1, 7, math.MaxUint64}, l.Serials[:min(3, len(l.Serials))]...) {
			if is, e := Revoked(l, x); is || e != want || e == api.OK {
				t.Fatal(i, brief(l), x, is, e)
			}
		}
	}
}
