package signed

import (
	"math"
	"slices"
	"strings"
	"testing"

	"gatepath/api"
	"gatepath/octet"
)

// P12.2 and P12.5: what Decode refuses; accepted holds the rest of what it returns against the model.

// TestDecodeWrong decodes what would be the encodings of objects that are not valid, and bytes that are no encodings.
func TestDecodeWrong(t *testing.T) {
	for i, o := range wrongObjects() {
		if accepted(t, modelEncode(o)) {
			t.Fatal(i, brief(o))
		}
	}
	for _, b := range [][]byte{nil, {}, {0}, {137}, {137, 0}, {136, 0}, {137, 2, 136, 0}, {137, 4, 136, 0, 131, 0}, {137, 6, 136, 0, 6, 0, 131, 0}, modelBody(usual()), make([]byte, 65536), make([]byte, 65537), make([]byte, 1<<20)} {
		if accepted(t, b) {
			t.Error(len(b))
		}
	}
}

func TestDecodeCut(t *testing.T) {
	for _, o := range []api.SignedObj{plain(), example(), usual(), signedUsual()} {
		b := encoded(t, o)
		for n := range b {
			if accepted(t, b[:n]) || accepted(t, b[n+1:]) {
				t.Fatal(n)
			}
		}
		for _, tail := range [][]byte{{0}, {1, 0}, b} {
			if accepted(t, slices.Concat(b, tail)) {
				t.Fatal(tail)
			}
		}
	}
}

// TestDecodeOtherTags has one tag after the other changed to each other one.
func TestDecodeOtherTags(t *testing.T) {
	for _, o := range []api.SignedObj{usual(), signedUsual()} {
		p := partsOf(o)
		for tag := range 256 {
			for i, at := range []*byte{&p.whole, &p.body, &p.sig} {
				right := *at
				if *at = byte(tag); accepted(t, p.bytes()) != (*at == right) {
					t.Fatal(i, tag)
				}
				*at = right
			}
			for i, at := range places(&p) {
				right := *at
				if *at = string([]byte{byte(tag)}) + right[1:]; accepted(t, p.bytes()) != (*at == right) {
					t.Fatal(i, tag)
				}
				*at = right
			}
		}
	}
}

// places tells where the encodings of the fields are: 5 of the body, the certificate, and 3 of the signature.
func places(p *parts) []*string {
	var list []*string
	for i := range p.fields {
		list = append(list, &p.fields[i])
	}
	list = append(list, &p.ee)
	for i := range p.chains {
		list = append(list, &p.chains[i])
	}
	return list
}

// TestDecodeOtherLists has fields left out, written twice, in another order, or replaced.
func TestDecodeOtherLists(t *testing.T) {
	o := signedUsual()
	for k := range 2 {
		p := partsOf(o)
		list := []*[]string{&p.fields, &p.chains}[k]
		right := *list
		refuse := func(fields []string, what ...any) {
			t.Helper()
			if *list = fields; accepted(t, p.bytes()) {
				t.Error(k, what)
			}
		}
		for i, s := range right {
			without := slices.Delete(slices.Clone(right), i, i+1)
			refuse(without, i)
			for j := range right {
				if j != i {
					refuse(slices.Insert(slices.Clone(without), j, s), i, j, "moved")
				}
			}
			for _, other := range []string{s, modelValue(1), modelValue(7), modelValue(129), modelValue(137, s)} {
				for j := range len(right) + 1 {
					refuse(slices.Insert(slices.Clone(right), j, other), i, j, other)
				}
			}
			for _, other := range []string{modelValue(7), modelValue(129), modelValue(137, s), modelValue(s[0]+128, s), s + s} {
				refuse(slices.Insert(slices.Clone(without), i, other), i, other)
			}
		}
		refuse(nil)
		if *list = right; !accepted(t, p.bytes()) {
			t.Error(k)
		}
	}
}

// TestDecodeOuterLists has other lists than one of a body, a certificate and a signature.
func TestDecodeOuterLists(t *testing.T) {
	p := partsOf(signedUsual())
	body, sig := string(p.bodyBytes()), modelValue(131, p.chains...)
	right := []string{body, p.ee, sig}
	if !accepted(t, []byte(modelValue(137, right...))) {
		t.Fatal("refused")
	}
	lists := [][]string{
		{}, {body}, {p.ee}, {sig}, {body, p.ee}, {body, sig}, {p.ee, sig},
		{body, sig, p.ee}, {p.ee, body, sig}, {p.ee, sig, body}, {sig, body, p.ee}, {sig, p.ee, body},
		{modelValue(137, right...)}, {modelValue(136), p.ee, sig}, {body, modelValue(6), sig}, {body, p.ee, modelValue(131)}, {body, p.ee, modelValue(6)}, {body, sig, sig}, {body, body, sig},
		{p.fields[0], p.fields[1], p.fields[2], p.fields[3], p.fields[4], p.ee, sig}, {body, p.ee, p.chains[0], p.chains[1], p.chains[2]},
	}
	for i := range 4 {
		for _, other := range append(right, modelValue(1), modelValue(128)) {
			lists = append(lists, slices.Insert(slices.Clone(right), i, other))
		}
	}
	for i, list := range lists {
		if accepted(t, []byte(modelValue(137, list...))) {
			t.Error(i)
		}
	}
}

// TestDecodeNumbers writes other bytes where a number is.
func TestDecodeNumbers(t *testing.T) {
	o := signedUsual()
	o.Sig = fitting(3, 5)
	p := partsOf(o)
	for i, place := range []struct {
		at          *string
		least, most uint64
	}{{&p.fields[0], 1, 3}, {&p.fields[2], 70000, 70000}, {&p.chains[0], 0, 7}} {
		before := *place.at
		write := func(b string) bool {
			*place.at = modelValue(before[0], b)
			return accepted(t, p.bytes())
		}
		for _, x := range []uint64{0, 1, 2, 3, 4, 7, 8, 15, 16, 255, 256, 257, 258, 259, 69999, 70000, 70001, 1 << 32, 1<<32 + 1, 1<<32 + 70000, 1 << 63, 1<<63 + 2, math.MaxUint64} {
			if write(modelBytes(x)) != (place.least <= x && x <= place.most) {
				t.Error(i, x)
			}
		}
		for _, b := range []string{"\x00", "\x00\x00", "\x00\x01", "\x00" + before[2:], strings.Repeat("\x00", 8), "\x01" + strings.Repeat("\x00", 8), strings.Repeat("\xff", 9), strings.Repeat("\x00", 8) + "\x01"} {
			if write(b) {
				t.Error(i, b)
			}
		}
		*place.at = before
	}
}

// TestDecodeContents has contents of all sizes about the greatest one.
func TestDecodeContents(t *testing.T) {
	p := partsOf(signedUsual())
	for _, n := range []int{0, 1, 127, 128, 255, 256, 32767, 32768, 32769, 32770, 40000, 60000, 65535, 65536} {
		p.fields[1] = modelValue(2, string(content(n)))
		if accepted(t, p.bytes()) != (n <= 32768) {
			t.Error(n)
		}
	}
}

// TestDecodeOtherBodies has bodies that tell something else of the certificate than it says itself.
func TestDecodeOtherBodies(t *testing.T) {
	p, others := partsOf(signedUsual()), [][]string{nil, nil}
	others = append(others,
		[]string{modelValue(3), modelValue(3, "\x01"), modelValue(3, modelBytes(69999)), modelValue(3, modelBytes(math.MaxUint64))},
		[]string{modelValue(4), modelValue(4, "net-2"), modelValue(4, "net-"), modelValue(4, "net-1 "), modelValue(4, "Net-1"), modelValue(4, "Object_17"), modelValue(4, strings.Repeat("n", 40)), modelValue(4, strings.Repeat("n", 1000))},
		[]string{modelValue(5), modelValue(5, "Object_18"), modelValue(5, "Object_1"), modelValue(5, "Object_170"), modelValue(5, "net-1"), modelValue(5, strings.Repeat("0", 41))})
	for i, list := range others {
		for _, other := range list {
			right := p.fields[i]
			if p.fields[i] = other; accepted(t, p.bytes()) {
				t.Error(i, other)
			}
			p.fields[i] = right
		}
	}
	swapped := slices.Clone(p.fields)
	swapped[3], swapped[4] = modelValue(4, "Object_17"), modelValue(5, "net-1")
	if p.fields = swapped; accepted(t, p.bytes()) {
		t.Error("swapped")
	}
}

// TestDecodeOtherCerts has certificates that are not valid, though the body tells the same of them, and others.
func TestDecodeOtherCerts(t *testing.T) {
	p := partsOf(signedUsual())
	ee := must[string](t)(octet.ReadStr(must[api.Octet](t)(octet.Decode([]byte(p.ee))), 6, api.MaxOctets))
	for i, s := range []string{"", ee[:len(ee)-1], ee[1:], ee + "\x00", ee + ee, modelValue(132), modelValue(132, ee), string(encoded(t, signedUsual())), strings.Repeat("x", 65000)} {
		if p.ee = modelValue(6, s); accepted(t, p.bytes()) {
			t.Error(i)
		}
	}
	for i, field := range []struct {
		place int // in the body of the certificate
		value api.Octet
		same  string // in the body of the object
	}{{0, octet.Num(1, 0), modelValue(3)}, {1, octet.Str(2, ""), modelValue(4)}, {1, octet.Str(2, "a b"), modelValue(4, "a b")}, {2, octet.Str(3, strings.Repeat("s", 41)), modelValue(5, strings.Repeat("s", 41))}} {
		v := must[api.Octet](t)(octet.Decode([]byte(ee)))
		v.List[0].List[field.place] = field.value
		p := partsOf(signedUsual())
		p.fields[2+field.place], p.ee = field.same, modelValue(6, string(must[[]byte](t)(octet.Encode(v))))
		if accepted(t, p.bytes()) {
			t.Error(i)
		}
	}
	for i, change := range slices.Concat(eeEdits(), keyEdits()) {
		p := partsOf(signedUsual())
		if p.ee = partsOf(changed(usual(), change)).ee; !accepted(t, p.bytes()) {
			t.Error(i, "refused")
		}
	}
}

// TestDecodeShorts writes other numbers of bytes where short digests are.
func TestDecodeShorts(t *testing.T) {
	for height := range 5 {
		p := partsOf(changed(example(), func(o *api.SignedObj) { o.Sig = fitting(height, 0) }))
		chains, path := p.chains[1], p.chains[2]
		for n := range 100 {
			p.chains[2] = modelValue(3, strings.Repeat("x", n))
			if accepted(t, p.bytes()) != (n%16 == 0 && n <= 4*16) {
				t.Error("path", height, n)
			}
		}
		p.chains[2] = path
		for n := range 1200 {
			p.chains[1] = modelValue(2, strings.Repeat("x", n))
			if accepted(t, p.bytes()) != (n == 35*16 || n == 0 && height == 0) {
				t.Error("chains", height, n)
			}
		}
		if p.chains[1] = chains; !accepted(t, p.bytes()) {
			t.Error(height)
		}
	}
}

// TestDecodeSpoilt changes bytes of encodings: nothing else is accepted than the encoding of what is read.
func TestDecodeSpoilt(t *testing.T) {
	good, all := 0, 0
	for _, o := range []api.SignedObj{plain(), example(), usual(), changed(example(), func(o *api.SignedObj) { o.Sig = fitting(1, 1) })} {
		b := encoded(t, o)
		for i := range b {
			for _, x := range []byte{b[i] + 1, b[i] - 1, b[i] ^ 128, b[i] ^ 64, 0, 1, 127, 128, 255} {
				spoilt := slices.Clone(b)
				spoilt[i] = x
				if accepted(t, spoilt) {
					good++
				}
				all++
				accepted(t, slices.Insert(slices.Clone(b), i, x))
			}
			accepted(t, slices.Delete(slices.Clone(b), i, i+1))
		}
	}
	if good == 0 || good == all {
		t.Error(good, all)
	}
}

func FuzzDecode(f *testing.F) {
	for _, o := range []api.SignedObj{plain(), example(), usual(), signedUsual(), full()} {
		f.Add(modelEncode(o))
	}
	f.Add([]byte{})
	f.Fuzz(func(t *testing.T, b []byte) { accepted(t, b) })
}
