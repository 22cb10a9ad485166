package cert

import (
	"bytes"
	"crypto/sha256"
	"encoding/hex"
	"math"
	"math/rand"
	"slices"
	"strings"
	"testing"

	"gatepath/api"
	"gatepath/octet"
)

// P10.1

func TestCheckValid(t *testing.T) {
	for i, c := range validCerts() {
		if e := Check(c); e != api.OK || modelCheck(c) != api.OK {
			t.Error(i, brief(c), e)
		}
	}
}

func TestCheckBad(t *testing.T) {
	for i, change := range badEdits() {
		c := changed(authority(), change)
		if e := Check(c); e != api.ErrBad || modelCheck(c) != api.ErrBad {
			t.Error(i, brief(c), e)
		}
	}
	if e := Check(api.Cert{}); e != api.ErrBad {
		t.Error(e)
	}
}

// TestCheckMany has too many spans in certificates that are valid otherwise, and in others.
func TestCheckMany(t *testing.T) {
	for i, many := range manyEdits() {
		if e := Check(changed(authority(), many)); e != api.ErrMany {
			t.Error(i, e)
		}
		for j, bad := range slices.Concat(badFields(), badPlaces(), badSigs()) {
			if e := Check(changed(changed(authority(), bad), many)); e != api.ErrMany {
				t.Error(i, j, e)
			}
		}
	}
}

func TestCheckEmptyLists(t *testing.T) {
	for _, c := range []api.Cert{minimal(), heir()} {
		c.Res = api.Resources{V4: []api.Span{}, V6: []api.Span{}, As: []api.AsSpan{}}
		if len(c.Sig.Chains) == 0 {
			c.Sig = api.KeySig{Chains: []api.Short{}, Path: []api.Short{}}
		}
		if e := Check(c); e != api.OK {
			t.Error(brief(c), e)
		}
	}
}

// someCerts are certificates of all kinds, not all of them valid.
func someCerts() []api.Cert {
	return slices.Concat(validCerts(), wrongCerts()[:300])
}

func TestSame(t *testing.T) {
	list := someCerts()
	shown := make([]string, len(list))
	for i := range list {
		shown[i] = show(list[i])
	}
	for i, a := range list {
		for j, b := range list {
			if Same(a, b) != (shown[i] == shown[j]) {
				t.Fatal(brief(a), brief(b))
			}
		}
	}
}

// TestSameFields changes one field after the other of a certificate that is not valid.
func TestSameFields(t *testing.T) {
	base := authority()
	base.Serial, base.Valid, base.Inherit, base.Sig = 0, api.Window{From: 5, To: -5}, true, api.KeySig{Index: -3, Chains: make([]api.Short, 2), Path: make([]api.Short, 3)}
	for i, change := range []edit{
		func(c *api.Cert) { c.Serial = 1 },
		func(c *api.Cert) { c.Issuer = "" },
		func(c *api.Cert) { c.Subject += " " },
		func(c *api.Cert) { c.Valid.From-- },
		func(c *api.Cert) { c.Valid.To-- },
		func(c *api.Cert) { c.Key.Root[0]++ },
		func(c *api.Cert) { c.Key.Height = -1 },
		func(c *api.Cert) { c.Ca = false },
		func(c *api.Cert) { c.Inherit = false },
		func(c *api.Cert) { c.Res.V4[0].From.High = 1 },
		func(c *api.Cert) { c.Res.V4 = nil },
		func(c *api.Cert) { c.Res.V6[1].To.Low = 0 },
		func(c *api.Cert) { c.Res.V6 = append(c.Res.V6, api.Span{}) },
		func(c *api.Cert) { c.Res.As[0].To = 7 },
		func(c *api.Cert) { c.Res.As = c.Res.As[:2] },
		func(c *api.Cert) { c.Repo = "x" },
		func(c *api.Cert) { c.Manifest = "x" },
		func(c *api.Cert) { c.Notify = "x" },
		func(c *api.Cert) { c.Crl = "x" },
		func(c *api.Cert) { c.Parent = "x" },
		func(c *api.Cert) { c.Sig.Index = 0 },
		func(c *api.Cert) { c.Sig.Chains[1][15] = 1 },
		func(c *api.Cert) { c.Sig.Chains = nil },
		func(c *api.Cert) { c.Sig.Path[2][0] = 1 },
		func(c *api.Cert) { c.Sig.Path = append(c.Sig.Path, api.Short{}) },
		func(c *api.Cert) { c.Sig.Chains, c.Sig.Path = c.Sig.Path, c.Sig.Chains },
	} {
		other := Twin(base)
		if !Same(base, other) {
			t.Fatal(i, brief(other))
		}
		change(&other)
		if Same(base, other) || Same(other, base) || !Same(other, Twin(other)) {
			t.Error(i, brief(other))
		}
	}
}

func TestSameEmpty(t *testing.T) {
	a, b := minimal(), minimal()
	b.Res = api.Resources{V4: []api.Span{}, V6: []api.Span{}, As: []api.AsSpan{}}
	b.Sig = api.KeySig{Chains: []api.Short{}, Path: []api.Short{}}
	if !Same(a, b) || !Same(b, a) || !Same(Twin(b), a) || !Same(Twin(a), b) {
		t.Error("nil and empty lists differ")
	}
	if !bytes.Equal(encoded(t, a), encoded(t, b)) {
		t.Error("nil and empty lists are written differently")
	}
}

func TestTwin(t *testing.T) {
	for _, c := range someCerts() {
		if x := Twin(c); show(x) != show(c) {
			t.Fatal(brief(c), brief(x))
		}
	}
}

// P10.2: what is known was computed with another program, from the chapters.

func TestExample(t *testing.T) {
	b := body(t, minimal())
	if len(b) != 56 || !bytes.HasPrefix(b, []byte{128, 54, 1, 1, 1, 2, 1, 97}) {
		t.Error(b)
	}
	want := slices.Concat([]byte{132, 64}, b, []byte{131, 6, 1, 0, 2, 0, 3, 0})
	if all := encoded(t, minimal()); len(all) != 66 || !bytes.Equal(all, want) {
		t.Error(all)
	}
}

func TestKnownBody(t *testing.T) {
	want := "8082016a0102012c0204726f6f7403056e65742d31040203e8050207d00610000102030405060708090a0b0c0d0e0f070102080101" +
		"82819481248510010002040a000000030004040affffff851001000204c000020003000404c00002ff" +
		"814c8520010820010db8000000000200030820010db8ffffffff0408ffffffffffffffff85280108ffffffffffffffff0208ffffffffffffffff0308ffffffffffffffff0408ffffffffffffffff" +
		"811e85040100020085080102fbf40202fbff850c0104ffffffff0204ffffffff" +
		"091b7273796e633a2f2f7265706f2e6578616d706c652f6e65742d312f0a247273796e633a2f2f7265706f2e6578616d706c652f6e65742d312f6e65742d312e6d6674" +
		"0b1a68747470733a2f2f7265706f2e6578616d706c652f6e2e786d6c0c227273796e633a2f2f7265706f2e6578616d706c652f726f6f742f726f6f742e63726c0d1d7273796e633a2f2f7265706f2e6578616d706c652f726f6f742e636572"
	if b := body(t, authority()); hex.EncodeToString(b) != want {
		t.Error(hex.EncodeToString(b))
	}
}

func TestKnownSignatures(t *testing.T) {
	for _, k := range []struct {
		seed          api.Short
		height, index int
		size          int
		sum           string
	}{
		{counted(), 2, 3, 975, "188126eb185235366ea0707ee1a3b6521fabffc8f2fbaf4a1718bc22ed6ea3b6"},
		{api.Short{}, 0, 0, 942, "79126441571e3f27b3d84b21049a66f0bd48352dee5ce6df9a82259fc5bf04da"},
		{api.Short(bytes.Repeat([]byte{255}, 16)), 4, 13, 1007, "f45075243f22600d04cb5321ce759dee127eae2f9acbc848fdfbaac1975287de"},
	} {
		b := encoded(t, signed(t, authority(), k.seed, k.height, k.index))
		if sum := sha256.Sum256(b); len(b) != k.size || hex.EncodeToString(sum[:]) != k.sum {
			t.Error(k, len(b), hex.EncodeToString(sum[:]))
		}
	}
}

func TestFlags(t *testing.T) {
	for flags := range 4 {
		c := minimal()
		c.Ca, c.Inherit = flags%2 == 1, flags > 1
		want := slices.Concat([]byte{7, 0, 8}, [][]byte{{0}, {1, 1}, {1, 2}, {1, 3}}[flags], []byte{130, 6})
		if b := body(t, c); !bytes.Contains(b, want) {
			t.Error(flags, b)
		}
		if d, e := Decode(modelEncode(c)); e != api.OK || d.Ca != c.Ca || d.Inherit != c.Inherit {
			t.Error(flags, e)
		}
	}
}

// TestThereAndBack holds the encodings of valid certificates against the model, and decodes them (P10.5 besides).
func TestThereAndBack(t *testing.T) {
	for i, c := range validCerts() {
		b, all := body(t, c), encoded(t, c)
		if !bytes.Equal(b, modelBody(c)) || !bytes.Equal(all, modelEncode(c)) {
			t.Fatal(i, brief(c))
		}
		d, e := Decode(all)
		if e != api.OK || show(d) != show(c) || !Same(c, d) {
			t.Fatal(i, brief(c), brief(d), e)
		}
	}
}

func TestNoBodies(t *testing.T) {
	for i, c := range wrongCerts() {
		b, e := Body(c)
		all, f := Encode(c)
		if want := modelCheck(c); want == api.OK || Check(c) != want || e != want || f != want || len(b)+len(all) != 0 {
			t.Fatal(i, brief(c), e, f, want)
		}
	}
}

// TestDecodeWrong decodes what would be the encodings of certificates that are not valid.
func TestDecodeWrong(t *testing.T) {
	for i, c := range wrongCerts() {
		if accepted(t, modelEncode(c)) {
			t.Fatal(i, brief(c))
		}
	}
	if len(modelEncode(changed(full(), func(c *api.Cert) { c.Res.V6 = manyAddrs(api.Family6, 2000) }))) <= api.MaxOctets {
		t.Fatal("too short")
	}
	for _, b := range [][]byte{nil, {}, {0}, {132}, {132, 0}, {128, 0}, make([]byte, 65536), make([]byte, 65537), make([]byte, 1<<20), modelEncode(changed(full(), func(c *api.Cert) { c.Res.V6 = manyAddrs(api.Family6, 2000) }))} {
		if accepted(t, b) {
			t.Error(len(b))
		}
	}
}

func TestDecodeCut(t *testing.T) {
	for _, c := range []api.Cert{minimal(), authority(), heir()} {
		b := encoded(t, c)
		for n := range b {
			if accepted(t, b[:n]) || accepted(t, b[n+1:]) {
				t.Fatal(n)
			}
		}
		for _, tail := range [][]byte{{0}, {1, 0}, b} {
			if accepted(t, slices.Concat(b, tail)) {
				t.Fatal(tail)
			}
		}
	}
}

// values tells the place of each value in a value.
func values(v *api.Octet) []*api.Octet {
	out := []*api.Octet{v}
	for i := range v.List {
		out = append(out, values(&v.List[i])...)
	}
	return out
}

// decodeTree decodes an encoding of which the value at a place is changed, and reports whether it is accepted.
func decodeTree(t *testing.T, b []byte, place int, change func(v *api.Octet)) bool {
	t.Helper()
	v, e := octet.Decode(b)
	if e != api.OK {
		t.Fatal(e)
	}
	change(values(&v)[place])
	spoilt, e := octet.Encode(v)
	if e != api.OK {
		return false
	}
	return accepted(t, spoilt)
}

// TestDecodeOtherValues changes one value after the other in encodings: tags, bytes, and lists.
func TestDecodeOtherValues(t *testing.T) {
	for _, c := range []api.Cert{minimal(), authority(), heir()} {
		b := encoded(t, c)
		v, _ := octet.Decode(b)
		for place, x := range values(&v) {
			for tag := range 256 {
				if uint8(tag) != x.Tag && decodeTree(t, b, place, func(v *api.Octet) { v.Tag = uint8(tag) }) {
					t.Fatal(place, tag)
				}
			}
			if len(x.Bytes) > 0 && x.Tag >= 128 || len(x.List) > 0 && x.Tag < 128 {
				t.Fatal(place, "a value of both kinds")
			}
			for i, change := range listChanges(x.List) {
				// A list of spans may be shorter, so that some of these are accepted.
				if x.Tag >= 128 && decodeTree(t, b, place, change) && x.Tag != 129 {
					t.Fatal(place, i)
				}
			}
		}
	}
}

// listChanges make other lists of the list of a value.
func listChanges(of []api.Octet) []func(v *api.Octet) {
	list := []func(v *api.Octet){
		func(v *api.Octet) { v.List = append(v.List, octet.Num(1, 5)) },
		func(v *api.Octet) { v.List = append(v.List, octet.Seq(133)) },
		func(v *api.Octet) { v.List = append([]api.Octet{octet.Num(1, 5)}, v.List...) },
		func(v *api.Octet) { v.List = []api.Octet{{Tag: v.Tag, List: v.List}} },
	}
	for i := range of {
		list = append(list, func(v *api.Octet) { v.List = slices.Delete(v.List, i, i+1) })
		list = append(list, func(v *api.Octet) { v.List = slices.Insert(v.List, i, v.List[i]) })
		list = append(list, func(v *api.Octet) { v.List[i] = octet.Num(9, 9) })
		if i > 0 && !octet.Same(of[i-1], of[i]) {
			list = append(list, func(v *api.Octet) { v.List[i-1], v.List[i] = v.List[i], v.List[i-1] })
		}
	}
	return list
}

// TestDecodeNumbers writes other bytes where a number is.
func TestDecodeNumbers(t *testing.T) {
	all := encoded(t, authority())
	v, _ := octet.Decode(all)
	list := values(&v)
	// The places of some numbers, with the least and the greatest one that is valid there: Serial, From, To, Height, the flags, the first address of V4, all of As, and Index.
	last := len(list) - 1
	for place, bounds := range map[int][2]uint64{
		2: {1, math.MaxUint64}, 5: {0, 2000}, 6: {1000, 1 << 40}, 8: {0, 4}, 9: {0, 1}, 13: {0, 0}, 14: {0, 11<<24 - 1},
		last - 16: {0, 0}, last - 15: {0, 64498}, last - 13: {2, 64511}, last - 12: {64500, math.MaxUint32 - 2}, last - 10: {64513, math.MaxUint32}, last - 9: {math.MaxUint32, math.MaxUint32},
		last - 2: {0, 0},
	} {
		decoded := func(b []byte) bool { return decodeTree(t, all, place, func(v *api.Octet) { v.Bytes = b }) }
		for _, x := range []uint64{0, 1, 2, 3, 4, 5, 8, 255, 256, 999, 1000, 2000, 2001, 64498, 64499, 64500, 64505, 64511, 64512, 64513, 11<<24 - 1, 11 << 24, 1<<32 - 3, 1<<32 - 2, 1<<32 - 1, 1 << 32, 1<<32 + 1, 1<<32 + 64505, 1<<33 - 1, 1 << 40, 1<<40 + 1, 1 << 63, math.MaxUint64 - 1, math.MaxUint64} {
			if decoded(modelBytes(x)) != (bounds[0] <= x && x <= bounds[1]) {
				t.Error(place, x)
			}
		}
		for _, b := range [][]byte{{0}, {0, 0}, {0, 1}, append([]byte{0}, list[place].Bytes...), make([]byte, 8), {1, 0, 0, 0, 0, 0, 0, 0, 0}, bytes.Repeat([]byte{255}, 9), {0, 0, 0, 0, 0, 0, 0, 0, 1}} {
			if decoded(b) {
				t.Error(place, b)
			}
		}
	}
}

// TestDecodeShorts writes other numbers of bytes where short digests are.
func TestDecodeShorts(t *testing.T) {
	for height := range api.MaxHeight + 1 {
		c := changed(authority(), func(c *api.Cert) { c.Sig = fitting(height, 0) })
		b := encoded(t, c)
		v, _ := octet.Decode(b)
		last := len(values(&v)) - 1
		for n := range 100 {
			write := func(v *api.Octet) { v.Bytes = bytes.Repeat([]byte{7}, n) }
			if decodeTree(t, b, 7, write) != (n == 16) {
				t.Error("root", n)
			}
			if decodeTree(t, b, last, write) != (n%16 == 0 && n <= 4*16) {
				t.Error("path", height, n)
			}
		}
		for n := range 2000 {
			if decodeTree(t, b, last-1, func(v *api.Octet) { v.Bytes = bytes.Repeat([]byte{7}, n) }) != (n == 35*16 || n == 0 && height == 0) {
				t.Error("chains", height, n)
			}
		}
	}
}

// TestDecodeStrings writes other strings where there is one.
func TestDecodeStrings(t *testing.T) {
	b := encoded(t, authority())
	v, _ := octet.Decode(b)
	last := len(values(&v)) - 1
	rsyncFile, httpsFile, dir := "rsync://h/f", "https://h/f", "rsync://h/"
	for place, good := range map[int][]string{3: {"a"}, 4: {"a"}, last - 8: {"", dir}, last - 7: {"", rsyncFile, httpsFile}, last - 6: {"", httpsFile}, last - 5: {"", rsyncFile, httpsFile}, last - 4: {"", rsyncFile, httpsFile}} {
		for _, s := range []string{"", "a", " ", "a b", strings.Repeat("a", 41), dir, rsyncFile, httpsFile, "http://h/f", "rsync://h:873/f", "https://h/f/../g", placed(201, "https://h/", ".cer")} {
			if decodeTree(t, b, place, func(v *api.Octet) { v.Bytes = []byte(s) }) != slices.Contains(good, s) {
				t.Error(place, s)
			}
		}
	}
}

// TestDecodeSpoilt changes bytes of encodings.
func TestDecodeSpoilt(t *testing.T) {
	r := rand.New(rand.NewSource(2))
	n, all := 0, 0
	for _, c := range []api.Cert{minimal(), authority(), heir(), signed(t, authority(), counted(), 1, 1)} {
		b := encoded(t, c)
		for i := range b {
			for _, x := range []byte{b[i] + 1, b[i] - 1, b[i] ^ 128, 0, 255, byte(r.Intn(256))} {
				spoilt := slices.Clone(b)
				spoilt[i] = x
				if accepted(t, spoilt) {
					n++
				}
				all++
			}
			accepted(t, slices.Delete(slices.Clone(b), i, i+1))
			accepted(t, slices.Insert(slices.Clone(b), i, byte(r.Intn(256))))
		}
	}
	if n == 0 || n == all {
		t.Error(n, all)
	}
}

func FuzzDecode(f *testing.F) {
	for _, c := range []api.Cert{minimal(), authority(), heir()} {
		f.Add(modelEncode(c))
	}
	f.Add([]byte{})
	f.Fuzz(func(t *testing.T, b []byte) { accepted(t, b) })
}
