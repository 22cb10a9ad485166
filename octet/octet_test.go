package octet

import (
	"bytes"
	"math"
	"math/rand"
	"slices"
	"testing"

	"gatepath/api"
)

// P8.1

func TestCheckKinds(t *testing.T) {
	for tag := range 256 {
		for _, b := range [][]byte{nil, {}, {0}, {1, 2}} {
			for _, list := range [][]api.Octet{nil, {}, {{Tag: 1}}, {{Tag: 128}, {Tag: 1}}} {
				want := api.ErrBad
				if tag > 0 && tag < 128 && len(list) == 0 || tag >= 128 && len(b) == 0 {
					want = api.OK
				}
				if e := Check(api.Octet{Tag: uint8(tag), Bytes: b, List: list}); e != want {
					t.Error(tag, b, len(list), e)
				}
			}
		}
	}
}

// TestCheckInside puts a value that is not valid at each place of a list of lists.
func TestCheckInside(t *testing.T) {
	for _, bad := range []api.Octet{{}, {Bytes: []byte{1}}, {Tag: 128, Bytes: []byte{1}}, {Tag: 127, List: []api.Octet{{Tag: 1}}}, {Tag: 200, List: []api.Octet{{}}}} {
		for i := range 3 {
			for j := range 3 {
				v := api.Octet{Tag: 130, List: []api.Octet{flat(4), flat(4), flat(4)}}
				if e := Check(v); e != api.OK {
					t.Error(e)
				}
				v.List[i].List[j] = bad
				if e := Check(v); e != api.ErrBad {
					t.Error(i, j, brief(bad), e)
				}
				if e := Check(nested(9, v)); e != api.ErrBad {
					t.Error(i, j, brief(bad), e)
				}
			}
		}
	}
}

func TestCheckValues(t *testing.T) {
	pairs := func(n int) api.Octet {
		v := api.Octet{Tag: 128}
		for range n {
			v.List = append(v.List, flat(2))
		}
		return v
	}
	for _, c := range []struct {
		v    api.Octet
		want api.Errno
	}{
		{flat(3999), api.OK},
		{flat(4000), api.OK},
		{flat(4001), api.ErrMany},
		{flat(1 << 17), api.ErrMany},
		{pairs(1999), api.OK},
		{pairs(2000), api.ErrMany},
		{Seq(129, flat(2000), flat(1999)), api.OK},
		{Seq(129, flat(2000), flat(2000)), api.ErrMany},
		{Seq(129, flat(1), flat(3999)), api.ErrMany},
		{nested(12, flat(1)), api.OK},
		{nested(11, flat(3990)), api.OK},
		{nested(11, flat(3991)), api.ErrMany},
	} {
		if e := Check(c.v); e != c.want || modelCheck(c.v) != c.want {
			t.Error(brief(c.v), e, c.want)
		}
	}
}

func TestCheckDepth(t *testing.T) {
	for depth := 1; depth < 30; depth++ {
		want := api.OK
		if depth > 12 {
			want = api.ErrMany
		}
		for _, v := range []api.Octet{{Tag: 1}, {Tag: 1, Bytes: []byte{5}}, {Tag: 255}} {
			deep := nested(depth, v)
			if e := Check(deep); e != want {
				t.Error(depth, e)
			}
			if e := Check(api.Octet{Tag: 128, List: []api.Octet{{Tag: 1}, deep, {Tag: 1}}}); (e == api.OK) != (depth < 12) || e != api.OK && e != api.ErrMany {
				t.Error(depth, e)
			}
		}
	}
	if e := Check(nested(1<<16, api.Octet{})); e != api.ErrMany {
		t.Error(e)
	}
}

func TestCheckSize(t *testing.T) {
	for n := 65500; n < 65540; n++ {
		want := api.OK
		if n > 65536 {
			want = api.ErrMany
		}
		for _, v := range []api.Octet{sized(1, n), Seq(128, sized(1, n-4)), Seq(128, sized(1, 131), sized(1, 260), sized(1, 3), sized(1, n-4-131-260-3)), nested(12, sized(2, n-44))} {
			if e := Check(v); e != want || len(modelEncode(v)) != n {
				t.Error(n, brief(v), e)
			}
		}
	}
	for _, n := range []int{1 << 17, 1 << 20, 1 << 24} {
		if e := Check(api.Octet{Tag: 1, Bytes: make([]byte, n)}); e != api.ErrMany {
			t.Error(n, e)
		}
	}
	long := api.Octet{Tag: 1, Bytes: make([]byte, 1<<24)}
	if e := Check(api.Octet{Tag: 128, List: slices.Repeat([]api.Octet{long}, 3999)}); e != api.ErrMany {
		t.Error(e)
	}
}

// TestCheckOrder has values that are wrong in several ways.
func TestCheckOrder(t *testing.T) {
	long := make([]byte, 70000)
	for _, c := range []struct {
		v    api.Octet
		want api.Errno
	}{
		{api.Octet{List: slices.Repeat([]api.Octet{{}}, 4000)}, api.ErrMany},
		{api.Octet{Tag: 5, List: slices.Repeat([]api.Octet{{Tag: 1}}, 4000)}, api.ErrMany},
		{api.Octet{Tag: 128, Bytes: []byte{1}, List: flat(4001).List}, api.ErrMany},
		{nested(13, api.Octet{}), api.ErrMany},
		{nested(12, api.Octet{Tag: 1, List: []api.Octet{{Tag: 1}}}), api.ErrMany},
		{nested(11, api.Octet{Tag: 1, List: []api.Octet{{Tag: 1}}}), api.ErrBad},
		{api.Octet{List: []api.Octet{nested(12, api.Octet{Tag: 1})}}, api.ErrMany},
		{api.Octet{Bytes: long, List: []api.Octet{nested(12, api.Octet{Tag: 1})}}, api.ErrMany},
		{api.Octet{List: slices.Repeat([]api.Octet{{}}, 3999)}, api.ErrBad},
		{nested(12, api.Octet{}), api.ErrBad},
		{api.Octet{Bytes: long}, api.ErrBad},
		{api.Octet{Tag: 128, Bytes: long}, api.ErrBad},
		{Seq(128, api.Octet{Tag: 1, Bytes: long}, api.Octet{}), api.ErrBad},
		{Seq(128, api.Octet{Tag: 1, Bytes: long}, api.Octet{Tag: 1}), api.ErrMany},
	} {
		if e := Check(c.v); e != c.want {
			t.Error(brief(c.v), e, c.want)
		}
		if b, e := Encode(c.v); e != c.want || len(b) != 0 {
			t.Error(brief(c.v), len(b), e, c.want)
		}
	}
}

// TestCheckEndless has lists that are elements of themselves, and lists of few elements that are many values.
func TestCheckEndless(t *testing.T) {
	for _, tag := range []uint8{0, 1, 128} {
		list := make([]api.Octet, 3)
		for i := range list {
			list[i] = api.Octet{Tag: tag, List: list}
		}
		wide := make([]api.Octet, 5000)
		wide[0] = api.Octet{Tag: tag, List: wide}
		wide[4999] = wide[0]
		double := api.Octet{Tag: tag}
		for range 60 {
			double = api.Octet{Tag: tag, List: []api.Octet{double, double}}
		}
		for _, v := range []api.Octet{list[0], wide[0], double} {
			b, e := Encode(v)
			if Check(v) != api.ErrMany || e != api.ErrMany || len(b) != 0 {
				t.Error(tag, e)
			}
		}
	}
	double := api.Octet{Tag: 128}
	for depth := 1; depth <= 13; depth++ {
		if e := Check(double); (e == api.OK) != (depth <= 11) || e != api.OK && e != api.ErrMany {
			t.Error(depth, e)
		}
		double = api.Octet{Tag: 128, List: []api.Octet{double, double}}
	}
}

func TestCheckModel(t *testing.T) {
	for _, v := range anyValues() {
		want := modelCheck(v)
		if e := Check(v); e != want {
			t.Fatal(brief(v), e, want)
		}
		b, e := Encode(v)
		if e != want || want != api.OK && len(b) != 0 || want == api.OK && !bytes.Equal(b, modelEncode(v)) {
			t.Fatal(brief(v), len(b), e, want)
		}
	}
}

// P8.2

func TestKnownEncodings(t *testing.T) {
	for _, c := range []struct {
		v api.Octet
		b []byte
	}{
		{api.Octet{Tag: 1}, []byte{1, 0}},
		{api.Octet{Tag: 127}, []byte{127, 0}},
		{api.Octet{Tag: 128}, []byte{128, 0}},
		{api.Octet{Tag: 255}, []byte{255, 0}},
		{Num(2, 300), []byte{2, 2, 1, 44}},
		{Num(3, math.MaxUint64), []byte{3, 8, 255, 255, 255, 255, 255, 255, 255, 255}},
		{api.Octet{Tag: 7, Bytes: []byte{0, 0}}, []byte{7, 2, 0, 0}},
		{Seq(130, Num(2, 0), Str(3, "a")), []byte{130, 5, 2, 0, 3, 1, 97}},
		{Seq(128, Seq(129, Str(4, "hi")), Num(5, 5)), []byte{128, 9, 129, 4, 4, 2, 'h', 'i', 5, 1, 5}},
		{Seq(128, Seq(128), Seq(128, Seq(128))), []byte{128, 6, 128, 0, 128, 2, 128, 0}},
	} {
		if b := encoded(t, c.v); !bytes.Equal(b, c.b) {
			t.Error(brief(c.v), b)
		}
		checkDecode(t, c.b, c.v, true)
	}
}

func TestLengths(t *testing.T) {
	for _, c := range []struct {
		n      int
		length []byte
	}{
		{0, []byte{0}}, {1, []byte{1}}, {126, []byte{126}}, {127, []byte{127}},
		{128, []byte{129, 128}}, {129, []byte{129, 129}}, {200, []byte{129, 200}}, {255, []byte{129, 255}},
		{256, []byte{130, 1, 0}}, {257, []byte{130, 1, 1}}, {1000, []byte{130, 3, 232}}, {65532, []byte{130, 255, 252}},
	} {
		content := bytes.Repeat([]byte{5}, c.n)
		b := slices.Concat([]byte{9}, c.length, content)
		v := api.Octet{Tag: 9, Bytes: content}
		if !bytes.Equal(encoded(t, v), b) {
			t.Error(c.n)
		}
		checkDecode(t, b, v, true)
	}
	for n := range 131 {
		list := Seq(200, slices.Repeat([]api.Octet{{Tag: 3}}, n)...)
		b := encoded(t, list)
		if len(b) != 2*n+2 && n < 64 || len(b) != 2*n+3 && n >= 64 && n < 128 || len(b) != 2*n+4 && n >= 128 {
			t.Error(n, len(b))
		}
		checkDecode(t, b, list, true)
	}
}

// TestWrongLengths writes lengths in other ways than the one.
func TestWrongLengths(t *testing.T) {
	for _, n := range []int{0, 1, 5, 127, 128, 200, 255, 256, 300, 40000} {
		content := bytes.Repeat([]byte{1, 0}, n)[:n]
		shortest := modelLength(n)
		for k := range 128 {
			length := []byte{byte(128 + k)}
			for i := k - 1; i >= 0; i-- {
				length = append(length, byte(uint64(n)>>(8*i)))
			}
			for _, tag := range []byte{9, 129} {
				if b := slices.Concat([]byte{tag}, length, content); !bytes.Equal(length, shortest) {
					checkDecode(t, b, api.Octet{}, false)
				}
			}
		}
	}
	tail := make([]byte, 300)
	for k := range 128 {
		for _, c := range []byte{0, 1, 127, 128, 255} {
			length := append([]byte{5, byte(128 + k)}, bytes.Repeat([]byte{c}, k)...)
			for _, left := range [][]byte{nil, tail[:1], tail[:127], tail} {
				if k == 1 && c >= 128 && int(c) == len(left) || k == 2 && c == 1 && len(left) == 257 {
					continue
				}
				checkDecode(t, slices.Concat(length, left), api.Octet{}, false)
			}
		}
	}
	for _, b := range [][]byte{
		{2, 129, 5, 0, 0, 0, 0, 0}, {2, 2, 1}, {}, {0}, {1}, {255}, {1, 1}, {0, 0}, {0, 1, 5}, {1, 128}, {1, 128, 0}, {128, 128},
		{1, 136, 255, 255, 255, 255, 255, 255, 255, 255}, {1, 136, 128, 0, 0, 0, 0, 0, 0, 0}, {1, 136, 127, 255, 255, 255, 255, 255, 255, 255},
		{1, 137, 1, 0, 0, 0, 0, 0, 0, 0, 0}, {1, 137, 1, 0, 0, 0, 0, 0, 0, 0, 200}, {1, 132, 255, 255, 255, 255}, {1, 132, 128, 0, 0, 0},
	} {
		checkDecode(t, b, api.Octet{}, false)
	}
	// A length that is right only in its last 64 bits.
	b := append([]byte{1, 137, 1, 0, 0, 0, 0, 0, 0, 0, 200}, make([]byte, 200)...)
	checkDecode(t, b, api.Octet{}, false)
}

// letters are the bytes of which TestDecodeEverything makes all strings of up to mostLetters.
var letters = []byte{0, 1, 2, 3, 4, 127, 128, 129, 255}

const mostLetters = 6

// ofSize returns all valid values whose encodings have n of the letters, of at most mostLetters; for more than 4 bytes of content there is no letter.
func ofSize(n int) []api.Octet {
	var out []api.Octet
	if n < 2 || !slices.Contains(letters, byte(n-2)) {
		return nil
	}
	for _, tag := range letters {
		switch {
		case tag >= 128:
			for _, list := range listsOfSize(n - 2) {
				out = append(out, api.Octet{Tag: tag, List: list})
			}
		case tag > 0:
			for _, b := range stringsOfSize(n - 2) {
				out = append(out, api.Octet{Tag: tag, Bytes: b})
			}
		}
	}
	return out
}

func listsOfSize(n int) [][]api.Octet {
	if n == 0 {
		return [][]api.Octet{nil}
	}
	var out [][]api.Octet
	for first := 1; first <= n; first++ {
		for _, v := range ofSize(first) {
			for _, rest := range listsOfSize(n - first) {
				out = append(out, append([]api.Octet{v}, rest...))
			}
		}
	}
	return out
}

func stringsOfSize(n int) [][]byte {
	if n == 0 {
		return [][]byte{nil}
	}
	var out [][]byte
	for _, rest := range stringsOfSize(n - 1) {
		for _, c := range letters {
			out = append(out, append([]byte{c}, rest...))
		}
	}
	return out
}

func TestDecodeEverything(t *testing.T) {
	for n := range mostLetters + 1 {
		values := map[string]api.Octet{}
		for _, v := range ofSize(n) {
			values[string(encoded(t, v))] = v
		}
		if len(values) != len(ofSize(n)) {
			t.Error(n, "two values of one encoding")
		}
		for _, b := range stringsOfSize(n) {
			v, is := values[string(b)]
			checkDecode(t, b, v, is)
		}
	}
}

// TestDecodeCut cuts encodings off, and puts something behind them.
func TestDecodeCut(t *testing.T) {
	for _, v := range someValues() {
		b := encoded(t, v)
		for n := 0; n < len(b); n += 1 + len(b)/100 {
			checkDecode(t, b[:n], api.Octet{}, false)
		}
		checkDecode(t, b[:len(b)-1], api.Octet{}, false)
		if len(b) < api.MaxOctets-2 {
			checkDecode(t, append(slices.Clone(b), 0), api.Octet{}, false)
			checkDecode(t, append(slices.Clone(b), 1, 0), api.Octet{}, false)
		}
	}
	// An element that ends behind its list, though not behind all bytes.
	checkDecode(t, []byte{128, 5, 129, 3, 1, 2, 0}, api.Octet{}, false)
	checkDecode(t, []byte{128, 6, 129, 2, 1, 2, 0, 0}, api.Octet{}, false)
	checkDecode(t, []byte{128, 6, 129, 4, 1, 2, 0, 0}, Seq(128, Seq(129, Str(1, "\x00\x00"))), true)
}

// TestDecodeSpoilt changes encodings: whatever is accepted still is the encoding of the result.
func TestDecodeSpoilt(t *testing.T) {
	r := rand.New(rand.NewSource(4))
	accepted := 0
	for _, v := range someValues() {
		for range 20 {
			b := encoded(t, v)
			b[r.Intn(min(len(b), 40))] = []byte{0, 1, 2, 128, 129, 130, 255, byte(r.Intn(256))}[r.Intn(8)]
			x, e := Decode(b)
			if e == api.OK && bytes.Equal(modelEncode(x), b) && modelCheck(x) == api.OK {
				accepted++
			} else if e != api.ErrForm || !isZero(x) {
				t.Fatal(brief(v), brief(x), e)
			}
		}
	}
	if accepted == 0 {
		t.Error("nothing was accepted")
	}
}

func TestDecodeLimits(t *testing.T) {
	for _, n := range []int{65535, 65536} {
		checkDecode(t, modelEncode(sized(1, n)), sized(1, n), true)
	}
	for _, b := range [][]byte{modelEncode(sized(1, 65537)), make([]byte, 65537), make([]byte, 1<<20), bytes.Repeat([]byte{255}, 65537)} {
		if v, e := Decode(b); e != api.ErrMany || !isZero(v) {
			t.Error(len(b), brief(v), e)
		}
	}
	for _, b := range [][]byte{make([]byte, 65536), bytes.Repeat([]byte{255}, 65536), bytes.Repeat([]byte{128}, 65536), bytes.Repeat([]byte{1}, 65536)} {
		checkDecode(t, b, api.Octet{}, false)
	}
	for _, values := range []int{3999, 4000, 4001, 32000} {
		checkDecode(t, modelEncode(flat(values)), flat(values), values <= 4000)
	}
	for depth := 1; depth < 20; depth++ {
		for _, v := range []api.Octet{{Tag: 1, Bytes: []byte{5}}, {Tag: 128}} {
			checkDecode(t, modelEncode(nested(depth, v)), nested(depth, v), depth <= 12)
		}
	}
	// Lists in lists, written from the last byte on: about 16,000 of them.
	deep, at := make([]byte, 65536), 65534
	deep[at] = 1
	for at >= 4 {
		header := append([]byte{128}, modelLength(65536-at)...)
		at -= copy(deep[at-len(header):], header)
	}
	checkDecode(t, deep[at:], api.Octet{}, false)
	inside := Seq(128, Num(1, 1), api.Octet{}, Num(1, 1))
	checkDecode(t, modelEncode(inside), api.Octet{}, false)
}

// P8.3

func TestNum(t *testing.T) {
	for _, x := range edgeNumbers() {
		for _, tag := range edgeTags() {
			v := Num(tag, x)
			if v.Tag != tag || !bytes.Equal(v.Bytes, modelBytes(x)) || len(v.List) != 0 {
				t.Error(tag, x, brief(v))
			}
		}
	}
	if v := Num(9, 65536); !bytes.Equal(v.Bytes, []byte{1, 0, 0}) {
		t.Error(brief(v))
	}
	if v := Num(9, 0); len(v.Bytes) != 0 {
		t.Error(brief(v))
	}
}

func TestStr(t *testing.T) {
	for _, s := range []string{"", "a", "\x00", "\xff\xfe", "gatepath", "é", string(make([]byte, 1000)), string(make([]byte, 70000))} {
		for _, tag := range edgeTags() {
			if v := Str(tag, s); v.Tag != tag || string(v.Bytes) != s || len(v.List) != 0 {
				t.Error(tag, len(s), brief(v))
			}
		}
	}
}

func TestSeq(t *testing.T) {
	values := anyValues()
	for _, tag := range edgeTags() {
		for n := range 5 {
			v := Seq(tag, values[n:2*n]...)
			if v.Tag != tag || len(v.Bytes) != 0 || len(v.List) != n || showAll(v.List) != showAll(values[n:2*n]) {
				t.Error(tag, n, brief(v))
			}
		}
		if v := Seq(tag); v.Tag != tag || len(v.Bytes) != 0 || len(v.List) != 0 {
			t.Error(tag, brief(v))
		}
	}
	if v := Seq(130, values...); showAll(v.List) != showAll(values) {
		t.Error("another list")
	}
}

// P8.4

func TestReadNum(t *testing.T) {
	for _, x := range edgeNumbers() {
		for _, tag := range edgeTags() {
			for _, most := range []uint64{x, math.MaxUint64, x/2 + x/4, x - 1, x + 1, 0} {
				y, e := ReadNum(Num(tag, x), tag, most)
				if x <= most && (y != x || e != api.OK) || x > most && (y != 0 || e != api.ErrForm) {
					t.Error(x, tag, most, y, e)
				}
			}
			if y, e := ReadNum(Num(tag, x), tag+1, math.MaxUint64); y != 0 || e != api.ErrForm {
				t.Error(x, tag, y, e)
			}
		}
	}
	for _, v := range []api.Octet{
		{Tag: 2, Bytes: []byte{0}}, {Tag: 2, Bytes: []byte{0, 5}}, {Tag: 2, Bytes: []byte{0, 0}}, {Tag: 2, Bytes: []byte{0, 1, 2, 3, 4, 5, 6, 7}}, {Tag: 2, Bytes: []byte{0, 255, 255, 255, 255, 255, 255, 255, 255}},
		{Tag: 2, Bytes: []byte{1, 0, 0, 0, 0, 0, 0, 0, 0}}, {Tag: 2, Bytes: []byte{1, 0, 0, 0, 0, 0, 0, 0, 5}}, {Tag: 2, Bytes: make([]byte, 100)}, {Tag: 2, Bytes: bytes.Repeat([]byte{255}, 70000)},
		{Tag: 2, List: []api.Octet{{}}}, {Tag: 2, Bytes: []byte{5}, List: []api.Octet{{Tag: 1}}}, {Tag: 3, Bytes: []byte{5}}, {Bytes: []byte{5}},
	} {
		if x, e := ReadNum(v, 2, math.MaxUint64); x != 0 || e != api.ErrForm {
			t.Error(brief(v), x, e)
		}
	}
	if x, e := ReadNum(api.Octet{Tag: 2, Bytes: []byte{5}, List: []api.Octet{}}, 2, 5); x != 5 || e != api.OK {
		t.Error(x, e)
	}
}

func TestReadStr(t *testing.T) {
	for _, s := range []string{"", "a", "\x00", "\x00\x00\x05", "\xff\xfe", "gatepath", string(make([]byte, 70000))} {
		for _, tag := range edgeTags() {
			for _, most := range []int{len(s), len(s) + 1, math.MaxInt, len(s) - 1, 0, -1, math.MinInt} {
				x, e := ReadStr(Str(tag, s), tag, most)
				if len(s) <= most && (x != s || e != api.OK) || len(s) > most && (x != "" || e != api.ErrForm) {
					t.Error(len(s), tag, most, len(x), e)
				}
			}
			if x, e := ReadStr(Str(tag, s), tag-1, math.MaxInt); x != "" || e != api.ErrForm {
				t.Error(len(s), tag, len(x), e)
			}
		}
		if x, e := ReadStr(api.Octet{Tag: 3, Bytes: []byte(s), List: []api.Octet{{Tag: 1}}}, 3, math.MaxInt); x != "" || e != api.ErrForm {
			t.Error(len(s), len(x), e)
		}
		if x, e := ReadStr(api.Octet{Tag: 3, Bytes: []byte(s), List: []api.Octet{}}, 3, math.MaxInt); x != s || e != api.OK {
			t.Error(len(s), len(x), e)
		}
	}
}

func TestReadSeq(t *testing.T) {
	bounds := []int{math.MinInt, -1, 0, 1, 2, 3, 4, 5, math.MaxInt}
	for _, tag := range edgeTags() {
		for n := range 5 {
			v := Seq(tag, anyValues()[:n]...)
			for _, least := range bounds {
				for _, most := range bounds {
					list, e := ReadSeq(v, tag, least, most)
					is := least <= n && n <= most
					if is && (e != api.OK || showAll(list) != showAll(v.List)) || !is && (e != api.ErrForm || len(list) != 0) {
						t.Error(tag, n, least, most, len(list), e)
					}
				}
			}
			if list, e := ReadSeq(v, tag+1, 0, 9); e != api.ErrForm || len(list) != 0 {
				t.Error(tag, n, len(list), e)
			}
			v.Bytes = []byte{}
			if list, e := ReadSeq(v, tag, 0, 9); e != api.OK || len(list) != n {
				t.Error(tag, n, len(list), e)
			}
			v.Bytes = []byte{0}
			if list, e := ReadSeq(v, tag, 0, 9); e != api.ErrForm || len(list) != 0 {
				t.Error(tag, n, len(list), e)
			}
		}
	}
}

// P8.5

func TestSame(t *testing.T) {
	values := anyValues()[:300]
	for i, a := range values {
		for _, b := range values[i/2:] {
			if want := show(a) == show(b); Same(a, b) != want || Same(b, a) != want {
				t.Fatal(brief(a), brief(b), want)
			}
		}
	}
	for _, v := range anyValues() {
		if !Same(v, v) {
			t.Error(brief(v))
		}
	}
	base := api.Octet{Tag: 3, Bytes: []byte{1, 2}, List: []api.Octet{{Tag: 4}, {Tag: 130, List: []api.Octet{{Tag: 1, Bytes: []byte{7}}}}}}
	for i, change := range []func(v *api.Octet){
		func(v *api.Octet) { v.Tag = 4 },
		func(v *api.Octet) { v.Bytes = nil },
		func(v *api.Octet) { v.Bytes = []byte{1, 3} },
		func(v *api.Octet) { v.Bytes = []byte{1, 2, 0} },
		func(v *api.Octet) { v.Bytes = []byte{1} },
		func(v *api.Octet) { v.List = nil },
		func(v *api.Octet) { v.List = v.List[:1] },
		func(v *api.Octet) { v.List = append(v.List, api.Octet{}) },
		func(v *api.Octet) { v.List[0], v.List[1] = v.List[1], v.List[0] },
		func(v *api.Octet) { v.List[1].Tag = 131 },
		func(v *api.Octet) { v.List[1].List[0].Bytes[0] = 8 },
		func(v *api.Octet) { v.List[1].List[0].List = []api.Octet{{}} },
	} {
		other := Twin(base)
		if !Same(base, other) {
			t.Error(i)
		}
		change(&other)
		if Same(base, other) || Same(other, base) {
			t.Error(i, brief(other))
		}
	}
}

func TestSameEmpty(t *testing.T) {
	for _, tag := range edgeTags() {
		a := api.Octet{Tag: tag, Bytes: []byte{}, List: []api.Octet{{Tag: 1, Bytes: []byte{}, List: []api.Octet{}}}}
		b := api.Octet{Tag: tag, List: []api.Octet{{Tag: 1}}}
		if !Same(a, b) || !Same(b, a) || !Same(Twin(a), b) {
			t.Error(tag)
		}
		if !Same(api.Octet{Tag: tag, List: []api.Octet{}}, Seq(tag)) || !Same(api.Octet{Tag: tag, Bytes: []byte{}}, Num(tag, 0)) {
			t.Error(tag)
		}
	}
}

func TestTwin(t *testing.T) {
	for _, v := range anyValues() {
		if x := Twin(v); show(x) != show(v) || !Same(x, v) {
			t.Error(brief(v), brief(x))
		}
	}
}

func TestVeryDeep(t *testing.T) {
	v := nested(1<<16, api.Octet{Tag: 1, Bytes: []byte{5}})
	x := Twin(v)
	list, e := ReadSeq(v, 200, 1, 1)
	if !Same(v, x) || e != api.OK || !Same(Seq(200, list...), v) || Same(v, list[0]) {
		t.Error(e)
	}
}

// P8.6

func TestThereAndBack(t *testing.T) {
	for _, v := range someValues() {
		checkDecode(t, encoded(t, v), v, true)
	}
}

func TestNoBeginnings(t *testing.T) {
	var list [][]byte
	for n := range mostLetters {
		for _, v := range ofSize(n) {
			list = append(list, encoded(t, v))
		}
	}
	for _, v := range someValues() {
		list = append(list, encoded(t, v))
	}
	// In the order of bytes, what begins with an encoding follows it at once.
	slices.SortFunc(list, bytes.Compare)
	for i := 1; i < len(list); i++ {
		if bytes.HasPrefix(list[i], list[i-1]) && len(list[i]) > len(list[i-1]) {
			t.Fatal(list[i-1], list[i])
		}
	}
}

// TestReadDecoded reads from what was decoded what was given.
func TestReadDecoded(t *testing.T) {
	for i, x := range edgeNumbers() {
		s := string(someBytes(rand.New(rand.NewSource(int64(i))), i))
		v, e := Decode(encoded(t, Seq(128, Num(1, x), Str(2, s), Seq(129, Str(3, s), Num(4, x)))))
		list, f := ReadSeq(v, 128, 3, 3)
		if e != api.OK || f != api.OK {
			t.Fatal(i, e, f)
		}
		inner, e := ReadSeq(list[2], 129, 2, 2)
		if e != api.OK {
			t.Fatal(i, e)
		}
		for _, pair := range [][]api.Octet{{list[0], list[1]}, {inner[1], inner[0]}} {
			y, e := ReadNum(pair[0], pair[0].Tag, x)
			r, f := ReadStr(pair[1], pair[1].Tag, len(s))
			if y != x || e != api.OK || r != s || f != api.OK {
				t.Error(i, y, e, f)
			}
		}
	}
}

func FuzzDecode(f *testing.F) {
	for _, b := range [][]byte{{}, {1, 0}, {2, 2, 1, 44}, {130, 5, 2, 0, 3, 1, 97}, {2, 129, 5, 0, 0, 0, 0, 0}, {2, 2, 1}, append([]byte{1, 129, 200}, make([]byte, 200)...), append([]byte{200, 130, 1, 0}, make([]byte, 256)...)} {
		f.Add(b)
	}
	f.Fuzz(func(t *testing.T, b []byte) {
		v, e := Decode(b)
		switch {
		case e == api.OK && modelCheck(v) == api.OK && bytes.Equal(modelEncode(v), b):
		case e == api.ErrForm && len(b) <= api.MaxOctets && isZero(v):
		case e == api.ErrMany && len(b) > api.MaxOctets && isZero(v):
		default:
			t.Fatal(b, brief(v), e)
		}
	})
}
