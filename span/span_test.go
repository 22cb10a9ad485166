package span

import (
	"math"
	"math/big"
	"math/rand"
	"slices"
	"strings"
	"testing"

	"gatepath/api"
	"gatepath/number"
)

const most = math.MaxUint64

var (
	families = []uint8{api.Family4, api.Family6}
	widths   = map[uint8]int{api.Family4: 32, api.Family6: 128}
)

// greatestOf is the greatest address of a family.
func greatestOf(family uint8) api.Addr {
	if family == api.Family4 {
		return api.Addr{Low: 1<<32 - 1}
	}
	return api.Addr{High: most, Low: most}
}

// edgeAddrs are addresses around the limits of both families and of words.
func edgeAddrs() []api.Addr {
	words := []uint64{0, 1, 2, 3, 1<<31 - 1, 1 << 31, 1<<32 - 2, 1<<32 - 1, 1 << 32, 1<<63 - 1, 1 << 63, most - 1, most}
	var out []api.Addr
	for _, high := range words {
		for _, low := range words {
			out = append(out, api.Addr{High: high, Low: low})
		}
	}
	return out
}

func big128(a api.Addr) *big.Int {
	n := new(big.Int).SetUint64(a.High)
	return n.Add(n.Lsh(n, 64), new(big.Int).SetUint64(a.Low))
}

func fromBig(n *big.Int) api.Addr {
	low := new(big.Int).And(n, new(big.Int).SetUint64(most))
	return api.Addr{High: new(big.Int).Rsh(n, 64).Uint64(), Low: low.Uint64()}
}

// inFamily reports, without package number, whether there is this family and a is an address of it.
func inFamily(family uint8, a api.Addr) bool {
	return widths[family] > 0 && big128(a).BitLen() <= widths[family]
}

// someAddr returns an address of the family with runs of bits that are equal, so that long prefixes, short ones and neighbours occur.
func someAddr(r *rand.Rand, family uint8) api.Addr {
	n := new(big.Int)
	for bits := widths[family]; bits > 0; {
		run := min(1+r.Intn(40), bits)
		n.Lsh(n, uint(run))
		switch r.Intn(3) {
		case 0:
			n.Or(n, new(big.Int).SetUint64(1<<run-1))
		case 1:
			n.Or(n, new(big.Int).SetUint64(r.Uint64()>>(64-run)))
		}
		bits -= run
	}
	return fromBig(n)
}

func someSpan(r *rand.Rand, family uint8) api.Span {
	a, b := someAddr(r, family), someAddr(r, family)
	switch r.Intn(4) {
	case 0: // two that have much in common
		p, _ := number.Cut(family, a, r.Intn(widths[family]+1))
		s, _ := Of(p)
		for range r.Intn(3) {
			if n, is := Next(family, s.From); is && number.Compare(n, s.To) <= 0 {
				s.From = n
			}
		}
		return s
	case 1:
		b = fromBig(new(big.Int).Add(big128(a), big.NewInt(int64(r.Intn(1000)))))
		if !inFamily(family, b) {
			b = greatestOf(family)
		}
	}
	if number.Compare(a, b) > 0 {
		a, b = b, a
	}
	return api.Span{From: a, To: b}
}

func span4(from, to uint64) api.Span {
	return api.Span{From: api.Addr{Low: from}, To: api.Addr{Low: to}}
}

func prefix(t *testing.T, s string) api.Prefix {
	t.Helper()
	p, e := number.Parse(s)
	if e != api.OK {
		t.Fatalf("%q: %v", s, e)
	}
	return p
}

// ends returns the span from one address to another, and their family.
func ends(t *testing.T, from, to string) (uint8, api.Span) {
	t.Helper()
	f, a, e := number.AddrParse(from)
	g, b, h := number.AddrParse(to)
	if e != api.OK || h != api.OK || f != g {
		t.Fatalf("%q %q: %v %v", from, to, e, h)
	}
	return f, api.Span{From: a, To: b}
}

func texts(list []api.Prefix) string {
	var out []string
	for _, p := range list {
		s, _ := number.Text(p)
		out = append(out, s)
	}
	return strings.Join(out, " ")
}

// invalidSpans are arguments that Check refuses, with its errors.
func invalidSpans() []struct {
	family uint8
	s      api.Span
	e      api.Errno
} {
	high := api.Span{To: api.Addr{High: 1}}
	return []struct {
		family uint8
		s      api.Span
		e      api.Errno
	}{
		{0, span4(1, 2), api.ErrArg}, {0, api.Span{}, api.ErrArg}, {5, span4(1, 2), api.ErrArg}, {255, span4(1, 2), api.ErrArg},
		{0, span4(2, 1), api.ErrArg}, {32, span4(2, 1), api.ErrArg}, {10, span4(most, 0), api.ErrArg},
		{4, span4(2, 1), api.ErrBad}, {6, span4(2, 1), api.ErrBad}, {4, span4(1<<32-1, 0), api.ErrBad},
		{4, span4(0, 1<<32), api.ErrBad}, {4, span4(1<<32, 1<<32), api.ErrBad}, {4, span4(1<<32, 0), api.ErrBad}, {4, high, api.ErrBad},
		{4, api.Span{From: api.Addr{High: 1}, To: api.Addr{High: 1}}, api.ErrBad}, {4, api.Span{From: api.Addr{High: 1}, To: api.Addr{Low: 5}}, api.ErrBad},
		{6, api.Span{From: api.Addr{High: 1}, To: api.Addr{Low: most}}, api.ErrBad}, {6, api.Span{From: api.Addr{High: 1, Low: 1}, To: api.Addr{High: 1}}, api.ErrBad},
		{6, api.Span{From: api.Addr{High: most, Low: most}}, api.ErrBad},
	}
}

// P2.1

func TestCheck(t *testing.T) {
	for _, c := range invalidSpans() {
		if e := Check(c.family, c.s); e != c.e {
			t.Error(c, e)
		}
	}
	for _, s := range []api.Span{{}, span4(0, 1<<32-1), span4(5, 5), span4(5, 6), span4(1<<32-1, 1<<32-1)} {
		for _, family := range families {
			if e := Check(family, s); e != api.OK {
				t.Error(family, s, e)
			}
		}
	}
}

func TestCheckOfAll(t *testing.T) {
	for f := range 256 {
		family := uint8(f)
		for _, a := range edgeAddrs() {
			for _, b := range edgeAddrs() {
				want := api.OK
				if widths[family] == 0 {
					want = api.ErrArg
				} else if !inFamily(family, a) || !inFamily(family, b) || big128(a).Cmp(big128(b)) > 0 {
					want = api.ErrBad
				}
				if e := Check(family, api.Span{From: a, To: b}); e != want {
					t.Fatal(family, a, b, e, want)
				}
			}
		}
	}
}

func TestNext(t *testing.T) {
	for _, c := range []struct {
		family  uint8
		a, next api.Addr
		is      bool
	}{
		{4, api.Addr{}, api.Addr{Low: 1}, true}, {4, api.Addr{Low: 1<<32 - 2}, api.Addr{Low: 1<<32 - 1}, true}, {4, api.Addr{Low: 1<<32 - 1}, api.Addr{}, false}, {4, api.Addr{Low: 1 << 32}, api.Addr{}, false}, {4, api.Addr{High: 1}, api.Addr{}, false}, {4, api.Addr{High: most, Low: most}, api.Addr{}, false}, {4, api.Addr{Low: most}, api.Addr{}, false},
		{6, api.Addr{Low: 1<<32 - 1}, api.Addr{Low: 1 << 32}, true}, {6, api.Addr{Low: most}, api.Addr{High: 1}, true}, {6, api.Addr{High: most, Low: most - 1}, api.Addr{High: most, Low: most}, true}, {6, api.Addr{High: most, Low: most}, api.Addr{}, false},
		{0, api.Addr{}, api.Addr{}, false}, {5, api.Addr{Low: 1}, api.Addr{}, false},
	} {
		if a, is := Next(c.family, c.a); a != c.next || is != c.is {
			t.Error(c, a, is)
		}
	}
}

func TestStepsOfAll(t *testing.T) {
	one := big.NewInt(1)
	for f := range 256 {
		family := uint8(f)
		for _, a := range edgeAddrs() {
			want, is := api.Addr{}, inFamily(family, a) && a != greatestOf(family)
			if is {
				want = fromBig(new(big.Int).Add(big128(a), one))
			}
			if got, has := Next(family, a); got != want || has != is {
				t.Fatal("next", family, a, got, has)
			}
		}
	}
	for _, a := range edgeAddrs() {
		want, is := api.Addr{}, a != api.Addr{}
		if is {
			want = fromBig(new(big.Int).Sub(big128(a), one))
		}
		if got, has := Prev(a); got != want || has != is {
			t.Fatal("prev", a, got, has)
		}
	}
}

func TestPrev(t *testing.T) {
	for _, c := range []struct {
		a, prev api.Addr
		is      bool
	}{
		{api.Addr{}, api.Addr{}, false}, {api.Addr{Low: 1}, api.Addr{}, true}, {api.Addr{Low: 1 << 32}, api.Addr{Low: 1<<32 - 1}, true}, {api.Addr{High: 1}, api.Addr{Low: most}, true}, {api.Addr{High: 1, Low: 1}, api.Addr{High: 1}, true}, {api.Addr{High: most}, api.Addr{High: most - 1, Low: most}, true}, {api.Addr{High: most, Low: most}, api.Addr{High: most, Low: most - 1}, true},
	} {
		if a, is := Prev(c.a); a != c.prev || is != c.is {
			t.Error(c, a, is)
		}
	}
}

// P2.2

func TestOf(t *testing.T) {
	for _, c := range []struct{ p, from, to string }{
		{"0.0.0.0/0", "0.0.0.0", "255.255.255.255"}, {"128.0.0.0/1", "128.0.0.0", "255.255.255.255"}, {"10.0.0.0/8", "10.0.0.0", "10.255.255.255"}, {"10.0.0.0/24", "10.0.0.0", "10.0.0.255"}, {"1.2.3.4/31", "1.2.3.4", "1.2.3.5"}, {"1.2.3.4/32", "1.2.3.4", "1.2.3.4"},
		{"::/0", "::", "ffff:ffff:ffff:ffff:ffff:ffff:ffff:ffff"}, {"fe80::/10", "fe80::", "febf:ffff:ffff:ffff:ffff:ffff:ffff:ffff"}, {"1:2:3:4::/63", "1:2:3:4::", "1:2:3:5:ffff:ffff:ffff:ffff"}, {"1:2:3:4::/64", "1:2:3:4::", "1:2:3:4:ffff:ffff:ffff:ffff"}, {"1:2:3:4::/65", "1:2:3:4::", "1:2:3:4:7fff:ffff:ffff:ffff"}, {"::2/127", "::2", "::3"}, {"::2/128", "::2", "::2"},
	} {
		_, want := ends(t, c.from, c.to)
		if s, e := Of(prefix(t, c.p)); s != want || e != api.OK {
			t.Error(c, s, e)
		}
	}
}

// Every address of a prefix has its bits, and the addresses on both sides of its span have others.
func TestOfOfAll(t *testing.T) {
	r := rand.New(rand.NewSource(1))
	for _, family := range families {
		for length := range widths[family] + 1 {
			for _, a := range []api.Addr{{}, greatestOf(family), someAddr(r, family), someAddr(r, family)} {
				p, e := number.Cut(family, a, length)
				s, f := Of(p)
				size := new(big.Int).Lsh(big.NewInt(1), uint(widths[family]-length))
				if end := size.Sub(size.Add(size, big128(p.Addr)), big.NewInt(1)); e != api.OK || f != api.OK || s.From != p.Addr || big128(s.To).Cmp(end) != 0 {
					t.Fatal(p, s, e, f)
				}
			}
		}
	}
}

func TestOfInvalid(t *testing.T) {
	for _, p := range []api.Prefix{{}, {Family: 5}, {Family: 5, Len: -1}, {Family: 255, Addr: api.Addr{Low: 1}, Len: 1000}, {Family: 4, Len: -1}, {Family: 4, Len: 33}, {Family: 4, Len: math.MinInt}, {Family: 4, Addr: api.Addr{Low: 1}, Len: 31}, {Family: 4, Addr: api.Addr{Low: 1 << 32}, Len: 32}, {Family: 4, Addr: api.Addr{High: 1}, Len: 32}, {Family: 6, Len: 129}, {Family: 6, Len: math.MaxInt}, {Family: 6, Addr: api.Addr{Low: 1}, Len: 64}, {Family: 6, Addr: api.Addr{Low: 1}}} {
		want := api.ErrBad
		if widths[p.Family] == 0 {
			want = api.ErrArg
		}
		if s, e := Of(p); s != (api.Span{}) || e != want {
			t.Error(p, s, e)
		}
	}
}

func TestPrefixes(t *testing.T) {
	for _, c := range []struct{ from, to, want string }{
		{"10.0.0.1", "10.0.0.6", "10.0.0.1/32 10.0.0.2/31 10.0.0.4/31 10.0.0.6/32"},
		{"10.0.0.0", "10.0.0.255", "10.0.0.0/24"},
		{"10.0.0.0", "10.0.0.0", "10.0.0.0/32"},
		{"10.0.0.0", "10.0.0.1", "10.0.0.0/31"},
		{"10.0.0.1", "10.0.0.2", "10.0.0.1/32 10.0.0.2/32"},
		{"10.0.0.0", "10.0.0.2", "10.0.0.0/31 10.0.0.2/32"},
		{"0.0.0.0", "255.255.255.255", "0.0.0.0/0"},
		{"0.0.0.0", "0.0.0.0", "0.0.0.0/32"},
		{"255.255.255.255", "255.255.255.255", "255.255.255.255/32"},
		{"127.255.255.255", "128.0.0.0", "127.255.255.255/32 128.0.0.0/32"},
		{"64.0.0.0", "191.255.255.255", "64.0.0.0/2 128.0.0.0/2"},
		{"128.0.0.0", "255.255.255.255", "128.0.0.0/1"},
		{"0.0.0.1", "0.0.0.1", "0.0.0.1/32"},
		{"255.255.255.253", "255.255.255.255", "255.255.255.253/32 255.255.255.254/31"},
		{"::", "ffff:ffff:ffff:ffff:ffff:ffff:ffff:ffff", "::/0"},
		{"::", "::", "::/128"},
		{"::1", "::1", "::1/128"},
		{"::", "::ffff:ffff:ffff:ffff", "::/64"},
		{"::", "0:0:0:1::", "::/64 0:0:0:1::/128"},
		{"::ffff:ffff:ffff:ffff", "0:0:0:1::", "::ffff:ffff:ffff:ffff/128 0:0:0:1::/128"},
		{"1:2:3:1:8000::", "1:2:3:2:7fff:ffff:ffff:ffff", "1:2:3:1:8000::/65 1:2:3:2::/65"},
		{"0:0:0:1::", "::2:ffff:ffff:ffff:ffff", "0:0:0:1::/64 0:0:0:2::/64"},
		{"0:0:0:2::", "::3:ffff:ffff:ffff:ffff", "0:0:0:2::/63"},
		{"ffff:ffff:ffff:ffff:ffff:ffff:ffff:fffd", "ffff:ffff:ffff:ffff:ffff:ffff:ffff:ffff", "ffff:ffff:ffff:ffff:ffff:ffff:ffff:fffd/128 ffff:ffff:ffff:ffff:ffff:ffff:ffff:fffe/127"},
	} {
		family, s := ends(t, c.from, c.to)
		if list, e := Prefixes(family, s); texts(list) != c.want || e != api.OK {
			t.Error(c, texts(list), e)
		}
	}
}

// A span that lacks only the first and the last address needs most prefixes.
func TestPrefixesMost(t *testing.T) {
	for _, family := range families {
		to, _ := Prev(greatestOf(family))
		s := api.Span{From: api.Addr{Low: 1}, To: to}
		list, e := Prefixes(family, s)
		if e != api.OK || len(list) != 2*widths[family]-2 || !slices.Equal(list, split(family, s)) {
			t.Error(family, texts(list), e)
		}
	}
}

func TestPrefixesInvalid(t *testing.T) {
	for _, c := range invalidSpans() {
		if list, e := Prefixes(c.family, c.s); len(list) != 0 || e != c.e {
			t.Error(c, list, e)
		}
	}
}

// split finds the least list in another way: a prefix of which a part is in the span is halved, from the whole space on.
func split(family uint8, s api.Span) []api.Prefix {
	var list []api.Prefix
	var visit func(p api.Prefix)
	visit = func(p api.Prefix) {
		first := big128(p.Addr)
		end := new(big.Int).Lsh(big.NewInt(1), uint(widths[family]-p.Len))
		end.Sub(end.Add(end, first), big.NewInt(1))
		switch from, to := big128(s.From), big128(s.To); {
		case end.Cmp(from) < 0 || first.Cmp(to) > 0:
		case first.Cmp(from) >= 0 && end.Cmp(to) <= 0:
			list = append(list, p)
		default:
			half := new(big.Int).Lsh(big.NewInt(1), uint(widths[family]-p.Len-1))
			visit(api.Prefix{Family: family, Addr: p.Addr, Len: p.Len + 1})
			visit(api.Prefix{Family: family, Addr: fromBig(half.Add(half, first)), Len: p.Len + 1})
		}
	}
	visit(api.Prefix{Family: family})
	return list
}

func TestPrefixesAgainstHalving(t *testing.T) {
	r := rand.New(rand.NewSource(2))
	for range 3000 {
		for _, family := range families {
			s := someSpan(r, family)
			list, e := Prefixes(family, s)
			if want := split(family, s); e != api.OK || !slices.Equal(list, want) {
				t.Fatal(family, s, texts(list), texts(want), e)
			}
		}
	}
}

// leastCount returns by trying all ways how few prefixes the span from a to b needs, for addresses below 64.
func leastCount(a, b int) int {
	least := map[int]int{b + 1: 0}
	for i := b; i >= a; i-- {
		least[i] = math.MaxInt
		for size := 1; size <= 64 && i%size == 0 && i+size-1 <= b; size *= 2 {
			least[i] = min(least[i], 1+least[i+size])
		}
	}
	return least[a]
}

func TestPrefixesAreLeast(t *testing.T) {
	for a := range 64 {
		for b := a; b < 64; b++ {
			for _, family := range families {
				list, e := Prefixes(family, span4(uint64(a), uint64(b)))
				if want := leastCount(a, b); e != api.OK || len(list) != want {
					t.Fatal(family, a, b, texts(list), want, e)
				}
			}
		}
	}
}

// Results are new each time (R2).
func TestPrefixesAreNew(t *testing.T) {
	s := span4(1, 6)
	a, _ := Prefixes(api.Family4, s)
	b, _ := Prefixes(api.Family4, s)
	want := slices.Clone(b)
	for i := range a {
		a[i] = api.Prefix{}
	}
	c, e := Prefixes(api.Family4, s)
	if !slices.Equal(b, want) || !slices.Equal(c, want) || e != api.OK {
		t.Error(b, c, e)
	}
}

// P2.3

func TestText(t *testing.T) {
	for _, c := range []struct{ from, to, want string }{
		{"10.0.0.0", "10.0.0.255", "10.0.0.0/24"}, {"0.0.0.0", "255.255.255.255", "0.0.0.0/0"}, {"1.2.3.4", "1.2.3.4", "1.2.3.4/32"}, {"0.0.0.0", "0.0.0.0", "0.0.0.0/32"}, {"255.255.255.255", "255.255.255.255", "255.255.255.255/32"}, {"128.0.0.0", "255.255.255.255", "128.0.0.0/1"}, {"1.2.3.4", "1.2.3.5", "1.2.3.4/31"},
		{"1.2.3.5", "1.2.3.6", "1.2.3.5-1.2.3.6"}, {"10.0.0.1", "10.0.0.6", "10.0.0.1-10.0.0.6"}, {"10.0.0.0", "10.0.0.254", "10.0.0.0-10.0.0.254"}, {"10.0.0.0", "10.0.1.0", "10.0.0.0-10.0.1.0"}, {"10.0.1.0", "10.0.2.255", "10.0.1.0-10.0.2.255"}, {"0.0.0.0", "255.255.255.254", "0.0.0.0-255.255.255.254"}, {"0.0.0.1", "255.255.255.255", "0.0.0.1-255.255.255.255"},
		{"::", "ffff:ffff:ffff:ffff:ffff:ffff:ffff:ffff", "::/0"}, {"::1", "::1", "::1/128"}, {"1:2:3:4::", "1:2:3:5:ffff:ffff:ffff:ffff", "1:2:3:4::/63"}, {"1:2:3:5::", "1:2:3:5:ffff:ffff:ffff:ffff", "1:2:3:5::/64"}, {"::4", "::7", "::4/126"},
		{"1:2:3:5::", "1:2:3:6:ffff:ffff:ffff:ffff", "1:2:3:5::-1:2:3:6:ffff:ffff:ffff:ffff"}, {"::1", "::2", "::1-::2"}, {"::", "1::", "::-1::"}, {"::3", "::10", "::3-::10"},
	} {
		family, s := ends(t, c.from, c.to)
		if text, e := Text(family, s); text != c.want || e != api.OK {
			t.Error(c, text, e)
		}
		if f, x, e := Parse(c.want); f != family || x != s || e != api.OK {
			t.Error(c, f, x, e)
		}
	}
}

func TestTextInvalid(t *testing.T) {
	for _, c := range invalidSpans() {
		if s, e := Text(c.family, c.s); s != "" || e != c.e {
			t.Error(c, s, e)
		}
	}
}

func TestParseInvalid(t *testing.T) {
	for _, s := range []string{
		"", "-", "/", "--", "x", "1.2.3.4", "::1", "-1.2.3.4", "1.2.3.4-", "1.2.3.5--1.2.3.6", "1.2.3.5-1.2.3.6-", "-1.2.3.5-1.2.3.6", "1.2.3.5-1.2.3.6-1.2.3.7",
		"1.2.3.5 - 1.2.3.6", "1.2.3.5 -1.2.3.6", "1.2.3.5- 1.2.3.6", " 1.2.3.5-1.2.3.6", "1.2.3.5-1.2.3.6 ", "1.2.3.5-1.2.3.6\n", "1.2.3.5-1.2.3.6\x00", "1.2.3.5–1.2.3.6", "1.2.3.5,1.2.3.6", "1.2.3.5-6", "1.2.3.5-+1.2.3.6",
		// A span that is one of a prefix has the string of the prefix.
		"1.2.3.4-1.2.3.4", "1.2.3.4-1.2.3.5", "10.0.0.0-10.0.0.255", "0.0.0.0-255.255.255.255", "::1-::1", "::-::", "::4-::7", "::-ffff:ffff:ffff:ffff:ffff:ffff:ffff:ffff",
		// The first address is greater than the last one.
		"1.2.3.6-1.2.3.5", "255.255.255.255-0.0.0.0", "::2-::1", "1::-::1", "10.0.0.255-10.0.0.0",
		// The families differ.
		"1.2.3.4-::1", "::1-1.2.3.4", "0.0.0.0-::", "::-255.255.255.255", "::1.2.3.4-::1.2.3.7",
		// A prefix or an address is not written as it has to be, or not valid.
		"10.0.0.0/24-10.0.1.0/24", "10.0.0.0/24-10.0.1.0", "10.0.0.0-10.0.1.0/24", "10.0.0.0/24-", "10.0.0.1/31", "10.0.0.0/33", "10.0.0.0/08", "10.0.0.0/-8", "10.0.0.0/", "::/129", "::1/127", "::/064", "10.0.0.0/8/8",
		"01.2.3.5-1.2.3.6", "1.2.3.5-1.2.3.06", "1.2.3.5-1.2.3.256", "1.2.3-1.2.4", "1.2.3.4.5-1.2.3.4.6", "::01-::2", "::0-::2", "0::1-::2", "::1-0::2", "::A-::b", "::a-::C", "0:0:0:0:0:0:0:1-::2", "::1-::10000", "::1-2::3::4", "[::1]-[::2]", "AS1-AS2", "AS1", "1-2",
		strings.Repeat("-", 1<<16), strings.Repeat("0", 1<<16) + "-1.2.3.4", "1.2.3.5-" + strings.Repeat("0", 1<<16), strings.Repeat("1.2.3.5-", 1<<13),
	} {
		if family, x, e := Parse(s); family != 0 || x != (api.Span{}) || e != api.ErrForm {
			t.Errorf("Parse(%.60q): %d %v %v", s, family, x, e)
		}
	}
}

// P2.4

// cover returns how many prefixes of the list cover an address, as a prefix of the whole width.
func cover(list []api.Prefix, family uint8, a api.Addr) int {
	n := 0
	whole := api.Prefix{Family: family, Addr: a, Len: widths[family]}
	for _, p := range list {
		if number.Covers(p, whole) {
			n++
		}
	}
	return n
}

// near returns addresses at both ends of a span and of its prefixes, and in between.
func near(r *rand.Rand, family uint8, s api.Span, list []api.Prefix) []api.Addr {
	out := []api.Addr{{}, greatestOf(family), s.From, s.To, someAddr(r, family), someAddr(r, family)}
	for _, p := range list {
		x, _ := Of(p)
		out = append(out, x.From, x.To)
	}
	for _, a := range slices.Clone(out) {
		if n, is := Next(family, a); is {
			out = append(out, n)
		}
		if n, is := Prev(a); is {
			out = append(out, n)
		}
	}
	return out
}

func TestAddressesAreCoveredOnce(t *testing.T) {
	r := rand.New(rand.NewSource(3))
	for range 200 {
		for _, family := range families {
			s := someSpan(r, family)
			list, e := Prefixes(family, s)
			if e != api.OK {
				t.Fatal(family, s, e)
			}
			for _, a := range near(r, family, s, list) {
				want := 0
				if big128(s.From).Cmp(big128(a)) <= 0 && big128(a).Cmp(big128(s.To)) <= 0 {
					want = 1
				}
				if got := cover(list, family, a); got != want {
					t.Fatal(family, s, texts(list), a, got)
				}
			}
		}
	}
}

func TestNeighboursAreNotHalves(t *testing.T) {
	r := rand.New(rand.NewSource(4))
	for range 2000 {
		for _, family := range families {
			s := someSpan(r, family)
			list, e := Prefixes(family, s)
			if e != api.OK || len(list) == 0 || len(list) > 2*widths[family]-2 {
				t.Fatal(family, s, texts(list), e)
			}
			for i := range len(list) - 1 {
				p, q := list[i], list[i+1]
				if number.Compare(p.Addr, q.Addr) >= 0 {
					t.Fatal("order", texts(list))
				}
				if p.Len != q.Len || p.Len == 0 {
					continue
				}
				a, _ := number.Cut(family, p.Addr, p.Len-1)
				if b, _ := number.Cut(family, q.Addr, q.Len-1); a == b {
					t.Fatal("halves", texts(list))
				}
			}
		}
	}
}

func TestPrefixIsItsLeastList(t *testing.T) {
	r := rand.New(rand.NewSource(5))
	for _, family := range families {
		for length := range widths[family] + 1 {
			for _, a := range []api.Addr{{}, greatestOf(family), someAddr(r, family)} {
				p, _ := number.Cut(family, a, length)
				s, e := Of(p)
				list, f := Prefixes(family, s)
				if e != api.OK || f != api.OK || len(list) != 1 || list[0] != p {
					t.Fatal(p, s, list, e, f)
				}
				text, g := Text(family, s)
				if want, _ := number.Text(p); g != api.OK || text != want {
					t.Fatal(p, text, g)
				}
			}
		}
	}
}

func TestStepsAreInverse(t *testing.T) {
	r := rand.New(rand.NewSource(6))
	for range 5000 {
		for _, family := range families {
			a := someAddr(r, family)
			if n, is := Next(family, a); is {
				if b, was := Prev(n); !was || b != a {
					t.Fatal(family, a, n, b)
				}
			} else if a != greatestOf(family) {
				t.Fatal(family, a)
			}
			if n, is := Prev(a); is {
				if b, was := Next(family, n); !was || b != a {
					t.Fatal(family, a, n, b)
				}
			} else if a != (api.Addr{}) {
				t.Fatal(family, a)
			}
		}
	}
}

func TestStringsAreInverse(t *testing.T) {
	r := rand.New(rand.NewSource(7))
	for range 10000 {
		for _, family := range families {
			s := someSpan(r, family)
			text, e := Text(family, s)
			if f, x, g := Parse(text); e != api.OK || f != family || x != s || g != api.OK {
				t.Fatal(family, s, text, e, f, x, g)
			}
			if list, _ := Prefixes(family, s); strings.Contains(text, "/") != (len(list) == 1) {
				t.Fatal(text, texts(list))
			}
		}
	}
}

// checkParse fails if a string is accepted that is not the one string of its span.
func checkParse(t *testing.T, s string) {
	family, x, e := Parse(s)
	text, f := Text(family, x)
	if e == api.OK && (f != api.OK || text != s) || e != api.OK && (e != api.ErrForm || family != 0 || x != (api.Span{})) {
		t.Fatalf("Parse(%q): %d %v %v", s, family, x, e)
	}
}

func TestParsesOneStringOnly(t *testing.T) {
	r := rand.New(rand.NewSource(8))
	pieces := []string{"0", "00", "1", "a", "A", "ff", "255", "256", ".", ":", "::", "/", "-", "--", " ", "+", "32", "128", "", "\x00"}
	starts := []string{"", "-", "10.0.0.0/8", "10.0.0.1-10.0.0.6", "10.0.0.0-10.0.0.255", "2001:db8::1-2001:db8::2", "::-::1", "::/0", "1.2.3.4-::1"}
	for range 100000 {
		s := starts[r.Intn(len(starts))]
		for range 1 + r.Intn(4) {
			i := r.Intn(len(s) + 1)
			j := min(i+r.Intn(3), len(s))
			s = s[:i] + pieces[r.Intn(len(pieces))] + s[j:]
		}
		checkParse(t, s)
	}
}

func FuzzParse(f *testing.F) {
	for _, s := range []string{"", "-", "10.0.0.0/8", "10.0.0.1-10.0.0.6", "2001:db8::1-2001:db8::2", "::/0", "1.2.3.4-::1"} {
		f.Add(s)
	}
	f.Fuzz(checkParse)
}

// The chapter's examples.

func TestExamples(t *testing.T) {
	family, s := ends(t, "10.0.0.1", "10.0.0.6")
	if list, e := Prefixes(family, s); texts(list) != "10.0.0.1/32 10.0.0.2/31 10.0.0.4/31 10.0.0.6/32" || e != api.OK {
		t.Error(texts(list), e)
	}
	family, s = ends(t, "10.0.0.0", "10.0.0.255")
	if text, e := Text(family, s); text != "10.0.0.0/24" || e != api.OK {
		t.Error(text, e)
	}
}
