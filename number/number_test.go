package number

import (
	"encoding/binary"
	"math"
	"math/big"
	"math/rand"
	"net/netip"
	"strings"
	"testing"

	"gatepath/api"
)

const most = math.MaxUint64

// edgeAddrs are addresses around the limits of both families, and some in between.
func edgeAddrs() []api.Addr {
	words := []uint64{0, 1, 2, 0xffff, 1 << 16, 1<<31 - 1, 1 << 31, 1<<32 - 1, 1 << 32, 1 << 48, 1<<63 - 1, 1 << 63, most - 1, most}
	var out []api.Addr
	for _, high := range words {
		for _, low := range words {
			out = append(out, api.Addr{High: high, Low: low})
		}
	}
	return out
}

// edgeLengths are lengths in and outside of both families.
func edgeLengths() []int {
	return []int{math.MinInt, -129, -64, -1, 0, 1, 8, 31, 32, 33, 63, 64, 65, 96, 127, 128, 129, 256, math.MaxInt}
}

func big128(a api.Addr) *big.Int {
	n := new(big.Int).SetUint64(a.High)
	return n.Add(n.Lsh(n, 64), new(big.Int).SetUint64(a.Low))
}

// someAddr returns an address with many groups that are 0, so that runs of zeros occur.
func someAddr(r *rand.Rand, family uint8) api.Addr {
	if family == api.Family4 {
		return api.Addr{Low: uint64(r.Uint32() >> r.Intn(33))}
	}
	var g groups
	for i := range g {
		if r.Intn(2) == 0 {
			g[i] = uint16(r.Uint32() >> r.Intn(17))
		}
	}
	return unite(g)
}

// P1.1

func TestName(t *testing.T) {
	for c := range 256 {
		s := string([]byte{byte(c)})
		want := strings.Contains("abcdefghijklmnopqrstuvwxyzABCDEFGHIJKLMNOPQRSTUVWXYZ0123456789-_", s)
		for _, text := range []string{s, s + "a", "a" + s, "a" + s + "a"} {
			if Name(text) != want {
				t.Errorf("Name(%q) is not %v", text, want)
			}
		}
	}
	long := strings.Repeat("x", 40)
	for text, want := range map[string]bool{"": false, "ca-1_B": true, long[:39]: true, long: true, long + "x": false, strings.Repeat(long, 100): false, "é": false, "a.b": false, "a b": false, "a/b": false, "a\x00": false, "\xff": false} {
		if Name(text) != want {
			t.Errorf("Name(%q) is not %v", text, want)
		}
	}
}

func TestCheckAddr(t *testing.T) {
	limit := new(big.Int).Lsh(big.NewInt(1), 32)
	for f := range 256 {
		for _, a := range edgeAddrs() {
			want := f == 6 || f == 4 && big128(a).Cmp(limit) < 0
			if CheckAddr(uint8(f), a) != want {
				t.Errorf("CheckAddr(%d, %v) is not %v", f, a, want)
			}
		}
	}
}

func TestCompare(t *testing.T) {
	for _, a := range edgeAddrs() {
		for _, b := range edgeAddrs() {
			if want := big128(a).Cmp(big128(b)); Compare(a, b) != want {
				t.Errorf("Compare(%v, %v) is not %d", a, b, want)
			}
		}
	}
}

func TestBit(t *testing.T) {
	for _, c := range []struct {
		family uint8
		a      api.Addr
		i, bit int
	}{
		{4, api.Addr{Low: 1 << 31}, 0, 1}, {4, api.Addr{Low: 1 << 31}, 1, 0}, {4, api.Addr{Low: 1}, 31, 1}, {4, api.Addr{Low: 1}, 30, 0},
		{6, api.Addr{High: 1 << 63}, 0, 1}, {6, api.Addr{High: 1}, 63, 1}, {6, api.Addr{Low: 1 << 63}, 64, 1}, {6, api.Addr{Low: 1 << 63}, 63, 0}, {6, api.Addr{Low: 1}, 127, 1},
	} {
		if bit, e := Bit(c.family, c.a, c.i); bit != c.bit || e != api.OK {
			t.Error(c, bit, e)
		}
	}
	for f := range 256 {
		family := uint8(f)
		for _, a := range edgeAddrs() {
			for _, i := range append(edgeLengths(), 30, 62, 126) {
				bit, e := Bit(family, a, i)
				bits := map[int]int{4: 32, 6: 128}[f]
				if !CheckAddr(family, a) || i < 0 || i >= bits {
					if bit != 0 || e != api.ErrArg {
						t.Fatal(f, a, i, bit, e)
					}
				} else if want := int(big128(a).Bit(bits - 1 - i)); bit != want || e != api.OK {
					t.Fatal(f, a, i, bit, e, want)
				}
			}
		}
	}
}

// P1.2

func TestCheck(t *testing.T) {
	for _, c := range []struct {
		p api.Prefix
		e api.Errno
	}{
		{api.Prefix{Family: 4}, api.OK},
		{api.Prefix{Family: 6}, api.OK},
		{api.Prefix{Family: 4, Addr: api.Addr{Low: 10 << 24}, Len: 8}, api.OK},
		{api.Prefix{Family: 4, Addr: api.Addr{Low: 10 << 24}, Len: 7}, api.OK},
		{api.Prefix{Family: 4, Addr: api.Addr{Low: 10 << 24}, Len: 6}, api.ErrBad},
		{api.Prefix{Family: 4, Addr: api.Addr{Low: 1<<32 - 1}, Len: 32}, api.OK},
		{api.Prefix{Family: 4, Addr: api.Addr{Low: 1<<32 - 1}, Len: 31}, api.ErrBad},
		{api.Prefix{Family: 4, Len: 32}, api.OK},
		{api.Prefix{Family: 4, Len: 33}, api.ErrBad},
		{api.Prefix{Family: 4, Len: -1}, api.ErrBad},
		{api.Prefix{Family: 4, Addr: api.Addr{Low: 1 << 32}, Len: 32}, api.ErrBad},
		{api.Prefix{Family: 4, Addr: api.Addr{High: 1 << 63}, Len: 32}, api.ErrBad},
		{api.Prefix{Family: 6, Addr: api.Addr{High: most, Low: most}, Len: 128}, api.OK},
		{api.Prefix{Family: 6, Addr: api.Addr{High: most, Low: most}, Len: 127}, api.ErrBad},
		{api.Prefix{Family: 6, Addr: api.Addr{High: most}, Len: 64}, api.OK},
		{api.Prefix{Family: 6, Addr: api.Addr{High: most}, Len: 63}, api.ErrBad},
		{api.Prefix{Family: 6, Addr: api.Addr{Low: 1}, Len: 64}, api.ErrBad},
		{api.Prefix{Family: 6, Addr: api.Addr{Low: 1}}, api.ErrBad},
		{api.Prefix{Family: 6, Len: 128}, api.OK},
		{api.Prefix{Family: 6, Len: 129}, api.ErrBad},
		{api.Prefix{Family: 6, Len: math.MinInt}, api.ErrBad},
		{api.Prefix{Family: 6, Len: math.MaxInt}, api.ErrBad},
		{api.Prefix{}, api.ErrArg},
		{api.Prefix{Family: 5, Len: -1}, api.ErrArg},
		{api.Prefix{Family: 255, Addr: api.Addr{Low: 1}, Len: 1000}, api.ErrArg},
	} {
		if e := Check(c.p); e != c.e {
			t.Error(c, e)
		}
	}
}

func TestCut(t *testing.T) {
	for _, c := range []struct {
		s      string
		length int
		want   string
	}{
		{"10.0.0.0", 8, "10.0.0.0/8"}, {"255.255.255.255", 0, "0.0.0.0/0"}, {"255.255.255.255", 1, "128.0.0.0/1"}, {"1.2.3.4", 31, "1.2.3.4/31"}, {"1.2.3.5", 31, "1.2.3.4/31"}, {"1.2.3.5", 32, "1.2.3.5/32"},
		{"ffff::ffff", 0, "::/0"}, {"ffff::ffff", 15, "fffe::/15"}, {"1:2:3:4:8000::", 64, "1:2:3:4::/64"}, {"1:2:3:4:8000::1", 65, "1:2:3:4:8000::/65"}, {"1:2:3:5::", 63, "1:2:3:4::/63"}, {"::3", 127, "::2/127"}, {"::3", 128, "::3/128"},
	} {
		family, a, e := AddrParse(c.s)
		want, f := Parse(c.want)
		if p, g := Cut(family, a, c.length); e != api.OK || f != api.OK || g != api.OK || p != want {
			t.Error(c, p, e, f, g)
		}
	}
}

func TestCutOfAll(t *testing.T) {
	for f := range 256 {
		family := uint8(f)
		bits := map[int]int{4: 32, 6: 128}[f]
		for _, a := range edgeAddrs() {
			for _, n := range edgeLengths() {
				p, e := Cut(family, a, n)
				if !CheckAddr(family, a) || n < 0 || n > bits {
					if e != api.ErrArg || p != (api.Prefix{}) {
						t.Fatal(f, a, n, p, e)
					}
					continue
				}
				want := big128(a)
				want.Lsh(want.Rsh(want, uint(bits-n)), uint(bits-n))
				if e != api.OK || p.Family != family || p.Len != n || big128(p.Addr).Cmp(want) != 0 || Check(p) != api.OK {
					t.Fatal(f, a, n, p, e)
				}
			}
		}
	}
}

func TestCovers(t *testing.T) {
	for _, c := range []struct {
		p, q   string
		covers bool
	}{
		{"10.0.0.0/8", "10.2.0.0/16", true}, {"10.0.0.0/8", "10.0.0.0/8", true}, {"10.0.0.0/8", "11.0.0.0/16", false}, {"10.0.0.0/8", "10.0.0.0/7", false}, {"10.2.0.0/16", "10.0.0.0/8", false}, {"0.0.0.0/0", "255.255.255.255/32", true}, {"1.2.3.4/32", "1.2.3.4/32", true}, {"1.2.3.4/32", "1.2.3.5/32", false},
		{"::/0", "1::/16", true}, {"::/0", "0.0.0.0/0", false}, {"0.0.0.0/0", "::/0", false}, {"0.0.0.0/8", "::/8", false},
		{"1:2:3:4::/64", "1:2:3:4:8000::/65", true}, {"1:2:3:4:8000::/65", "1:2:3:4:8000::1/128", true}, {"1:2:3:4:8000::/65", "1:2:3:4::1/128", false}, {"1:2:3:4::/63", "1:2:3:5::/64", true}, {"1:2:3:4::/64", "1:2:3:5::/64", false}, {"::2/127", "::3/128", true}, {"::2/127", "::1/128", false},
	} {
		p, e := Parse(c.p)
		q, f := Parse(c.q)
		if e != api.OK || f != api.OK || Covers(p, q) != c.covers {
			t.Error(c, e, f)
		}
	}
}

func TestCoversInvalid(t *testing.T) {
	all := api.Prefix{Family: 4}
	for _, p := range []api.Prefix{{}, {Family: 5}, {Family: 4, Len: -1}, {Family: 4, Len: 33}, {Family: 4, Addr: api.Addr{Low: 1}, Len: 31}, {Family: 4, Addr: api.Addr{Low: 1 << 32}, Len: 32}, {Family: 4, Addr: api.Addr{High: 1}, Len: 32}, {Family: 6, Addr: api.Addr{Low: 1}, Len: 64}, {Family: 6, Len: 129}, {Family: 6, Len: math.MinInt}, {Family: 6, Len: math.MaxInt}} {
		all.Family = p.Family
		if Covers(p, p) || Covers(all, p) || Covers(p, all) {
			t.Error(p)
		}
	}
}

// P1.3

func TestAddrText(t *testing.T) {
	for _, c := range []struct {
		family    uint8
		high, low uint64
		s         string
	}{
		{4, 0, 0, "0.0.0.0"}, {4, 0, 1<<32 - 1, "255.255.255.255"}, {4, 0, 0xc0000201, "192.0.2.1"}, {4, 0, 0x0a640109, "10.100.1.9"}, {4, 0, 0x01000000, "1.0.0.0"},
		{6, 0, 0, "::"}, {6, 0, 1, "::1"}, {6, 1 << 48, 0, "1::"}, {6, 0, 0xffff, "::ffff"}, {6, 0, 0x10000, "::1:0"},
		{6, most, most, "ffff:ffff:ffff:ffff:ffff:ffff:ffff:ffff"}, {6, 0x20010db800000000, 1, "2001:db8::1"},
		{6, 0x0001000200030004, 0x0005000600070008, "1:2:3:4:5:6:7:8"},
		// A single group of 0 stays.
		{6, 0x0000000200030004, 0x0005000600070008, "0:2:3:4:5:6:7:8"}, {6, 0x0001000200000004, 0x0005000600070008, "1:2:0:4:5:6:7:8"}, {6, 0x0001000200030004, 0x0005000600070000, "1:2:3:4:5:6:7:0"}, {6, 0x0000000200000004, 0x0000000600000008, "0:2:0:4:0:6:0:8"},
		// Two in a row do not, wherever they are.
		{6, 0x0000000000030004, 0x0005000600070008, "::3:4:5:6:7:8"}, {6, 0x0001000200030000, 0x0000000600070008, "1:2:3::6:7:8"}, {6, 0x0001000200030004, 0x0005000600000000, "1:2:3:4:5:6::"},
		// The longest run, and the first one of the longest.
		{6, 0x0001000000000002, 0x0000000000000003, "1:0:0:2::3"}, {6, 0x0001000000000000, 0x0002000000000003, "1::2:0:0:3"}, {6, 0x0001000000000002, 0x0003000000000004, "1::2:3:0:0:4"}, {6, 0x0000000000010000, 0x0000000200000000, "::1:0:0:2:0:0"}, {6, 0x0000000000010002, 0x0003000000000000, "0:0:1:2:3::"}, {6, 0x0000000100000000, 0x0001000100010001, "0:1::1:1:1:1"},
		{6, 0xfe80000000000000, 0x0001000000000002, "fe80::1:0:0:2"}, {6, 0xabcdef0100100000, 0x0a0b0c0d, "abcd:ef01:10::a0b:c0d"}, {6, 0, 0xffff0a000001, "::ffff:a00:1"},
	} {
		a := api.Addr{High: c.high, Low: c.low}
		if s, e := AddrText(c.family, a); s != c.s || e != api.OK {
			t.Error(c, s, e)
		}
		if family, b, e := AddrParse(c.s); family != c.family || b != a || e != api.OK {
			t.Error(c, family, b, e)
		}
	}
}

func TestAddrTextAgainstLibrary(t *testing.T) {
	r := rand.New(rand.NewSource(1))
	for range 20000 {
		var four [4]byte
		a := someAddr(r, api.Family4)
		binary.BigEndian.PutUint32(four[:], uint32(a.Low))
		if s, e := AddrText(api.Family4, a); e != api.OK || s != netip.AddrFrom4(four).String() {
			t.Fatal(a, s, e)
		}
		var six [16]byte
		a = someAddr(r, api.Family6)
		binary.BigEndian.PutUint64(six[:], a.High)
		binary.BigEndian.PutUint64(six[8:], a.Low)
		n := netip.AddrFrom16(six)
		if n.Is4In6() { // which the library writes in another form
			continue
		}
		if s, e := AddrText(api.Family6, a); e != api.OK || s != n.String() {
			t.Fatal(a, s, e)
		}
	}
}

func TestAddrTextInvalid(t *testing.T) {
	for f := range 256 {
		for _, a := range edgeAddrs() {
			s, e := AddrText(uint8(f), a)
			if valid := CheckAddr(uint8(f), a); valid != (e == api.OK) || valid != (s != "") || !valid && e != api.ErrArg {
				t.Fatal(f, a, s, e)
			}
		}
	}
}

func TestAddrParseInvalid(t *testing.T) {
	for _, s := range []string{
		"", " ", ".", ":", "x", "1", "1.2.3", "1.2.3.4.5", "1.2.3.", ".1.2.3", "1..2.3", "1.2.3.256", "1.2.3.1000", "1.2.3.99999999999999999999", "01.2.3.4", "1.2.3.00", "1.2.3.04", "+1.2.3.4", "-1.2.3.4", "1.2.3.-0", " 1.2.3.4", "1.2.3.4 ", "1.2.3.4\n", "0x1.2.3.4", "1.2.3.a", "1.2.3.1_0", "1,2,3,4", "1.2.3.4/32", "1.2.3.٣", "1.2.3.4\x00",
		"::0", "0::", "0:0:0:0:0:0:0:0", ":::", "::::", "1:", ":1", "1:::2", "1::2::3", "::1::", "1:2:3:4:5:6:7", "1:2:3:4:5:6:7:8:9", "::1:2:3:4:5:6:7:8:9", "1:2:3:4:5::6:7:8:9", "1:2:3:4:5:6:7:8:9::", "::1:1:1:1:1:1:1:1:1:1:1:1:1:1:1:1:1:1", "1:2:3:4:5:6:7:8:", ":1:2:3:4:5:6:7:8", "1:2:3:4::5:6:7:8", "::1:2:3:4:5:6:7:8", "1:2:3:4:5:6:7:8::", "::2:3:4:5:6:7:8", "1::3:4:5:6:7:8", "1:2:3:4:5:6:7::", "1:2:3:4:5:6:0:0", "0:0:3:4:5:6:7:8",
		"1:0:0:2:0:0:0:3", "1::2:0:0:0:3", "1:0:0:2:3::4", "1:0::2:3:4:5", "1::0:2:3:4:5",
		"A::", "::F", "::0f", "::00001", "::10000", "::g", "::+1", "::-1", "::0x1", "::1_0", "::1.2.3.4", "::ffff:10.0.0.1", "1::2/128", "[::1]", "::1%1", " ::1", "::1 ", "::\x00", "::１",
		"ffff:ffff:ffff:ffff:ffff:ffff:ffff:ffff0", "0ffff:ffff:ffff:ffff:ffff:ffff:ffff:ffff", strings.Repeat("0", 1000) + "1.2.3.4", strings.Repeat("1:", 100000), strings.Repeat(":", 1<<16), strings.Repeat("1.", 1<<16),
	} {
		if family, a, e := AddrParse(s); family != 0 || a != (api.Addr{}) || e != api.ErrForm {
			t.Errorf("AddrParse(%.50q): %d %v %d", s, family, a, e)
		}
	}
}

// P1.4

func TestText(t *testing.T) {
	for _, c := range []struct {
		p api.Prefix
		s string
	}{
		{api.Prefix{Family: 4}, "0.0.0.0/0"}, {api.Prefix{Family: 4, Addr: api.Addr{Low: 10 << 24}, Len: 8}, "10.0.0.0/8"}, {api.Prefix{Family: 4, Addr: api.Addr{Low: 1<<32 - 1}, Len: 32}, "255.255.255.255/32"}, {api.Prefix{Family: 4, Len: 10}, "0.0.0.0/10"},
		{api.Prefix{Family: 6}, "::/0"}, {api.Prefix{Family: 6, Addr: api.Addr{High: 0x20010db800000000}, Len: 32}, "2001:db8::/32"}, {api.Prefix{Family: 6, Addr: api.Addr{Low: 1}, Len: 128}, "::1/128"}, {api.Prefix{Family: 6, Addr: api.Addr{High: most, Low: most}, Len: 128}, "ffff:ffff:ffff:ffff:ffff:ffff:ffff:ffff/128"},
	} {
		if s, e := Text(c.p); s != c.s || e != api.OK {
			t.Error(c, s, e)
		}
		if p, e := Parse(c.s); p != c.p || e != api.OK {
			t.Error(c, p, e)
		}
	}
	for f := range 256 {
		for _, a := range edgeAddrs() {
			for _, n := range edgeLengths() {
				p := api.Prefix{Family: uint8(f), Addr: a, Len: n}
				if s, e := Text(p); e != Check(p) || (s == "") != (e != api.OK) {
					t.Fatal(p, s, e)
				}
			}
		}
	}
}

func TestParseInvalid(t *testing.T) {
	for _, s := range []string{
		"", "/", "10.0.0.0", "10.0.0.0/", "/8", "10.0.0.0/8/", "10.0.0.0//8", "10.0.0.0/8/8", "10.0.0.0/08", "10.0.0.0/+8", "10.0.0.0/-8", "10.0.0.0/ 8", "10.0.0.0/8 ", " 10.0.0.0/8", "10.0.0.0 /8", "10.0.0.0/0x8", "10.0.0.0/8.0", "10.0.0.0/1_6", "10.0.0.0/00", "10.0.0.0/33", "10.0.0.0/128", "10.0.0.0/264", "10.0.0.0/4294967304", "10.0.0.0/18446744073709551624", "10.0.0.0/99999999999999999999999",
		"10.0.0.1/31", "10.0.0.0/6", "10.0.0.0/0", "0.0.0.1/0", "10.0.0/8", "10/8", "010.0.0.0/8", "10.0.0.0/٨", "10.0.0.0\\8", "10.0.0.0/8\x00",
		"::", "::/", "::/129", "::/256", "::/-1", "::/00", "::/064", "::1/127", "::1/64", "1::/15", "::0/0", "0::/0", "1:0:0:0:0:0:0:0/16", "2001:DB8::/32", "::/0 ", "::/0/", "::ffff:1.2.3.4/128",
		strings.Repeat("0", 1<<16) + "/0", "0.0.0.0/" + strings.Repeat("0", 1<<16), strings.Repeat("/", 1<<16),
	} {
		if p, e := Parse(s); p != (api.Prefix{}) || e != api.ErrForm {
			t.Errorf("Parse(%.50q): %v %d", s, p, e)
		}
	}
}

func TestAs(t *testing.T) {
	for as, s := range map[uint32]string{0: "AS0", 1: "AS1", 10: "AS10", 64496: "AS64496", 65536: "AS65536", 1 << 31: "AS2147483648", math.MaxUint32: "AS4294967295"} {
		if AsText(as) != s {
			t.Error(as, AsText(as))
		}
		if n, e := AsParse(s); n != as || e != api.OK {
			t.Error(s, n, e)
		}
	}
	for _, s := range []string{"", "A", "AS", "S1", "1", "as1", "As1", "aS1", "AS 1", " AS1", "AS1 ", "AS1\n", "AS+1", "AS-1", "AS-0", "AS00", "AS01", "AS0x1", "ASa", "AS1a", "AS1_0", "AS1.0", "AS1.1", "ASAS1", "AS4294967296", "AS4294967300", "AS8589934592", "AS18446744073709551617", "AS99999999999999999999999", "AS１", "AS1\x00", "AS" + strings.Repeat("0", 1<<16), "AS" + strings.Repeat("9", 1<<16)} {
		if n, e := AsParse(s); n != 0 || e != api.ErrForm {
			t.Errorf("AsParse(%.50q): %d %d", s, n, e)
		}
	}
}

// P1.5

func TestStringsAreInverse(t *testing.T) {
	r := rand.New(rand.NewSource(2))
	for range 20000 {
		for _, family := range []uint8{api.Family4, api.Family6} {
			a := someAddr(r, family)
			s, e := AddrText(family, a)
			if f, b, g := AddrParse(s); e != api.OK || f != family || b != a || g != api.OK {
				t.Fatal(family, a, s, e, f, b, g)
			}
			p, e := Cut(family, a, r.Intn(width(family)+1))
			s, f := Text(p)
			if q, g := Parse(s); e != api.OK || f != api.OK || q != p || g != api.OK {
				t.Fatal(p, s, e, f, q, g)
			}
		}
		as := r.Uint32() >> r.Intn(33)
		if n, e := AsParse(AsText(as)); n != as || e != api.OK {
			t.Fatal(as, n, e)
		}
	}
}

// checkParses fails if a string is accepted that is not the one string of its value.
func checkParses(t *testing.T, s string) {
	family, a, e := AddrParse(s)
	if text, f := AddrText(family, a); e == api.OK && (f != api.OK || text != s) || e != api.OK && (e != api.ErrForm || family != 0 || a != (api.Addr{})) {
		t.Fatalf("AddrParse(%q): %d %v %d", s, family, a, e)
	}
	p, e := Parse(s)
	if text, f := Text(p); e == api.OK && (f != api.OK || text != s) || e != api.OK && (e != api.ErrForm || p != api.Prefix{}) {
		t.Fatalf("Parse(%q): %v %d", s, p, e)
	}
	as, e := AsParse(s)
	if e == api.OK && AsText(as) != s || e != api.OK && (e != api.ErrForm || as != 0) {
		t.Fatalf("AsParse(%q): %d %d", s, as, e)
	}
}

func TestParsesOneStringOnly(t *testing.T) {
	r := rand.New(rand.NewSource(3))
	pieces := []string{"0", "00", "1", "a", "A", "ff", "ffff", "10000", "255", "256", ".", ":", "::", "/", "AS", "+", "-", "_", " ", "32", "128", "", "\x00"}
	starts := []string{"", "10.0.0.0", "10.0.0.0/8", "2001:db8::1", "1:2:3:4:5:6:7:8", "::/0", "AS64496"}
	for range 200000 {
		s := starts[r.Intn(len(starts))]
		for range 1 + r.Intn(4) {
			i := r.Intn(len(s) + 1)
			j := min(i+r.Intn(3), len(s))
			s = s[:i] + pieces[r.Intn(len(pieces))] + s[j:]
		}
		checkParses(t, s)
	}
}

func FuzzParses(f *testing.F) {
	for _, s := range []string{"", "10.0.0.0/8", "1.2.3.4", "2001:db8::1", "1:2:3:4:5:6:7:8/128", "AS1"} {
		f.Add(s)
	}
	f.Fuzz(checkParses)
}

// fewPrefixes returns prefixes of both families, of which many cover others, and some that are not valid.
func fewPrefixes() []api.Prefix {
	out := []api.Prefix{{}, {Family: 4, Len: 33}, {Family: 6, Addr: api.Addr{Low: 1}, Len: 64}}
	for _, n := range []int{0, 1, 2, 3, 30, 31, 32} {
		for _, low := range []uint64{0, 1, 2, 3, 1 << 29, 1 << 30, 3 << 30, 1 << 31, 1<<32 - 1} {
			p, _ := Cut(api.Family4, api.Addr{Low: low}, n)
			out = append(out, p)
		}
	}
	for _, n := range []int{0, 1, 2, 63, 64, 65, 66, 127, 128} {
		for _, a := range []api.Addr{{}, {High: 1}, {High: 1 << 63}, {Low: 1}, {Low: 1 << 62}, {Low: 1 << 63}, {High: most, Low: most}} {
			p, _ := Cut(api.Family6, a, n)
			out = append(out, p)
		}
	}
	return out
}

func TestCoversIsPartialOrder(t *testing.T) {
	all := fewPrefixes()
	for _, p := range all {
		if Covers(p, p) != (Check(p) == api.OK) {
			t.Error("reflexive", p)
		}
		for _, q := range all {
			if Covers(p, q) && Covers(q, p) && p != q {
				t.Error("antisymmetric", p, q)
			}
			for _, x := range all {
				if Covers(p, q) && Covers(q, x) && !Covers(p, x) {
					t.Error("transitive", p, q, x)
				}
				if Covers(p, x) && Covers(q, x) && !Covers(p, q) && !Covers(q, p) {
					t.Error("of two that cover a third", p, q, x)
				}
			}
		}
	}
}

func TestCoversBitByBit(t *testing.T) {
	for _, p := range fewPrefixes() {
		for _, q := range fewPrefixes() {
			want := Check(p) == api.OK && Check(q) == api.OK && p.Family == q.Family && p.Len <= q.Len
			for i := range p.Len {
				a, e := Bit(p.Family, p.Addr, i)
				b, f := Bit(q.Family, q.Addr, i)
				want = want && e == api.OK && f == api.OK && a == b
			}
			if Covers(p, q) != want {
				t.Error(p, q, want)
			}
		}
	}
}

// The chapter's examples.

func TestExamples(t *testing.T) {
	p, e := Cut(api.Family4, api.Addr{Low: 167772160}, 8)
	s, f := Text(p)
	q, g := Parse("10.2.0.0/16")
	if e != api.OK || f != api.OK || g != api.OK || s != "10.0.0.0/8" || !Covers(p, q) {
		t.Error(p, s, q, e, f, g)
	}
	if s, e := AddrText(api.Family6, api.Addr{High: 0x20010db800000000, Low: 1}); s != "2001:db8::1" || e != api.OK {
		t.Error(s, e)
	}
	if s, e := AddrText(api.Family6, api.Addr{High: most, Low: most}); s != "ffff:ffff:ffff:ffff:ffff:ffff:ffff:ffff" || e != api.OK {
		t.Error(s, e)
	}
}
