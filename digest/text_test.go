package digest

import (
	"encoding/base64"
	"encoding/hex"
	"math/rand"
	"slices"
	"strings"
	"testing"

	"gatepath/api"
)

// coding is one of the two kinds of strings, with what tells the same of it without this package.
type coding struct {
	name      string
	to        func([]byte) string
	from      func(string) ([]byte, api.Errno)
	model     func([]byte) string
	back      func(string) ([]byte, error) // may accept more than the model returns
	something string                       // characters with which to make strings
}

func codings() []coding {
	return []coding{
		{"hex", Hex, FromHex, hex.EncodeToString, hex.DecodeString, "019afgAFx= \n\x00\xff"},
		{"base64", Base64, FromBase64, base64.StdEncoding.EncodeToString, base64.StdEncoding.DecodeString, "ABQgwz09+/=-_ \n\x00\xff"},
	}
}

// modelFrom returns the bytes whose string is s, and whether there are any.
func (c coding) modelFrom(s string) ([]byte, bool) {
	b, err := c.back(s)
	if err != nil || c.model(b) != s {
		return nil, false
	}
	return b, true
}

// check reports whether s is read as the document says, and whether it is what its bytes are written as.
func (c coding) check(t *testing.T, s string) {
	want, is := c.modelFrom(s)
	b, e := c.from(s)
	if is && (e != api.OK || !slices.Equal(b, want) || c.to(b) != s) {
		t.Fatalf("%s %q: %v %v", c.name, s, b, e)
	}
	if !is && (e != api.ErrForm || len(b) != 0) {
		t.Fatalf("%s %q: %v %v, not ErrForm", c.name, s, b, e)
	}
}

// checkBytes reports whether b is written as the document says and read again.
func (c coding) checkBytes(t *testing.T, b []byte) {
	s := c.to(b)
	if s != c.model(b) {
		t.Fatalf("%s %v: %q", c.name, b, s)
	}
	if x, e := c.from(s); e != api.OK || !slices.Equal(x, b) {
		t.Fatalf("%s %v: %q is read as %v %v", c.name, b, s, x, e)
	}
}

// P5.2 and P5.3

func TestHex(t *testing.T) {
	for _, c := range []struct {
		b []byte
		s string
	}{
		{nil, ""},
		{[]byte{0}, "00"},
		{[]byte{1}, "01"},
		{[]byte{16}, "10"},
		{[]byte{159, 250}, "9ffa"},
		{[]byte{0, 0, 0}, "000000"},
		{[]byte{0, 255, 16}, "00ff10"},
		{[]byte{1, 35, 69, 103, 137, 171, 205, 239}, "0123456789abcdef"},
		{[]byte("gatepath"), "6761746570617468"},
	} {
		if s := Hex(c.b); s != c.s {
			t.Error(c, s)
		}
		if b, e := FromHex(c.s); !slices.Equal(b, c.b) || e != api.OK {
			t.Error(c, b, e)
		}
	}
}

func TestFromHexWrong(t *testing.T) {
	for _, s := range []string{
		"0", "a", "000", "00f", "0g", "g0", "gg", "0A", "A0", "AB", "aB", "FF", "0x00", "x0", " 00", "00 ", "00 00", "00\n", "\n", "0\x00", "\x00\x00",
		"00:11", "00-1", "-1", "+1", "0/", "0:", "0`", "0@", "é", "é0", "00é", "\xff\xff", "0\xb0", "=", "00==", "0=", "AP8Q",
	} {
		if b, e := FromHex(s); len(b) != 0 || e != api.ErrForm {
			t.Errorf("%q: %v %v", s, b, e)
		}
	}
}

func TestBase64(t *testing.T) {
	for _, c := range []struct {
		b []byte
		s string
	}{
		{nil, ""},
		{[]byte{0}, "AA=="},
		{[]byte{1}, "AQ=="},
		{[]byte{255}, "/w=="},
		{[]byte{0, 0}, "AAA="},
		{[]byte{1, 2}, "AQI="},
		{[]byte{251, 255}, "+/8="},
		{[]byte{255, 255}, "//8="},
		{[]byte{1, 2, 3}, "AQID"},
		{[]byte{0, 255, 16}, "AP8Q"},
		{[]byte{251, 239, 190}, "++++"},
		{[]byte("f"), "Zg=="},
		{[]byte("fo"), "Zm8="},
		{[]byte("foo"), "Zm9v"},
		{[]byte("foob"), "Zm9vYg=="},
		{[]byte("fooba"), "Zm9vYmE="},
		{[]byte("foobar"), "Zm9vYmFy"},
		{[]byte{0, 16, 131, 16, 81, 135, 32, 146, 139}, "ABCDEFGHIJKL"},
	} {
		if s := Base64(c.b); s != c.s {
			t.Error(c, s)
		}
		if b, e := FromBase64(c.s); !slices.Equal(b, c.b) || e != api.OK {
			t.Error(c, b, e)
		}
	}
}

func TestFromBase64Wrong(t *testing.T) {
	for _, s := range []string{
		"A", "AA", "AAA", "AAAAA", "AAAAAA", "AAAAAAA", // no =
		"=", "==", "===", "====", "A=", "A==", "A===", "AA=", "AA===", "AA====", "AAA==", "AAA===", "AAAA=", "AAAA==", "AAAA====", // too few or too many
		"=AAA", "A=AA", "AA=A", "=AA=", "A=A=", "==AA", "AA==AA==", "AAA=AAAA", "AA==AAAA", // not at the end
		"AB==", "AP==", "AQ/=", "AAB=", "AAD=", "AR==", "AQJ=", "//9=", "/x==", "////AB==", // bits that are not 0
		"-_-_", "AA-_", "AAA-", "AAA_", "AAA.", "AAA*", "AA A", "AA==\n", "AAAA\n", "\nAAAA", "AA\nAA", "AAAA\r\n", " AAAA", "AAAA ", "A\x00==", "\x00\x00\x00\x00", "AAé", "AA\xff\xff", "éé",
	} {
		if b, e := FromBase64(s); len(b) != 0 || e != api.ErrForm {
			t.Errorf("%q: %v %v", s, b, e)
		}
	}
}

func TestStringsOfEveryOneAndTwo(t *testing.T) {
	for _, c := range codings() {
		for x := range 256 {
			c.checkBytes(t, []byte{byte(x)})
			for y := range 256 {
				c.checkBytes(t, []byte{byte(x), byte(y)})
			}
		}
	}
}

func TestStringsOfAllLengths(t *testing.T) {
	r := rand.New(rand.NewSource(6))
	for _, c := range codings() {
		c.checkBytes(t, nil)
		for _, n := range lengths() {
			c.checkBytes(t, someBytes(r, n))
			c.checkBytes(t, make([]byte, n))
		}
		for range 3000 {
			c.checkBytes(t, someBytes(r, r.Intn(12)))
		}
	}
}

// TestEveryShortString reads all strings of at most five characters of some.
func TestEveryShortString(t *testing.T) {
	for _, c := range codings() {
		list := []string{""}
		for range 5 {
			var longer []string
			for _, s := range list {
				c.check(t, s)
				for i := range len(c.something) {
					longer = append(longer, s+c.something[i:i+1])
				}
			}
			list = longer
		}
		for _, s := range list {
			c.check(t, s)
		}
	}
}

// TestEveryCharacter puts each byte at each place of strings, and behind them.
func TestEveryCharacter(t *testing.T) {
	for _, c := range codings() {
		for n := range 8 {
			s := c.to([]byte("gatepath")[:n])
			for i := range len(s) + 1 {
				for x := range 256 {
					c.check(t, s[:i]+string([]byte{byte(x)})+s[min(i+1, len(s)):])
					c.check(t, s[:i]+string([]byte{byte(x)})+s[i:])
				}
			}
		}
	}
}

// TestSpoiltStrings reads long strings, and what is like them.
func TestSpoiltStrings(t *testing.T) {
	r := rand.New(rand.NewSource(7))
	for _, c := range codings() {
		for range 20000 {
			s := []byte(c.to(someBytes(r, r.Intn(100))))
			c.check(t, string(s))
			for range 1 + r.Intn(2) {
				at := r.Intn(len(s) + 1)
				to := at + r.Intn(min(4, len(s)-at+1))
				with := ""
				for range r.Intn(4) {
					with += string(c.something[r.Intn(len(c.something))])
				}
				s = slices.Concat(s[:at], []byte(with), s[to:])
			}
			c.check(t, string(s))
		}
	}
}

func TestLongStrings(t *testing.T) {
	for _, c := range codings() {
		for _, n := range []int{api.MaxBytes, api.MaxBytes + 1, api.MaxBytes + 2, 1 << 18} {
			for _, fill := range []string{"A", "0", "=", "g", "\x00", "\n"} {
				c.check(t, strings.Repeat(fill, n))
				c.check(t, strings.Repeat("0", n)+fill)
				c.check(t, fill+strings.Repeat("0", n))
			}
		}
	}
}

func FuzzFromHex(f *testing.F) {
	for _, s := range []string{"", "0", "00ff10", "00FF10", "0g"} {
		f.Add(s)
	}
	f.Fuzz(func(t *testing.T, s string) { codings()[0].check(t, s) })
}

func FuzzFromBase64(f *testing.F) {
	for _, s := range []string{"", "A", "AP8Q", "AQI=", "AQ==", "AR==", "AQ==AQ=="} {
		f.Add(s)
	}
	f.Fuzz(func(t *testing.T, s string) { codings()[1].check(t, s) })
}

// Arguments are only read, with the memory behind them, and results share no memory (R2).

func TestStringsOnlyRead(t *testing.T) {
	r := rand.New(rand.NewSource(8))
	memory := someBytes(r, 300)
	before := slices.Clone(memory)
	for _, c := range codings() {
		for n := range 200 {
			c.to(memory[:n])
		}
		if !slices.Equal(memory, before) {
			t.Error(c.name, "changed")
		}
	}
}

func TestStringsShareNothing(t *testing.T) {
	for _, c := range codings() {
		memory := []byte("gatepath")
		s := c.to(memory)
		want := strings.Clone(s)
		clear(memory)
		x, _ := c.from(s)
		y, _ := c.from(s)
		clear(x[:cap(x)])
		if s != want || string(y) != "gatepath" {
			t.Error(c.name, s, y)
		}
		if z, e := c.from(s); string(z) != "gatepath" || e != api.OK {
			t.Error(c.name, z, e)
		}
	}
}
