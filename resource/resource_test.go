package resource

import (
	"math"
	"math/rand"
	"slices"
	"strings"
	"testing"

	"gatepath/api"
	"gatepath/number"
	"gatepath/span"
)

const most = math.MaxUint64

func read(t *testing.T, s string) api.Resources {
	t.Helper()
	r, e := Parse(s)
	if e != api.OK {
		t.Fatalf("%q: %v", s, e)
	}
	return r
}

func prefix(t *testing.T, s string) api.Prefix {
	t.Helper()
	p, e := number.Parse(s)
	if e != api.OK {
		t.Fatalf("%q: %v", s, e)
	}
	return p
}

// text returns the string of resources, or their error.
func text(r api.Resources) string {
	s, e := Text(r)
	if e != api.OK {
		return e.Error()
	}
	return s
}

func spans(ends ...uint64) []api.Span {
	var out []api.Span
	for i := 0; i < len(ends); i += 2 {
		out = append(out, api.Span{From: api.Addr{Low: ends[i]}, To: api.Addr{Low: ends[i+1]}})
	}
	return out
}

func systems(ends ...uint32) []api.AsSpan {
	var out []api.AsSpan
	for i := 0; i < len(ends); i += 2 {
		out = append(out, api.AsSpan{From: ends[i], To: ends[i+1]})
	}
	return out
}

// every returns n spans of one element each: first, first + step, and so on, in each of the three lists.
func every(n int, first, step uint64) api.Resources {
	var r api.Resources
	for i := range uint64(n) {
		a := first + i*step
		r.V4 = append(r.V4, spans(a, a)...)
		r.V6 = append(r.V6, spans(a, a)...)
		r.As = append(r.As, systems(uint32(a), uint32(a))...)
	}
	return r
}

// parts returns the three resources that have one of the lists of r each.
func parts(r api.Resources) []api.Resources {
	return []api.Resources{{V4: r.V4}, {V6: r.V6}, {As: r.As}}
}

// all are the resources that have all elements.
func all() api.Resources {
	return api.Resources{
		V4: spans(0, 1<<32-1),
		V6: []api.Span{{To: api.Addr{High: most, Low: most}}},
		As: systems(0, 1<<32-1),
	}
}

type wrong struct {
	r       api.Resources
	made    api.Errno // by Make
	checked api.Errno // by Check
}

// wrongs are resources that Check refuses.
func wrongs() []wrong {
	edge := api.Addr{Low: most}
	many := parts(every(api.MaxSpans+1, 0, 2))
	touching := every(api.MaxSpans+1, 0, 1)
	list := []wrong{
		// Spans that are not valid.
		{api.Resources{V4: spans(2, 1)}, api.ErrBad, api.ErrBad},
		{api.Resources{V6: spans(2, 1)}, api.ErrBad, api.ErrBad},
		{api.Resources{As: systems(2, 1)}, api.ErrBad, api.ErrBad},
		{api.Resources{As: systems(1<<32-1, 0)}, api.ErrBad, api.ErrBad},
		{api.Resources{V4: spans(0, 1<<32)}, api.ErrBad, api.ErrBad},
		{api.Resources{V4: spans(1<<32, 1<<32)}, api.ErrBad, api.ErrBad},
		{api.Resources{V4: []api.Span{{To: api.Addr{High: 1}}}}, api.ErrBad, api.ErrBad},
		{api.Resources{V4: []api.Span{{From: api.Addr{High: 1}, To: api.Addr{High: 1}}}}, api.ErrBad, api.ErrBad},
		{api.Resources{V6: []api.Span{{From: api.Addr{High: 1}, To: api.Addr{Low: most}}}}, api.ErrBad, api.ErrBad},
		{api.Resources{V4: spans(1, 2, 9, 8)}, api.ErrBad, api.ErrBad},
		{api.Resources{V4: spans(9, 8, 11, 12)}, api.ErrBad, api.ErrBad},
		{api.Resources{V6: spans(1, 2, 4, 5, 9, 8)}, api.ErrBad, api.ErrBad},
		{api.Resources{As: systems(1, 2, 9, 8, 11, 11)}, api.ErrBad, api.ErrBad},
		// Lists that are not normal: they touch, overlap, are equal, or not in order.
		{api.Resources{V4: spans(1, 2, 3, 4)}, api.OK, api.ErrBad},
		{api.Resources{V4: spans(1, 2, 2, 4)}, api.OK, api.ErrBad},
		{api.Resources{V4: spans(1, 2, 1, 2)}, api.OK, api.ErrBad},
		{api.Resources{V4: spans(5, 6, 1, 2)}, api.OK, api.ErrBad},
		{api.Resources{V4: spans(1, 9, 3, 4)}, api.OK, api.ErrBad},
		{api.Resources{V4: spans(0, 1<<32-1, 1<<32-1, 1<<32-1)}, api.OK, api.ErrBad},
		{api.Resources{V4: spans(0, 1<<32-1, 0, 0)}, api.OK, api.ErrBad},
		{api.Resources{V6: spans(1, 2, 4, 5, 6, 7)}, api.OK, api.ErrBad},
		{api.Resources{V6: []api.Span{{To: edge}, {From: api.Addr{High: 1}, To: api.Addr{High: 2}}}}, api.OK, api.ErrBad},
		{api.Resources{V6: []api.Span{{To: api.Addr{High: most, Low: most}}, {}}}, api.OK, api.ErrBad},
		{api.Resources{As: systems(1, 2, 3, 4)}, api.OK, api.ErrBad},
		{api.Resources{As: systems(5, 6, 1, 2)}, api.OK, api.ErrBad},
		{api.Resources{As: systems(0, 1<<32-1, 0, 0)}, api.OK, api.ErrBad},
		{api.Resources{As: systems(1<<32-1, 1<<32-1, 0, 0)}, api.OK, api.ErrBad},
		// Too many spans come first, even if another list is not valid.
		{api.Resources{V4: spans(2, 1), V6: many[1].V6}, api.ErrMany, api.ErrMany},
		{api.Resources{V4: spans(2, 1), As: many[2].As}, api.ErrMany, api.ErrMany},
		{api.Resources{V4: many[0].V4, As: systems(2, 1)}, api.ErrMany, api.ErrMany},
		{api.Resources{V4: append(spans(2, 1), many[0].V4...)}, api.ErrMany, api.ErrMany},
		{touching, api.ErrMany, api.ErrMany},
		{every(1000, 0, 2), api.ErrMany, api.ErrMany},
	}
	for _, r := range slices.Concat(many, parts(touching)) {
		list = append(list, wrong{r, api.ErrMany, api.ErrMany})
	}
	return list
}

func isZero(r api.Resources) bool {
	return len(r.V4) == 0 && len(r.V6) == 0 && len(r.As) == 0
}

// P3.1

func TestCheck(t *testing.T) {
	for _, r := range []api.Resources{
		{}, {V4: []api.Span{}, V6: []api.Span{}, As: []api.AsSpan{}}, all(), every(api.MaxSpans, 0, 2), every(api.MaxSpans, 7, 3),
		{V4: spans(0, 0)}, {V4: spans(1, 2, 4, 4)}, {V4: spans(0, 1<<32-3, 1<<32-1, 1<<32-1)}, {V4: spans(0, 0, 2, 1<<32-1)},
		{V6: spans(1, 2, 4, 4)}, {V6: []api.Span{{To: api.Addr{Low: most}}, {From: api.Addr{High: 1, Low: 1}, To: api.Addr{High: most, Low: most}}}},
		{As: systems(1, 2, 4, 4)}, {As: systems(0, 1<<32-3, 1<<32-1, 1<<32-1)},
	} {
		if e := Check(r); e != api.OK {
			t.Error(r, e)
		}
	}
	for _, r := range parts(every(api.MaxSpans, 0, 2)) {
		if e := Check(r); e != api.OK {
			t.Error(r, e)
		}
	}
	for _, c := range wrongs() {
		if e := Check(c.r); e != c.checked {
			t.Error(c, e)
		}
	}
}

func TestMake(t *testing.T) {
	greatest := api.Addr{High: most, Low: most}
	for _, c := range []struct {
		r    api.Resources
		want string
	}{
		{api.Resources{}, ""},
		{api.Resources{V4: spans(0, 1<<32-1, 1<<32-1, 1<<32-1, 0, 0)}, "0.0.0.0/0"},
		{api.Resources{V4: spans(1, 2, 3, 4)}, "0.0.0.1-0.0.0.4"},
		{api.Resources{V4: spans(3, 4, 1, 2)}, "0.0.0.1-0.0.0.4"},
		{api.Resources{V4: spans(1, 2, 4, 5)}, "0.0.0.1-0.0.0.2, 0.0.0.4/31"},
		{api.Resources{V4: spans(1, 9, 3, 4)}, "0.0.0.1-0.0.0.9"},
		{api.Resources{V4: spans(3, 4, 1, 9)}, "0.0.0.1-0.0.0.9"},
		{api.Resources{V4: spans(1, 9, 3, 4, 10, 10)}, "0.0.0.1-0.0.0.10"},
		{api.Resources{V4: spans(1, 2, 1, 2, 1, 7)}, "0.0.0.1-0.0.0.7"},
		{api.Resources{V4: spans(8, 8, 6, 6, 4, 4, 2, 2)}, "0.0.0.2/32, 0.0.0.4/32, 0.0.0.6/32, 0.0.0.8/32"},
		{api.Resources{V4: spans(1<<32-1, 1<<32-1, 1<<32-2, 1<<32-2)}, "255.255.255.254/31"},
		{api.Resources{V6: []api.Span{{From: api.Addr{High: 1}, To: api.Addr{High: 1, Low: most}}, {To: api.Addr{Low: most}}}}, "::/63"},
		{api.Resources{V6: []api.Span{{From: greatest, To: greatest}, {}, {From: api.Addr{Low: 1}, To: greatest}}}, "::/0"},
		{api.Resources{As: systems(9, 9, 1, 4, 5, 7)}, "AS1-AS7, AS9"},
		{api.Resources{As: systems(1<<32-1, 1<<32-1, 0, 1<<32-2)}, "AS0-AS4294967295"},
		{api.Resources{V4: spans(1, 1), V6: spans(1, 1), As: systems(1, 1)}, "0.0.0.1/32, ::1/128, AS1"},
		{every(api.MaxSpans, 0, 1), "0.0.0.0-0.0.0.199, ::-::c7, AS0-AS199"},
	} {
		if r, e := Make(c.r); text(r) != c.want || e != api.OK {
			t.Error(c, text(r), e)
		}
	}
	for _, c := range wrongs() {
		if r, e := Make(c.r); e != c.made || e != api.OK && !isZero(r) || e == api.OK && Check(r) != api.OK {
			t.Error(c, r, e)
		}
	}
}

func TestMakeOfManySpans(t *testing.T) {
	r := every(api.MaxSpans, 5, 2)
	back := api.Resources{V4: slices.Clone(r.V4), V6: slices.Clone(r.V6), As: slices.Clone(r.As)}
	slices.Reverse(back.V4)
	slices.Reverse(back.V6)
	slices.Reverse(back.As)
	if x, e := Make(back); !Same(x, r) || e != api.OK {
		t.Error(x, e)
	}
}

// P3.2

func TestOperations(t *testing.T) {
	for _, c := range []struct{ a, b, union, inter, minus string }{
		{"", "", "", "", ""},
		{"10.0.0.0/24", "", "10.0.0.0/24", "", "10.0.0.0/24"},
		{"", "10.0.0.0/24", "10.0.0.0/24", "", ""},
		{"10.0.0.0/24", "10.0.0.0/24", "10.0.0.0/24", "10.0.0.0/24", ""},
		{"10.0.0.0/24", "10.0.1.0/24", "10.0.0.0/23", "", "10.0.0.0/24"},
		{"10.0.0.0/24", "10.0.0.128/25", "10.0.0.0/24", "10.0.0.128/25", "10.0.0.0/25"},
		{"10.0.0.0/24", "10.0.1.1/32", "10.0.0.0/24, 10.0.1.1/32", "", "10.0.0.0/24"},
		{"0.0.0.0/0", "255.255.255.255/32", "0.0.0.0/0", "255.255.255.255/32", "0.0.0.0-255.255.255.254"},
		{"0.0.0.0/0", "0.0.0.0/32", "0.0.0.0/0", "0.0.0.0/32", "0.0.0.1-255.255.255.255"},
		{"0.0.0.0/0", "0.0.0.0/32, 255.255.255.255/32", "0.0.0.0/0", "0.0.0.0/32, 255.255.255.255/32", "0.0.0.1-255.255.255.254"},
		{"0.0.0.0/1", "128.0.0.0/1", "0.0.0.0/0", "", "0.0.0.0/1"},
		{"10.0.0.0/8", "10.1.0.0/16, 10.3.0.0/16", "10.0.0.0/8", "10.1.0.0/16, 10.3.0.0/16", "10.0.0.0/16, 10.2.0.0/16, 10.4.0.0-10.255.255.255"},
		{"10.0.0.1/32, 10.0.0.3/32", "10.0.0.2/32", "10.0.0.1-10.0.0.3", "", "10.0.0.1/32, 10.0.0.3/32"},
		{"10.0.0.0-10.0.0.5", "10.0.0.3-10.0.0.9", "10.0.0.0-10.0.0.9", "10.0.0.3-10.0.0.5", "10.0.0.0-10.0.0.2"},
		{"10.0.0.3-10.0.0.9", "10.0.0.0-10.0.0.5", "10.0.0.0-10.0.0.9", "10.0.0.3-10.0.0.5", "10.0.0.6-10.0.0.9"},
		{"::/0", "1::/16", "::/0", "1::/16", "::/16, 2::-ffff:ffff:ffff:ffff:ffff:ffff:ffff:ffff"},
		{"::/64", "0:0:0:1::/64", "::/63", "", "::/64"},
		{"::/64", "::1:0:0:0:1/128", "::/64, ::1:0:0:0:1/128", "", "::/64"},
		{"AS1-AS5", "AS6", "AS1-AS6", "", "AS1-AS5"},
		{"AS0-AS4294967295", "AS7", "AS0-AS4294967295", "AS7", "AS0-AS6, AS8-AS4294967295"},
		{"AS4294967294", "AS4294967295", "AS4294967294-AS4294967295", "", "AS4294967294"},
		// The three lists have nothing to do with each other.
		{"0.0.0.1/32", "::1/128, AS1", "0.0.0.1/32, ::1/128, AS1", "", "0.0.0.1/32"},
		{"0.0.0.0/0, ::/0, AS0-AS4294967295", "1.0.0.0/8, 1::/16, AS1", "0.0.0.0/0, ::/0, AS0-AS4294967295", "1.0.0.0/8, 1::/16, AS1", "0.0.0.0/8, 2.0.0.0-255.255.255.255, ::/16, 2::-ffff:ffff:ffff:ffff:ffff:ffff:ffff:ffff, AS0, AS2-AS4294967295"},
	} {
		a, b := read(t, c.a), read(t, c.b)
		if r, e := Union(a, b); text(r) != c.union || e != api.OK {
			t.Error(c, "union", text(r), e)
		}
		if r, e := Inter(a, b); text(r) != c.inter || e != api.OK {
			t.Error(c, "inter", text(r), e)
		}
		if r, e := Minus(a, b); text(r) != c.minus || e != api.OK {
			t.Error(c, "minus", text(r), e)
		}
	}
}

type operation = func(a, b api.Resources) (api.Resources, api.Errno)

func operations() map[string]operation {
	return map[string]operation{"union": Union, "inter": Inter, "minus": Minus}
}

func TestOperationsOfWrong(t *testing.T) {
	bad, many := api.Resources{As: systems(2, 1)}, api.Resources{V6: every(api.MaxSpans+1, 0, 2).V6}
	for name, f := range operations() {
		for _, c := range wrongs() {
			for _, other := range []api.Resources{{}, all(), every(api.MaxSpans, 0, 2)} {
				if r, e := f(c.r, other); !isZero(r) || e != c.checked {
					t.Error(name, c, r, e)
				}
				if r, e := f(other, c.r); !isZero(r) || e != c.checked {
					t.Error(name, c, r, e)
				}
			}
			// The error of a comes first.
			if r, e := f(c.r, bad); !isZero(r) || e != c.checked {
				t.Error(name, c, r, e)
			}
			if r, e := f(c.r, many); !isZero(r) || e != c.checked {
				t.Error(name, c, r, e)
			}
		}
	}
}

func TestOperationsLimit(t *testing.T) {
	for i, a := range parts(every(api.MaxSpans, 0, 4)) {
		far, fill := parts(every(1, 1<<20, 4))[i], parts(every(1, 1, 4))[i]
		if r, e := Union(a, far); !isZero(r) || e != api.ErrMany {
			t.Error("one more", i, r, e)
		}
		if r, e := Union(a, fill); isZero(r) || e != api.OK {
			t.Error("one wider", i, r, e)
		}
		if r, e := Union(a, a); !Same(r, a) || e != api.OK {
			t.Error("the same", i, r, e)
		}
		// 200 spans with 199 gaps, and with 200, less or together with all between.
		between, whole := parts(every(api.MaxSpans-1, 2, 4))[i], parts(all())[i]
		if r, e := Minus(whole, between); e != api.OK || Check(r) != api.OK || isZero(r) {
			t.Error("less 199", i, r, e)
		}
		inside := parts(every(api.MaxSpans, 2, 4))[i]
		if r, e := Minus(whole, inside); !isZero(r) || e != api.ErrMany {
			t.Error("less 200", i, r, e)
		}
		if r, e := Union(a, inside); !isZero(r) || e != api.ErrMany {
			t.Error("both", i, r, e)
		}
	}
}

// 200 spans and 200 others may have up to 399 spans in common.
func TestInterLimit(t *testing.T) {
	var a, b api.Resources
	for i := range uint64(api.MaxSpans) {
		a.V4 = append(a.V4, spans(8*i, 8*i+6)...)
		b.V4 = append(b.V4, spans(8*i+6, 8*i+8)...)
	}
	if r, e := Inter(a, b); !isZero(r) || e != api.ErrMany {
		t.Error(r, e)
	}
	b.V4 = b.V4[:100:100]
	if r, e := Inter(a, b); len(r.V4) != 200 || Check(r) != api.OK || e != api.OK {
		t.Error(r, e)
	}
	b.V4 = append(b.V4, spans(8*150+3, 8*150+3)...)
	if r, e := Inter(a, b); !isZero(r) || e != api.ErrMany {
		t.Error(r, e)
	}
}

// P3.3

func TestContains(t *testing.T) {
	for _, c := range []struct {
		a, b string
		is   bool
	}{
		{"", "", true}, {"AS1", "", true}, {"", "AS1", false}, {"", "::/128", false}, {"", "0.0.0.0/32", false},
		{"10.0.0.0/8", "10.0.0.0/8", true}, {"10.0.0.0/8", "10.0.0.0/9", true}, {"10.0.0.0/8", "10.255.255.255/32", true}, {"10.0.0.0/8", "11.0.0.0/32", false}, {"10.0.0.0/8", "9.255.255.255/32", false}, {"10.0.0.0/8", "10.0.0.0/7", false}, {"10.0.0.0/8", "10.255.255.255-11.0.0.0", false}, {"10.0.0.0/8", "9.255.255.255-10.0.0.0", false},
		{"10.0.0.0/9, 10.192.0.0/10", "10.0.0.0/8", false}, {"10.0.0.0/9, 10.192.0.0/10", "10.1.0.0/16, 10.3.0.0/16, 10.255.0.0/16", true}, {"10.0.0.0/9, 10.192.0.0/10", "10.1.0.0/16, 10.128.0.0/32, 10.255.0.0/16", false},
		{"0.0.0.0/0", "10.0.0.0/8, 255.255.255.255/32", true}, {"0.0.0.0/0", "::/128", false}, {"0.0.0.0/0", "AS0", false}, {"::/0", "0.0.0.0/32", false}, {"AS0-AS4294967295", "0.0.0.0/32", false},
		{"::/0", "::1/128, ffff:ffff:ffff:ffff:ffff:ffff:ffff:ffff/128", true}, {"1:2:3:4::/64", "1:2:3:4::/63", false}, {"1:2:3:4::/64", "1:2:3:4:8000::/65", true},
		{"AS1-AS5, AS7", "AS1, AS5, AS7", true}, {"AS1-AS5, AS7", "AS6", false}, {"AS1-AS5, AS7", "AS0", false}, {"AS1-AS5, AS7", "AS5-AS7", false},
		{"10.0.0.0/8, ::/16, AS1", "10.0.0.0/8, ::/16, AS1", true}, {"10.0.0.0/8, ::/16, AS1", "10.0.0.0/8, ::/16, AS2", false}, {"10.0.0.0/8, ::/16, AS1", "10.0.0.0/8, ::/15, AS1", false}, {"10.0.0.0/8, ::/16, AS1", "10.0.0.0/7, ::/16, AS1", false},
	} {
		if is, e := Contains(read(t, c.a), read(t, c.b)); is != c.is || e != api.OK {
			t.Error(c, is, e)
		}
	}
	// What is missing would have too many spans to be resources.
	for i, r := range parts(all()) {
		if is, e := Contains(parts(every(api.MaxSpans, 1, 2))[i], r); is || e != api.OK {
			t.Error(i, is, e)
		}
	}
}

func TestContainsWrong(t *testing.T) {
	bad, many := api.Resources{As: systems(2, 1)}, api.Resources{V6: every(api.MaxSpans+1, 0, 2).V6}
	for _, c := range wrongs() {
		for _, other := range []api.Resources{{}, all(), bad, many} {
			if is, e := Contains(c.r, other); is || e != c.checked {
				t.Error(c, is, e)
			}
			want := c.checked
			if f := Check(other); f != api.OK {
				want = f
			}
			if is, e := Contains(other, c.r); is || e != want {
				t.Error(c, is, e)
			}
		}
	}
}

func TestHasPrefix(t *testing.T) {
	for _, c := range []struct {
		r, p string
		is   bool
	}{
		{"", "0.0.0.0/0", false}, {"", "::/0", false}, {"", "::/128", false}, {"", "0.0.0.0/32", false},
		{"10.0.0.0/8", "10.0.0.0/8", true}, {"10.0.0.0/8", "10.1.0.0/16", true}, {"10.0.0.0/8", "10.255.255.255/32", true}, {"10.0.0.0/8", "10.0.0.0/7", false}, {"10.0.0.0/8", "11.0.0.0/8", false}, {"10.0.0.0/8", "11.0.0.0/32", false}, {"10.0.0.0/8", "9.255.255.255/32", false}, {"10.0.0.0/8", "0.0.0.0/0", false},
		{"10.0.0.0-10.0.0.254", "10.0.0.0/24", false}, {"10.0.0.1-10.0.0.255", "10.0.0.0/24", false}, {"9.255.255.255-10.0.1.0", "10.0.0.0/24", true}, {"10.0.0.0/25, 10.0.0.129-10.0.0.255", "10.0.0.0/24", false},
		{"1.0.0.0/8, 3.0.0.0/8, 5.0.0.0/8", "1.1.0.0/16", true}, {"1.0.0.0/8, 3.0.0.0/8, 5.0.0.0/8", "2.1.0.0/16", false}, {"1.0.0.0/8, 3.0.0.0/8, 5.0.0.0/8", "3.1.0.0/16", true}, {"1.0.0.0/8, 3.0.0.0/8, 5.0.0.0/8", "5.255.0.0/16", true}, {"1.0.0.0/8, 3.0.0.0/8, 5.0.0.0/8", "6.0.0.0/16", false},
		{"0.0.0.0/0", "0.0.0.0/0", true}, {"0.0.0.0/0", "255.255.255.255/32", true}, {"0.0.0.0/0", "::/0", false}, {"0.0.0.0/0", "::/128", false}, {"::/0", "0.0.0.0/0", false}, {"::/0", "0.0.0.0/32", false},
		{"::/0", "::/0", true}, {"::/1", "::/0", false}, {"1:2:3:4::/64", "1:2:3:4:8000::/65", true}, {"1:2:3:4::/64", "1:2:3:4::/63", false}, {"1:2:3:4::-1:2:3:5::", "1:2:3:4::/64", true}, {"1:2:3:4::-1:2:3:5::", "1:2:3:5::/128", true}, {"1:2:3:4::-1:2:3:5::", "1:2:3:5::/127", false},
		{"AS0-AS4294967295", "0.0.0.0/32", false},
	} {
		if is, e := HasPrefix(read(t, c.r), prefix(t, c.p)); is != c.is || e != api.OK {
			t.Error(c, is, e)
		}
	}
}

func TestHasPrefixWrong(t *testing.T) {
	none, bad := api.Prefix{Family: 5, Len: -1}, api.Prefix{Family: 4, Addr: api.Addr{Low: 1}, Len: 31}
	for _, c := range wrongs() {
		for _, p := range []api.Prefix{{Family: 4}, {Family: 6}, none, bad} {
			if is, e := HasPrefix(c.r, p); is || e != c.checked {
				t.Error(c, p, is, e)
			}
		}
	}
	for _, r := range []api.Resources{{}, all()} {
		for _, p := range []api.Prefix{{}, none, {Family: 255}} {
			if is, e := HasPrefix(r, p); is || e != api.ErrArg {
				t.Error(r, p, is, e)
			}
		}
		for _, p := range []api.Prefix{bad, {Family: 4, Len: 33}, {Family: 4, Len: -1}, {Family: 6, Len: 129}, {Family: 6, Len: math.MinInt}, {Family: 6, Len: math.MaxInt}, {Family: 4, Addr: api.Addr{High: 1}, Len: 32}} {
			if is, e := HasPrefix(r, p); is || e != api.ErrBad {
				t.Error(r, p, is, e)
			}
		}
	}
}

func TestHasAs(t *testing.T) {
	for _, c := range []struct {
		r  string
		as uint32
		is bool
	}{
		{"", 0, false}, {"", 1<<32 - 1, false}, {"AS0", 0, true}, {"AS0", 1, false}, {"AS4294967295", 1<<32 - 1, true}, {"AS4294967295", 1<<32 - 2, false}, {"AS4294967295", 0, false},
		{"AS5-AS9, AS11", 4, false}, {"AS5-AS9, AS11", 5, true}, {"AS5-AS9, AS11", 7, true}, {"AS5-AS9, AS11", 9, true}, {"AS5-AS9, AS11", 10, false}, {"AS5-AS9, AS11", 11, true}, {"AS5-AS9, AS11", 12, false},
		{"AS0-AS4294967295", 0, true}, {"AS0-AS4294967295", 1<<32 - 1, true}, {"0.0.0.0/0, ::/0", 1, false},
	} {
		if is, e := HasAs(read(t, c.r), c.as); is != c.is || e != api.OK {
			t.Error(c, is, e)
		}
	}
	for _, c := range wrongs() {
		for _, as := range []uint32{0, 1, 1<<32 - 1} {
			if is, e := HasAs(c.r, as); is || e != c.checked {
				t.Error(c, as, is, e)
			}
		}
	}
}

func TestEmpty(t *testing.T) {
	for _, r := range []api.Resources{{}, {V4: []api.Span{}}, {V4: []api.Span{}, V6: []api.Span{}, As: []api.AsSpan{}}, {V6: make([]api.Span, 0, 5)}} {
		if !Empty(r) {
			t.Error(r)
		}
	}
	for _, r := range slices.Concat(parts(every(1, 0, 1)), parts(all()), []api.Resources{all(), {V4: spans(2, 1)}, {As: systems(2, 1)}}) {
		if Empty(r) {
			t.Error(r)
		}
	}
}

func TestSame(t *testing.T) {
	// Each of them differs from each other one; some are not valid.
	different := []api.Resources{
		{}, all(), every(api.MaxSpans, 0, 2), every(api.MaxSpans+1, 0, 2), every(2, 0, 1),
		{V4: spans(1, 2)}, {V6: spans(1, 2)}, {As: systems(1, 2)}, {V4: spans(1, 3)}, {V4: spans(0, 2)}, {V4: spans(2, 1)}, {V4: spans(1, 2, 4, 5)}, {V4: spans(4, 5, 1, 2)}, {V4: spans(1, 2, 1, 2)},
		{V4: []api.Span{{To: api.Addr{High: 1}}}}, {V6: spans(1, 2, 4, 5)}, {V6: spans(1, 3)}, {V6: []api.Span{{To: api.Addr{High: 1}}}}, {As: systems(1, 3)}, {As: systems(0, 2)}, {As: systems(1, 2, 4, 5)}, {As: systems(4, 5, 1, 2)},
		{V4: spans(1, 2), As: systems(1, 2)}, {V4: spans(1, 2), V6: spans(1, 2)}, {V4: spans(1, 2), V6: spans(1, 2), As: systems(1, 2)},
	}
	for i, a := range different {
		for j, b := range different {
			other := api.Resources{V4: append([]api.Span{}, b.V4...), V6: append([]api.Span{}, b.V6...), As: append([]api.AsSpan{}, b.As...)}
			if Same(a, b) != (i == j) || Same(a, other) != (i == j) || Same(other, a) != (i == j) {
				t.Error(a, b)
			}
		}
	}
}

// P3.4

func TestText(t *testing.T) {
	for _, c := range []struct {
		r    api.Resources
		want string
	}{
		{api.Resources{}, ""},
		{api.Resources{V4: []api.Span{}, V6: []api.Span{}, As: []api.AsSpan{}}, ""},
		{api.Resources{As: systems(1, 5, 7, 7)}, "AS1-AS5, AS7"},
		{api.Resources{As: systems(0, 0)}, "AS0"},
		{api.Resources{As: systems(0, 1)}, "AS0-AS1"},
		{api.Resources{As: systems(0, 1<<32-1)}, "AS0-AS4294967295"},
		{api.Resources{V4: spans(10<<24, 10<<24+255)}, "10.0.0.0/24"},
		{api.Resources{V4: spans(0, 0, 2, 4)}, "0.0.0.0/32, 0.0.0.2-0.0.0.4"},
		{api.Resources{V6: spans(0, 0, 2, 4)}, "::/128, ::2-::4"},
		{api.Resources{V4: spans(1, 1), As: systems(1, 1)}, "0.0.0.1/32, AS1"},
		{api.Resources{V6: spans(1, 1), As: systems(1, 1)}, "::1/128, AS1"},
		{api.Resources{V4: spans(1, 1, 4, 6), V6: spans(1, 1, 4, 6), As: systems(1, 1, 4, 6)}, "0.0.0.1/32, 0.0.0.4-0.0.0.6, ::1/128, ::4-::6, AS1, AS4-AS6"},
		{all(), "0.0.0.0/0, ::/0, AS0-AS4294967295"},
	} {
		if s, e := Text(c.r); s != c.want || e != api.OK {
			t.Error(c, s, e)
		}
		if r, e := Parse(c.want); !Same(r, c.r) || e != api.OK {
			t.Error(c, r, e)
		}
	}
	for _, c := range wrongs() {
		if s, e := Text(c.r); s != "" || e != c.checked {
			t.Error(c, s, e)
		}
	}
}

func TestTextOfMost(t *testing.T) {
	r := every(api.MaxSpans, 0, 2)
	s, e := Text(r)
	if e != api.OK || strings.Count(s, ", ") != 3*api.MaxSpans-1 {
		t.Error(s, e)
	}
	if x, e := Parse(s); !Same(x, r) || e != api.OK {
		t.Error(x, e)
	}
	for _, more := range []string{", AS1000", ", AS1000, AS1002", ", AS1000, AS1002, x", ", "} {
		if x, e := Parse(s + more); !isZero(x) || e != api.ErrForm {
			t.Error(more, e)
		}
	}
	for i, x := range parts(every(api.MaxSpans, 4, 2)) {
		one := text(parts(every(1, 0, 2))[i])
		if y, e := Parse(one + ", " + text(x)); !isZero(y) || e != api.ErrForm {
			t.Error(one, y, e)
		}
	}
}

func TestParseInvalid(t *testing.T) {
	for _, s := range []string{
		" ", ",", ", ", ", , ", "x", "-", "/", "\x00", "AS", "as1", "As1", "AS-1", "AS+1", "AS 1", "AS01", "AS1 ", " AS1", "AS1,", "AS1, ", ", AS1", ",AS1", "AS1\n", "AS4294967296", "AS99999999999999999999", "1", "1-5", "AS1-5", "1-AS5", "AS1-", "-AS1", "AS1--AS5", "AS1-AS5-", "AS1-AS5-AS7", "AS1 - AS5", "AS1-AS05", "AS1-AS4294967296", "AS1–AS5", "AS1.0",
		// The separator is a comma and one space.
		"AS1,AS3", "AS1 AS3", "AS1 , AS3", "AS1,  AS3", "AS1;AS3", "AS1, , AS3", "AS1, AS3,", "AS1,\tAS3", "AS1\n, AS3", "10.0.0.0/24,10.0.2.0/24", "10.0.0.0/24|10.0.2.0/24",
		// A single number has no -, and spans go up.
		"AS5-AS5", "AS5-AS1", "AS4294967295-AS0",
		// Lists that are not normal.
		"AS1, AS1", "AS1, AS2", "AS1-AS3, AS4", "AS1-AS3, AS3-AS5", "AS1-AS3, AS2", "AS3, AS1", "AS0-AS4294967295, AS0",
		"10.0.0.0/24, 10.0.0.0/24", "10.0.0.0/24, 10.0.1.0/24", "10.0.0.0/8, 10.1.0.0/16", "10.0.2.0/24, 10.0.0.0/24", "0.0.0.0/0, 0.0.0.0/32", "10.0.0.1-10.0.0.6, 10.0.0.7/32", "::/128, ::1/128", "::/0, 1::/16", "2::/16, 0:1::/32", "::/64, 0:0:0:1::/64",
		// The order is V4, V6, As.
		"AS1, 10.0.0.0/8", "AS1, ::/0", "::/0, 10.0.0.0/8", "10.0.0.0/8, AS1, ::/0", "10.0.0.0/8, ::/0, 12.0.0.0/8", "AS1, 10.0.0.0/8, AS3",
		// Spans that are none.
		"10.0.0.0", "10.0.0.2, 10.0.0.4-10.0.0.5", "10.0.0.0-10.0.0.255", "10.0.0.1-10.0.0.1", "10.0.0.6-10.0.0.1", "10.0.0.1/24", "10.0.0.0/33", "10.0.0.0/08", "::", "::1-::1", "::2-::1", "::1/127", "::/129", "::A/128", "0::/0", "10.0.0.1-::1", "10.0.0.0/8, x", "x, 10.0.0.0/8", "10.0.0.1-AS5", "AS1-10.0.0.1",
		strings.Repeat(", ", 1<<16), strings.Repeat("AS1, ", 1<<16) + "AS1", strings.Repeat("0", 1<<16), "AS" + strings.Repeat("0", 1<<16), "AS1-AS" + strings.Repeat("9", 1<<16), strings.Repeat("-", 1<<16), strings.Repeat("AS1-", 1<<14),
	} {
		if r, e := Parse(s); !isZero(r) || e != api.ErrForm {
			t.Errorf("Parse(%.60q): %v %v", s, r, e)
		}
	}
}

// P3.5

// worldSize is the number of the elements that a world looks at in each list.
const worldSize = 12

// world is a small part of the addresses and numbers: those from base on, of which resources have those whose bit is set. It is another way to compute with sets.
type world struct {
	base api.Resources // has the first element of each list as From of its only span
}

// worlds are at both ends of the lists, and where the lower half of an address of Family6 ends.
func worlds() []world {
	const top = 1<<32 - worldSize
	six := func(high, low uint64) []api.Span { return []api.Span{{From: api.Addr{High: high, Low: low}}} }
	return []world{
		{api.Resources{V4: spans(0, 0), V6: six(0, 0), As: systems(0, 0)}},
		{api.Resources{V4: spans(top, 0), V6: six(most, most-worldSize+1), As: systems(top, 0)}},
		{api.Resources{V4: spans(1<<31-5, 0), V6: six(0, most-4), As: systems(1<<31-5, 0)}},
	}
}

// at returns the address or number with an index, in each list.
func (w world) at(i int) (v4, v6 api.Addr, as uint32) {
	v4 = api.Addr{Low: w.base.V4[0].From.Low + uint64(i)}
	v6 = w.base.V6[0].From
	for range i {
		v6, _ = span.Next(api.Family6, v6)
	}
	return v4, v6, w.base.As[0].From + uint32(i)
}

type bitmap [3]uint

func (m bitmap) has(list, i int) bool {
	return m[list]>>i&1 == 1
}

// resources returns the normal form of the elements whose bits are set, run by run.
func (w world) resources(m bitmap) api.Resources {
	var r api.Resources
	for list := range m {
		for i := 0; i < worldSize; i++ {
			if !m.has(list, i) {
				continue
			}
			v4, v6, as := w.at(i)
			for i+1 < worldSize && m.has(list, i+1) {
				i++
			}
			v4To, v6To, asTo := w.at(i)
			switch list {
			case 0:
				r.V4 = append(r.V4, api.Span{From: v4, To: v4To})
			case 1:
				r.V6 = append(r.V6, api.Span{From: v6, To: v6To})
			case 2:
				r.As = append(r.As, api.AsSpan{From: as, To: asTo})
			}
		}
	}
	return r
}

func someBits(r *rand.Rand) bitmap {
	var m bitmap
	for i := range m {
		m[i] = uint(r.Intn(1 << worldSize))
		if r.Intn(4) == 0 {
			m[i] &= uint(r.Intn(1 << worldSize))
		}
	}
	return m
}

func (m bitmap) with(n bitmap, f func(a, b uint) uint) bitmap {
	for i := range m {
		m[i] = f(m[i], n[i])
	}
	return m
}

func TestOperationsInSmallWorlds(t *testing.T) {
	r := rand.New(rand.NewSource(1))
	for _, w := range worlds() {
		for range 3000 {
			m, n := someBits(r), someBits(r)
			a, b := w.resources(m), w.resources(n)
			want := map[string]bitmap{
				"union": m.with(n, func(a, b uint) uint { return a | b }),
				"inter": m.with(n, func(a, b uint) uint { return a & b }),
				"minus": m.with(n, func(a, b uint) uint { return a &^ b }),
			}
			for name, f := range operations() {
				x, e := f(a, b)
				if y := w.resources(want[name]); e != api.OK || Check(x) != api.OK || !Same(x, y) {
					t.Fatal(name, text(a), "|", text(b), ":", x, text(y), e)
				}
			}
			if is, e := Contains(a, b); is != (want["inter"] == n) || e != api.OK {
				t.Fatal("contains", text(a), "|", text(b), is, e)
			}
		}
	}
}

func TestElementsInSmallWorlds(t *testing.T) {
	r := rand.New(rand.NewSource(2))
	for _, w := range worlds() {
		for range 500 {
			m := someBits(r)
			x := w.resources(m)
			for i := range worldSize {
				v4, v6, as := w.at(i)
				in4, e := HasPrefix(x, api.Prefix{Family: api.Family4, Addr: v4, Len: 32})
				in6, f := HasPrefix(x, api.Prefix{Family: api.Family6, Addr: v6, Len: 128})
				inAs, g := HasAs(x, as)
				if in4 != m.has(0, i) || in6 != m.has(1, i) || inAs != m.has(2, i) || e != api.OK || f != api.OK || g != api.OK {
					t.Fatal(text(x), i, in4, in6, inAs, e, f, g)
				}
			}
		}
	}
}

func TestMakeInSmallWorlds(t *testing.T) {
	r := rand.New(rand.NewSource(3))
	for _, w := range worlds() {
		for range 3000 {
			var m bitmap
			var x api.Resources
			for range r.Intn(6) {
				i := r.Intn(worldSize)
				j := i + r.Intn(min(worldSize-i, 5))
				v4, v6, as := w.at(i)
				v4To, v6To, asTo := w.at(j)
				run := uint(1)<<(j+1) - uint(1)<<i
				switch list := r.Intn(3); list {
				case 0:
					x.V4, m[list] = append(x.V4, api.Span{From: v4, To: v4To}), m[list]|run
				case 1:
					x.V6, m[list] = append(x.V6, api.Span{From: v6, To: v6To}), m[list]|run
				case 2:
					x.As, m[list] = append(x.As, api.AsSpan{From: as, To: asTo}), m[list]|run
				}
			}
			if y, e := Make(x); e != api.OK || !Same(y, w.resources(m)) {
				t.Fatal(x, y, text(w.resources(m)), e)
			}
		}
	}
}

func someAddr(r *rand.Rand, family uint8) api.Addr {
	if family == api.Family4 {
		return api.Addr{Low: uint64(r.Uint32() >> r.Intn(33))}
	}
	return api.Addr{High: r.Uint64() >> r.Intn(65), Low: r.Uint64() >> r.Intn(65)}
}

// some returns resources with about n spans in each list.
func some(t *testing.T, r *rand.Rand, n int) api.Resources {
	t.Helper()
	var x api.Resources
	for range n {
		for _, family := range []uint8{api.Family4, api.Family6} {
			length := 20 + r.Intn(13)
			if family == api.Family6 && r.Intn(2) == 0 {
				length = 60 + r.Intn(69)
			}
			p, _ := number.Cut(family, someAddr(r, family), length)
			s, e := span.Of(p)
			if e != api.OK {
				t.Fatal(e)
			}
			if family == api.Family4 {
				x.V4 = append(x.V4, s)
			} else {
				x.V6 = append(x.V6, s)
			}
		}
		as := r.Uint32() >> r.Intn(30)
		x.As = append(x.As, systems(as, as+min(uint32(r.Intn(9)), math.MaxUint32-as))...)
	}
	y, e := Make(x)
	if e != api.OK {
		t.Fatal(e)
	}
	return y
}

func do(t *testing.T, f operation, a, b api.Resources) api.Resources {
	t.Helper()
	x, e := f(a, b)
	if e != api.OK || Check(x) != api.OK {
		t.Fatal(x, e, text(a), "|", text(b))
	}
	return x
}

func TestLaws(t *testing.T) {
	r := rand.New(rand.NewSource(4))
	for range 300 {
		n := r.Intn(30)
		a, b := some(t, r, n), some(t, r, r.Intn(30))
		if r.Intn(3) == 0 {
			b = do(t, Union, a, b)
		}
		union, inter, minus := do(t, Union, a, b), do(t, Inter, a, b), do(t, Minus, a, b)
		if !Same(union, do(t, Union, b, a)) || !Same(inter, do(t, Inter, b, a)) {
			t.Fatal("not commutative", text(a), "|", text(b))
		}
		if !Same(do(t, Union, minus, inter), a) || !Empty(do(t, Inter, minus, inter)) {
			t.Fatal("not two parts", text(a), "|", text(b))
		}
		if is, e := Contains(b, a); is != Empty(minus) || e != api.OK {
			t.Fatal("contains", text(a), "|", text(b), is, e)
		}
		for _, part := range []api.Resources{a, b, inter, minus, {}} {
			if is, e := Contains(union, part); !is || e != api.OK {
				t.Fatal("is no part of the union", text(part), text(union), e)
			}
		}
		if x, e := Make(union); !Same(x, union) || e != api.OK {
			t.Fatal("no normal form", text(union), e)
		}
	}
}

func TestStringsAreInverse(t *testing.T) {
	r := rand.New(rand.NewSource(5))
	for range 300 {
		x := some(t, r, r.Intn(40))
		s, e := Text(x)
		if y, f := Parse(s); !Same(x, y) || e != api.OK || f != api.OK {
			t.Fatal(s, e, f)
		}
	}
}

// checkParse fails if a string is accepted that is not the one string of its resources.
func checkParse(t *testing.T, s string) {
	r, e := Parse(s)
	text, f := Text(r)
	if e == api.OK && (f != api.OK || text != s) || e != api.OK && (e != api.ErrForm || !isZero(r)) {
		t.Fatalf("Parse(%q): %v %v", s, r, e)
	}
}

func starts() []string {
	return []string{"", ", ", "AS1-AS5, AS7", "10.0.0.0/8, 11.0.0.1-11.0.0.6, ::/16, 1::1-1::2, AS5, AS7-AS9", "AS1, AS3, AS5", "10.0.0.0/24, 10.0.2.0/24"}
}

func TestParsesOneStringOnly(t *testing.T) {
	r := rand.New(rand.NewSource(6))
	pieces := []string{"0", "00", "1", "2", "a", "A", "AS", ", ", ",", " ", ".", ":", "::", "/", "-", "AS6, ", ", AS8", "12.0.0.0/8, ", "", "\x00"}
	for range 50000 {
		s := starts()[r.Intn(len(starts()))]
		for range 1 + r.Intn(4) {
			i := r.Intn(len(s) + 1)
			j := min(i+r.Intn(4), len(s))
			s = s[:i] + pieces[r.Intn(len(pieces))] + s[j:]
		}
		checkParse(t, s)
	}
}

func FuzzParse(f *testing.F) {
	for _, s := range starts() {
		f.Add(s)
	}
	f.Fuzz(checkParse)
}

// Arguments are only read, and results share no memory with them or with each other (R2).

// roomy returns a copy of a list with something behind its end, and a function that tells whether all of it is as it was.
func roomy[T comparable](list []T, other T) ([]T, func() bool) {
	whole := append(slices.Clone(list), other, other, other)
	before := slices.Clone(whole)
	return whole[:len(list)], func() bool { return slices.Equal(whole, before) }
}

// watched returns a copy of r, and a function that tells whether all of its memory is as it was.
func watched(r api.Resources) (api.Resources, func() bool) {
	odd := api.Span{From: api.Addr{High: 7, Low: 7}, To: api.Addr{High: 5}}
	v4, same4 := roomy(r.V4, odd)
	v6, same6 := roomy(r.V6, odd)
	as, sameAs := roomy(r.As, api.AsSpan{From: 7, To: 5})
	return api.Resources{V4: v4, V6: v6, As: as}, func() bool { return same4() && same6() && sameAs() }
}

// spoil overwrites the whole memory of r.
func spoil(r api.Resources) {
	clear(r.V4[:cap(r.V4)])
	clear(r.V6[:cap(r.V6)])
	clear(r.As[:cap(r.As)])
}

func TestArgumentsAreOnlyRead(t *testing.T) {
	loose := api.Resources{V4: spans(9, 9, 1, 4, 5, 7), V6: spans(9, 9, 1, 4, 5, 7), As: systems(9, 9, 1, 4, 5, 7)}
	tight := api.Resources{V4: spans(1, 4, 9, 9), V6: spans(1, 4, 9, 9), As: systems(1, 4, 9, 9)}
	calls := operations()
	calls["make"] = func(a, b api.Resources) (api.Resources, api.Errno) { return Make(a) }
	for name, f := range calls {
		for _, c := range [][2]api.Resources{{tight, tight}, {tight, {}}, {{}, tight}, {tight, every(3, 2, 3)}, {all(), tight}, {loose, tight}} {
			a, sameA := watched(c[0])
			b, sameB := watched(c[1])
			x, e := f(a, b)
			y, g := f(a, b)
			want := text(y)
			spoil(x)
			if e != g || !sameA() || !sameB() || text(y) != want {
				t.Error(name, c, e, g)
			}
			clear(y.V4[:cap(y.V4)])
			if z, _ := f(a, b); !Same(api.Resources{V6: y.V6, As: y.As}, api.Resources{V6: z.V6, As: z.As}) {
				t.Error(name, c, "shares memory")
			}
		}
	}
}

func TestQuestionsOnlyRead(t *testing.T) {
	for _, r := range []api.Resources{{V4: spans(1, 4, 9, 9), V6: spans(1, 4, 9, 9), As: systems(1, 4, 9, 9)}, {V4: spans(9, 9, 1, 4), V6: spans(5, 4), As: systems(9, 9, 1, 4)}} {
		a, sameA := watched(r)
		b, sameB := watched(r)
		Check(a)
		Contains(a, b)
		HasPrefix(a, api.Prefix{Family: api.Family4, Len: 32})
		HasPrefix(a, api.Prefix{Family: api.Family6, Len: 128})
		HasAs(a, 9)
		Empty(a)
		Same(a, b)
		Text(a)
		if !sameA() || !sameB() {
			t.Error(a, b)
		}
	}
}

// The chapter's examples.

func TestExamples(t *testing.T) {
	if r, e := Union(read(t, "10.0.0.0/24"), read(t, "10.0.1.0/24")); text(r) != "10.0.0.0/23" || e != api.OK {
		t.Error(r, e)
	}
	if r, e := Minus(read(t, "10.0.0.0/24"), read(t, "10.0.0.128/25")); text(r) != "10.0.0.0/25" || e != api.OK {
		t.Error(r, e)
	}
	if s, e := Text(api.Resources{As: systems(1, 5, 7, 7)}); s != "AS1-AS5, AS7" || e != api.OK {
		t.Error(s, e)
	}
}
