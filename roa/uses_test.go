package roa

import (
	"fmt"
	"math"
	"math/rand"
	"slices"
	"testing"

	"gatepath/api"
	"gatepath/number"
	"gatepath/resource"
)

// P14.3

func TestNeedsKnown(t *testing.T) {
	for i, k := range []struct {
		prefixes []string
		want     string
	}{
		{[]string{"10.0.0.0/8"}, "10.0.0.0/8"},
		{[]string{"0.0.0.0/0", "::/0"}, "0.0.0.0/0, ::/0"},
		{[]string{"0.0.0.0/0", "0.0.0.0/1", "255.255.255.255/32"}, "0.0.0.0/0"},
		{[]string{"10.0.0.0/24", "10.0.1.0/24"}, "10.0.0.0/23"},
		{[]string{"10.0.1.0/24", "10.0.2.0/24"}, "10.0.1.0-10.0.2.255"},
		{[]string{"10.0.0.0/24", "10.0.2.0/24"}, "10.0.0.0/24, 10.0.2.0/24"},
		{[]string{"10.0.0.0/8", "10.0.0.0/16", "10.255.0.0/16", "11.0.0.0/32"}, "10.0.0.0-11.0.0.0"},
		{[]string{"0.0.0.0/32", "255.255.255.255/32"}, "0.0.0.0/32, 255.255.255.255/32"},
		{[]string{"::/64", "0:0:0:1::/64"}, "::/63"},
		{[]string{"::/128", "ffff:ffff:ffff:ffff:ffff:ffff:ffff:ffff/128"}, "::/128, ffff:ffff:ffff:ffff:ffff:ffff:ffff:ffff/128"},
		{[]string{"128.0.0.0/1", "::/1", "8000::/1"}, "128.0.0.0/1, ::/0"},
	} {
		a := api.RouteAuth{As: 9}
		for _, s := range k.prefixes {
			a.Prefixes = append(a.Prefixes, upTo(s, widths[prefix(s).Family]))
		}
		r := must[api.Resources](t)(Needs(a))
		if s := must[string](t)(resource.Text(r)); s != k.want {
			t.Error(i, s)
		}
	}
}

// TestNeeds holds the resources against the model. No systems are among them, and neither As nor Max matters.
func TestNeeds(t *testing.T) {
	for i, a := range validAuths() {
		want := fmt.Sprint(modelNeeds(a))
		b := changed(a, func(a *api.RouteAuth) {
			a.As ^= 5
			for j, x := range a.Prefixes {
				a.Prefixes[j].Max = widths[x.Prefix.Family]
			}
			a.Prefixes = slices.Compact(a.Prefixes)
		})
		for _, a := range []api.RouteAuth{a, b} {
			r, e := Needs(a)
			if e != api.OK || resource.Check(r) != api.OK || fmt.Sprint(r) != want {
				t.Fatal(i, brief(a), r, want, e)
			}
		}
	}
}

// TestNeedsAddresses has all sets of prefixes of the last addresses of a family: an address is needed exactly if one of them covers it.
func TestNeedsAddresses(t *testing.T) {
	for _, first := range []string{"255.255.255.252", "0.0.0.0", "0:0:0:1::", "ffff:ffff:ffff:ffff:ffff:ffff:ffff:fffc"} {
		family, addr, _ := number.AddrParse(first)
		width := widths[family]
		var prefixes []api.AuthPrefix
		for length := width - 2; length <= width; length++ {
			for i := range uint64(1) << (length - width + 2) {
				p := api.Prefix{Family: family, Addr: api.Addr{High: addr.High, Low: addr.Low + i<<(width-length)}, Len: length}
				prefixes = append(prefixes, api.AuthPrefix{Prefix: p, Max: width})
			}
		}
		slices.SortFunc(prefixes, modelCompare)
		for set := 1; set < 1<<len(prefixes); set++ {
			a := api.RouteAuth{As: 1}
			for i, x := range prefixes {
				if set>>i&1 == 1 {
					a.Prefixes = append(a.Prefixes, x)
				}
			}
			r := must[api.Resources](t)(Needs(a))
			for i := range uint64(4) {
				p := api.Prefix{Family: family, Addr: api.Addr{High: addr.High, Low: addr.Low + i}, Len: width}
				covers := func(x api.AuthPrefix) bool { return modelCovers(x.Prefix, p) }
				if is, e := resource.HasPrefix(r, p); e != api.OK || is != slices.ContainsFunc(a.Prefixes, covers) {
					t.Fatal(brief(a), p, r, e)
				}
			}
		}
	}
}

func TestOrigins(t *testing.T) {
	for i, a := range validAuths() {
		list, e := Origins(a)
		if e != api.OK || len(list) != len(a.Prefixes) {
			t.Fatal(i, brief(a), list, e)
		}
		for j, x := range a.Prefixes {
			if list[j] != (api.Origin{As: a.As, Prefix: x.Prefix, Max: x.Max}) {
				t.Fatal(i, brief(a), j, list[j])
			}
		}
	}
}

// P14.4

func TestAllowsExample(t *testing.T) {
	for _, k := range []struct {
		p    string
		as   uint32
		want bool
	}{
		{"10.0.0.0/8", 64500, true}, {"10.1.0.0/16", 64500, true}, {"10.1.1.0/24", 64500, false}, {"11.0.0.0/16", 64500, false},
		{"10.0.0.0/8", 64501, false}, {"10.0.0.0/8", 0, false}, {"10.1.0.0/16", 64499, false},
		{"10.255.0.0/16", 64500, true}, {"10.128.0.0/9", 64500, true}, {"10.0.0.0/17", 64500, false}, {"10.0.0.0/7", 64500, false}, {"0.0.0.0/0", 64500, false}, {"a00::/8", 64500, false}, {"a00::/16", 64500, false},
	} {
		if is, e := Allows(example(), prefix(k.p), k.as); e != api.OK || is != k.want {
			t.Error(k, is, e)
		}
	}
}

// TestAllowsSystems has that only the system of the authorisation counts, and that 0 is none.
func TestAllowsSystems(t *testing.T) {
	systems := []uint32{0, 1, 2, 64500, 1 << 16, 1<<16 + 1, 1<<31 - 1, 1 << 31, math.MaxUint32 - 1, math.MaxUint32}
	for _, of := range systems {
		for _, as := range systems {
			a := changed(example(), func(a *api.RouteAuth) { a.As = of })
			if is, e := Allows(a, prefix("10.0.0.0/9"), as); e != api.OK || is != (of == as && of != 0) {
				t.Error(of, as, is, e)
			}
		}
	}
}

// near returns valid prefixes: some of those of a valid authorisation, and some that they cover, or that cover them, or that have another last bit.
func near(a api.RouteAuth) []api.Prefix {
	var list []api.Prefix
	for i, x := range a.Prefixes {
		if i%(1+len(a.Prefixes)/25) > 0 {
			continue
		}
		width := widths[x.Prefix.Family]
		for _, addr := range []api.Addr{x.Prefix.Addr, modelLast(x.Prefix)} {
			for _, length := range []int{0, x.Prefix.Len - 1, x.Prefix.Len, x.Prefix.Len + 1, x.Max - 1, x.Max, x.Max + 1, width} {
				p, e := number.Cut(x.Prefix.Family, addr, length)
				if e == api.OK {
					list = append(list, p, beside(p))
				}
			}
		}
	}
	return list
}

// beside returns the other half of the prefix that is shorter by 1.
func beside(p api.Prefix) api.Prefix {
	switch behind := widths[p.Family] - p.Len; {
	case p.Len == 0:
	case behind >= 64:
		p.Addr.High ^= 1 << (behind - 64)
	default:
		p.Addr.Low ^= 1 << behind
	}
	return p
}

// TestAllows holds what is allowed against the model, and against what P14.5 says of resources and of origins.
func TestAllows(t *testing.T) {
	seen := map[bool]int{}
	for i, a := range validAuths() {
		needs, origins := must[api.Resources](t)(Needs(a)), must[[]api.Origin](t)(Origins(a))
		for _, p := range near(a) {
			for _, as := range []uint32{a.As, a.As + 1, 0} {
				is, e := Allows(a, p, as)
				if e != api.OK || is != modelAllows(a, p, as) {
					t.Fatal(i, brief(a), p, as, is, e)
				}
				says := func(o api.Origin) bool {
					return o.As != 0 && o.As == as && number.Covers(o.Prefix, p) && p.Len <= o.Max
				}
				if has := must[bool](t)(resource.HasPrefix(needs, p)); is && !has || is != slices.ContainsFunc(origins, says) {
					t.Fatal(i, brief(a), p, as, is)
				}
				seen[is]++
			}
		}
	}
	if seen[true] < 1000 || seen[false] < 1000 {
		t.Error(seen)
	}
}

// TestAllowsAny has prefixes that cover each other in authorisations with different Max: a long Max of one of them is enough.
func TestAllowsAny(t *testing.T) {
	a := api.RouteAuth{As: 3, Prefixes: []api.AuthPrefix{upTo("10.0.0.0/8", 8), upTo("10.0.0.0/8", 20), upTo("10.0.0.0/9", 9), upTo("10.128.0.0/9", 28)}}
	for s, want := range map[string]bool{
		"10.0.0.0/8": true, "10.0.0.0/9": true, "10.0.0.0/20": true, "10.0.0.0/21": false, "10.127.240.0/20": true, "10.127.248.0/21": false,
		"10.128.0.0/21": true, "10.255.255.240/28": true, "10.255.255.240/29": false, "10.128.0.0/28": true, "11.0.0.0/28": false,
	} {
		if is, e := Allows(a, prefix(s), 3); e != api.OK || is != want {
			t.Error(s, is, e)
		}
	}
}

// TestAllowsRandom has prefixes that have nothing to do with the authorisation but by chance.
func TestAllowsRandom(t *testing.T) {
	r := rand.New(rand.NewSource(2))
	for i := range 3000 {
		a, p := random(r), randomPrefix(r)
		if is, e := Allows(a, p, a.As); e != api.OK || is != modelAllows(a, p, a.As) {
			t.Fatal(i, brief(a), p, is, e)
		}
	}
}

// TestAllowsWrong has arguments that several errors apply to: that of the authorisation comes first.
func TestAllowsWrong(t *testing.T) {
	prefixes := []api.Prefix{prefix("10.0.0.0/8")}
	for _, x := range badElements() {
		prefixes = append(prefixes, x.Prefix)
	}
	refused := func(a api.RouteAuth, p api.Prefix, want api.Errno) {
		t.Helper()
		for _, as := range []uint32{0, a.As} {
			if is, e := Allows(a, p, as); e != want || is {
				t.Fatal(brief(a), p, as, is, e, want)
			}
		}
	}
	for i, a := range wrongAuths() {
		want := modelCheck(a)
		for _, p := range []api.Prefix{prefixes[0], prefixes[1], prefixes[i%len(prefixes)]} {
			refused(a, p, want)
		}
	}
	seen := map[api.Errno]int{}
	for _, p := range prefixes {
		want := modelPrefix(p)
		if seen[want]++; want != api.OK {
			refused(example(), p, want)
			refused(varied(), p, want)
			refused(changed(varied(), func(a *api.RouteAuth) { a.As = 0 }), p, want)
		}
	}
	if seen[api.ErrArg] == 0 || seen[api.ErrBad] == 0 {
		t.Error(seen)
	}
}
