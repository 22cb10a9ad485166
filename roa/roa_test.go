package roa

import (
	"bytes"
	"crypto/sha256"
	"encoding/hex"
	"math"
	"slices"
	"testing"

	"gatepath/api"
)

// P14.1

func TestCheckValid(t *testing.T) {
	for i, a := range validAuths() {
		if e := Check(a); e != api.OK || modelCheck(a) != api.OK {
			t.Error(i, brief(a), e)
		}
	}
}

func TestCheckBad(t *testing.T) {
	for i, bad := range badEdits() {
		a := changed(varied(), bad)
		if e := Check(a); e != api.ErrBad || modelCheck(a) != api.ErrBad {
			t.Error(i, brief(a), e)
		}
	}
}

// TestCheckMany has too many prefixes, some of which are not valid besides: ErrMany comes first.
func TestCheckMany(t *testing.T) {
	for i, many := range manyEdits() {
		if e := Check(changed(varied(), many)); e != api.ErrMany {
			t.Error(i, e)
		}
	}
	for n, want := range map[int]api.Errno{0: api.ErrBad, 1: api.OK, 99: api.OK, 100: api.OK, 101: api.ErrMany} {
		if e := Check(api.RouteAuth{As: 1, Prefixes: long(n)}); e != want {
			t.Error(n, e)
		}
	}
}

// TestCheckLengths has all lengths and all Max of some addresses, around the widths of both families.
func TestCheckLengths(t *testing.T) {
	for family := range 8 {
		for _, addr := range []api.Addr{{}, {Low: 1}, {Low: 1 << 31}, {Low: 1 << 32}, {High: 1}, {High: 1 << 63}} {
			for length := -2; length <= 130; length++ {
				for most := -2; most <= 130; most++ {
					a := single(api.AuthPrefix{Prefix: api.Prefix{Family: uint8(family), Addr: addr, Len: length}, Max: most})
					if e := Check(a); e != modelCheck(a) {
						t.Fatal(brief(a), e)
					}
				}
			}
		}
	}
}

// TestCheckShortLists has all lists of up to three elements out of some.
func TestCheckShortLists(t *testing.T) {
	elements := []api.AuthPrefix{
		{}, upTo("0.0.0.0/0", 0), upTo("0.0.0.0/0", 1), upTo("0.0.0.0/1", 1), upTo("0.0.0.0/1", 0), upTo("128.0.0.0/1", 1), upTo("128.0.0.0/1", 33), upTo("128.0.0.0/2", 32),
		upTo("::/0", 0), upTo("::/0", 128), upTo("::/128", 128), upTo("::1/128", 128), upTo("8000::/1", 1), upTo("8000::/1", 129), upTo("0:0:0:1::/64", 64), upTo("::8000:0:0:0/65", 65),
	}
	var check func(list []api.AuthPrefix)
	check = func(list []api.AuthPrefix) {
		a := api.RouteAuth{Prefixes: list}
		if e := Check(a); e != modelCheck(a) {
			t.Fatal(brief(a), e)
		}
		if len(list) == 3 {
			return
		}
		for _, x := range elements {
			check(append(slices.Clone(list), x))
		}
	}
	check(nil)
}

// TestCheckBadPlace has one element that is not right, at each place of a long list.
func TestCheckBadPlace(t *testing.T) {
	for i := range 100 {
		for _, x := range []api.AuthPrefix{{}, upTo("0.0.0.0/0", 0), upTo("::/0", 0), long(1)[0], long(100)[99], long(101)[100], {Prefix: long(100)[i].Prefix, Max: 127}, {Prefix: long(100)[i].Prefix, Max: 129}} {
			a := api.RouteAuth{Prefixes: long(100)}
			a.Prefixes[i] = x
			if e := Check(a); e != modelCheck(a) {
				t.Fatal(i, show(single(x)), e)
			}
		}
	}
}

func TestSame(t *testing.T) {
	list := append(validAuths(), api.RouteAuth{}, api.RouteAuth{Prefixes: []api.AuthPrefix{}})
	for _, bad := range badEdits() {
		list = append(list, changed(varied(), bad))
	}
	shown := make([]string, len(list))
	for i, a := range list {
		shown[i] = show(a)
	}
	for i, a := range list {
		for j, b := range list {
			if Same(a, b) != (shown[i] == shown[j]) {
				t.Fatal(brief(a), brief(b))
			}
		}
	}
}

// TestSameFields changes one field after the other of an authorisation that is not valid.
func TestSameFields(t *testing.T) {
	base := api.RouteAuth{As: 1, Prefixes: []api.AuthPrefix{upTo("::1/128", -1), {Prefix: api.Prefix{Family: 7, Addr: api.Addr{High: 1, Low: 2}, Len: -4}, Max: 300}, upTo("::1/128", -1)}}
	for i, change := range []edit{
		func(a *api.RouteAuth) { a.As = 0 },
		func(a *api.RouteAuth) { a.As += 1 << 31 },
		func(a *api.RouteAuth) { a.Prefixes = nil },
		func(a *api.RouteAuth) { a.Prefixes = a.Prefixes[:2] },
		func(a *api.RouteAuth) { a.Prefixes = append(a.Prefixes, api.AuthPrefix{}) },
		func(a *api.RouteAuth) { a.Prefixes[1].Prefix.Family = 6 },
		func(a *api.RouteAuth) { a.Prefixes[1].Prefix.Family += 128 },
		func(a *api.RouteAuth) { a.Prefixes[1].Prefix.Addr.High += 1 << 63 },
		func(a *api.RouteAuth) { a.Prefixes[1].Prefix.Addr.Low += 1 << 63 },
		func(a *api.RouteAuth) { a.Prefixes[1].Prefix.Addr = api.Addr{High: 2, Low: 1} },
		func(a *api.RouteAuth) { a.Prefixes[1].Prefix.Len = 4 },
		func(a *api.RouteAuth) { a.Prefixes[1].Prefix.Len += 256 },
		func(a *api.RouteAuth) { a.Prefixes[1].Prefix.Len = math.MinInt },
		func(a *api.RouteAuth) { a.Prefixes[1].Max = -300 },
		func(a *api.RouteAuth) { a.Prefixes[1].Max += 1 << 32 },
		func(a *api.RouteAuth) { a.Prefixes[2].Max++ },
		func(a *api.RouteAuth) { a.Prefixes[0], a.Prefixes[1] = a.Prefixes[1], a.Prefixes[0] },
	} {
		other := changed(base)
		if !Same(base, other) {
			t.Fatal(i, brief(other))
		}
		change(&other)
		if Same(base, other) || Same(other, base) {
			t.Error(i, brief(other))
		}
	}
}

func TestSameEmpty(t *testing.T) {
	a, b := api.RouteAuth{As: 5}, api.RouteAuth{As: 5, Prefixes: []api.AuthPrefix{}}
	if !Same(a, b) || !Same(b, a) || Check(a) != api.ErrBad || Check(b) != api.ErrBad {
		t.Error("nil and empty lists differ")
	}
}

// P14.2: what is known was computed with another program, from the chapters.

func TestExample(t *testing.T) {
	want := []byte{128, 23, 1, 2, 251, 244, 129, 17, 1, 1, 4, 2, 0, 3, 4, 10, 0, 0, 0, 4, 1, 8, 5, 1, 16}
	if b := encoded(t, example()); !bytes.Equal(b, want) {
		t.Error(b)
	}
	if a, e := Decode(want); e != api.OK || show(a) != show(example()) {
		t.Error(brief(a), e)
	}
}

func TestKnownEncodings(t *testing.T) {
	for i, k := range []struct {
		of   api.RouteAuth
		size int
		sum  string
	}{
		{varied(), 430, "91e5e40a2cfe544528ea7f9b63bb71c912dfc83773774b3a27a66aab21ec8994"},
		{full(), 3110, "66e143baf59a103ace815f103d2d0433f6db335602744e56ff7cbb6dce278d34"},
		{api.RouteAuth{Prefixes: spread(100)}, 1902, "eea1605fa89c9dcb6b359380d6a7d8e140df42211eb10e48f6ea97425e419584"},
	} {
		b := encoded(t, k.of)
		if sum := sha256.Sum256(b); len(b) != k.size || hex.EncodeToString(sum[:]) != k.sum {
			t.Error(i, len(b), hex.EncodeToString(sum[:]))
		}
	}
}

// TestThereAndBack holds the encodings of valid authorisations against the model, and decodes them (P14.5 besides).
func TestThereAndBack(t *testing.T) {
	for i, a := range validAuths() {
		b := encoded(t, a)
		if !bytes.Equal(b, modelEncode(a)) {
			t.Fatal(i, brief(a))
		}
		d, e := Decode(b)
		if e != api.OK || show(d) != show(a) || !Same(a, d) {
			t.Fatal(i, brief(a), brief(d), e)
		}
	}
}

// TestEncodingsDiffer has that different authorisations have different encodings.
func TestEncodingsDiffer(t *testing.T) {
	known := map[string]string{}
	for _, a := range validAuths() {
		b := string(encoded(t, a))
		if other, has := known[b]; has && other != show(a) {
			t.Error(brief(a), other)
		}
		known[b] = show(a)
	}
}

// TestWrong has authorisations that are not valid: all calls but Allows, which TestAllowsWrong has, return Check's error.
func TestWrong(t *testing.T) {
	for i, a := range wrongAuths() {
		want := modelCheck(a)
		b, e := Encode(a)
		if want == api.OK || e != want || len(b) != 0 {
			t.Fatal(i, brief(a), e, want)
		}
		r, e := Needs(a)
		if e != want || len(r.V4)+len(r.V6)+len(r.As) != 0 {
			t.Fatal(i, brief(a), r, e, want)
		}
		list, e := Origins(a)
		if e != want || len(list) != 0 {
			t.Fatal(i, brief(a), list, e, want)
		}
	}
}
