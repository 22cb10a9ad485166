package aspa

import (
	"bytes"
	"crypto/sha256"
	"encoding/hex"
	"fmt"
	"slices"
	"testing"

	"gatepath/api"
	"gatepath/resource"
)

// P15.1

func TestCheckValid(t *testing.T) {
	for i, a := range validAuths() {
		if e := Check(a); e != api.OK || modelCheck(a) != api.OK {
			t.Error(i, brief(a), e)
		}
	}
}

func TestCheckBad(t *testing.T) {
	for i, bad := range badEdits() {
		a := changed(varied(), bad)
		if e := Check(a); e != api.ErrBad || modelCheck(a) != api.ErrBad {
			t.Error(i, brief(a), e)
		}
	}
}

// TestCheckMany has too many providers, some of which are not valid besides: ErrMany comes first.
func TestCheckMany(t *testing.T) {
	for i, many := range manyEdits() {
		if e := Check(changed(varied(), many)); e != api.ErrMany {
			t.Error(i, e)
		}
	}
	for n, want := range map[int]api.Errno{0: api.ErrBad, 1: api.OK, 2: api.OK, 49: api.OK, 50: api.OK, 51: api.ErrMany} {
		if e := Check(auth(1, row(2, n)...)); e != want {
			t.Error(n, e)
		}
	}
}

// TestCheckShortLists has all lists of up to four providers out of some, for some customers.
func TestCheckShortLists(t *testing.T) {
	systems := []uint32{0, 1, 2, 1<<31 - 1, 1 << 31, 1<<32 - 1}
	seen := map[api.Errno]int{}
	var check func(providers []uint32)
	check = func(providers []uint32) {
		for _, customer := range systems {
			a := auth(customer, providers...)
			e := Check(a)
			if seen[e]++; e != modelCheck(a) {
				t.Fatal(brief(a), e)
			}
		}
		if len(providers) == 4 {
			return
		}
		for _, p := range systems {
			check(append(slices.Clone(providers), p))
		}
	}
	check(nil)
	if seen[api.OK] == 0 || seen[api.ErrBad] == 0 || len(seen) != 2 {
		t.Error(seen)
	}
}

// TestCheckBadPlace has one provider that is not right, at each place of a long list.
func TestCheckBadPlace(t *testing.T) {
	for n := 1; n <= 50; n++ {
		for i := range n {
			for _, p := range []uint32{0, 1, 999, 1000, 1000 + uint32(i), 1001 + uint32(i), 1002 + uint32(i), 1051, 1 << 31, 1<<32 - 1} {
				a := auth(1, row(1001, n)...)
				if a.Providers[i] = p; Check(a) != modelCheck(a) {
					t.Fatal(n, i, p, Check(a))
				}
				a.Customer = p
				if Check(a) != api.ErrBad {
					t.Fatal(n, i, p, Check(a))
				}
			}
		}
	}
}

func TestSame(t *testing.T) {
	list := append(validAuths(), wrongAuths()...)
	list = slices.DeleteFunc(list, func(a api.ProviderAuth) bool { return len(a.Providers) > 400 })
	shown := make([]string, len(list))
	for i, a := range list {
		shown[i] = show(a)
	}
	for i, a := range list {
		for j, b := range list {
			if Same(a, b) != (shown[i] == shown[j]) {
				t.Fatal(brief(a), brief(b))
			}
		}
	}
}

// TestSameOther has attestations that are not valid, and differ a little.
func TestSameOther(t *testing.T) {
	base := auth(0, 3, 0, 3, 7)
	for i, other := range []api.ProviderAuth{auth(1, 3, 0, 3, 7), auth(1<<31, 3, 0, 3, 7), auth(0), auth(0, 3, 0, 3), auth(0, 3, 0, 3, 7, 0), auth(0, 3, 0, 3, 7, 7), auth(0, 0, 3, 3, 7), auth(0, 3, 0, 7, 3), auth(0, 0, 3, 7), auth(0, 3, 7), auth(0, 2, 0, 3, 7), auth(0, 3, 0, 3, 7+1<<31), auth(3, 0, 3, 7)} {
		if Same(base, other) || Same(other, base) {
			t.Error(i, brief(other))
		}
	}
	if !Same(base, auth(0, 3, 0, 3, 7)) {
		t.Error("identical ones differ")
	}
	long, other := auth(1, row(0, 1<<17)...), auth(1, row(0, 1<<17)...)
	if !Same(long, other) {
		t.Error("long ones differ")
	}
	if other.Providers[1<<17-1]++; Same(long, other) {
		t.Error("long ones do not differ")
	}
}

func TestSameEmpty(t *testing.T) {
	a, b := api.ProviderAuth{Customer: 5}, api.ProviderAuth{Customer: 5, Providers: []uint32{}}
	if !Same(a, b) || !Same(b, a) || Check(a) != api.ErrBad || Check(b) != api.ErrBad {
		t.Error("nil and empty lists differ")
	}
}

// P15.2: what is known was computed with another program, from the chapters.

func TestExample(t *testing.T) {
	want := []byte{128, 7, 1, 1, 5, 2, 2, 1, 44}
	if b := encoded(t, example()); !bytes.Equal(b, want) {
		t.Error(b)
	}
	if a, e := Decode(want); e != api.OK || show(a) != "5: 300" {
		t.Error(brief(a), e)
	}
}

func TestKnownEncodings(t *testing.T) {
	for i, k := range []struct {
		of   api.ProviderAuth
		size int
		sum  string
	}{
		{auth(64500, 0), 8, "b8d41d65c99021ed4fad096f9f8325ca683b889b8a2e340def8395b2e52ac396"},
		{varied(), 89, "e605c92f55e180d679bafb4c79ea99dd946725d8a66070a9fcd04d6c4e0b521d"},
		{auth(51, row(1, 50)...), 156, "c5231a3697507e09e817c1bb99a69a66c5dc68431fc7c3abd9bf121f18d4433e"},
		{full(), 310, "dd134c469141f4d08edee086da88d6edc9ca01782c153b9f44da06b418d5f0b3"},
	} {
		b := encoded(t, k.of)
		if sum := sha256.Sum256(b); len(b) != k.size || hex.EncodeToString(sum[:]) != k.sum {
			t.Error(i, len(b), hex.EncodeToString(sum[:]))
		}
		if a, e := Decode(b); e != api.OK || show(a) != show(k.of) {
			t.Error(i, brief(a), e)
		}
	}
}

// TestLengthBytes has encodings around 128 bytes of content, from where on the length is written otherwise.
func TestLengthBytes(t *testing.T) {
	for n, want := range map[int][]byte{23: {128, 118, 1, 1, 200, 2}, 24: {128, 123, 1, 1, 200, 2}, 25: {128, 129, 128, 1, 1, 200}, 26: {128, 129, 133, 1, 1, 200}} {
		if b := encoded(t, auth(200, row(1<<16, n)...)); !bytes.Equal(b[:6], want) {
			t.Error(n, b[:6])
		}
	}
}

// TestThereAndBack holds the encodings of valid attestations against the model, and decodes them (P15.4 besides).
func TestThereAndBack(t *testing.T) {
	for i, a := range validAuths() {
		b := encoded(t, a)
		if !bytes.Equal(b, modelEncode(a)) {
			t.Fatal(i, brief(a))
		}
		d, e := Decode(b)
		if e != api.OK || show(d) != show(a) || !Same(a, d) {
			t.Fatal(i, brief(a), brief(d), e)
		}
	}
}

func TestNeeds(t *testing.T) {
	for i, a := range validAuths() {
		r, e := Needs(a)
		if e != api.OK || resource.Check(r) != api.OK || len(r.V4)+len(r.V6) != 0 || !slices.Equal(r.As, []api.AsSpan{{From: a.Customer, To: a.Customer}}) {
			t.Fatal(i, brief(a), r, e)
		}
		if s := must[string](t)(resource.Text(r)); s != fmt.Sprintf("AS%d", a.Customer) {
			t.Fatal(i, brief(a), s)
		}
		for _, p := range a.Providers {
			if is, e := resource.HasAs(r, p); is || e != api.OK {
				t.Fatal(i, brief(a), p, e)
			}
		}
	}
}

// TestWrong has attestations that are not valid: Encode and Needs return Check's error.
func TestWrong(t *testing.T) {
	for i, a := range wrongAuths() {
		want := modelCheck(a)
		b, e := Encode(a)
		if want == api.OK || e != want || len(b) != 0 {
			t.Fatal(i, brief(a), e, want)
		}
		r, e := Needs(a)
		if e != want || len(r.V4)+len(r.V6)+len(r.As) != 0 {
			t.Fatal(i, brief(a), r, e, want)
		}
	}
}
