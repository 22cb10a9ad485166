package cert

import (
	"bytes"
	"math"
	"slices"
	"testing"

	"gatepath/api"
	"gatepath/merkle"
)

// public returns the public key of a tree.
func public(t *testing.T, seed api.Short, height int) api.PublicKey {
	t.Helper()
	key, e := merkle.Key(seed, height)
	if e != api.OK {
		t.Fatal(e)
	}
	return key
}

// treeSig returns the signature of the body of a certificate, as the model has it.
func treeSig(t *testing.T, c api.Cert, seed api.Short, height, index int) api.KeySig {
	t.Helper()
	sig, e := merkle.Sign(seed, height, index, modelBody(c))
	if e != api.OK {
		t.Fatal(e)
	}
	return sig
}

// P10.3

func TestSign(t *testing.T) {
	list := validCerts()
	for height := range api.MaxHeight + 1 {
		for index := range 1 << height {
			seed := api.Short{byte(height), byte(index)}
			c := list[(7*height+index)%len(list)]
			want := c
			want.Sig = treeSig(t, c, seed, height, index)
			if got := signed(t, c, seed, height, index); show(got) != show(want) || Check(got) != api.OK {
				t.Fatal(height, index, brief(got))
			}
		}
	}
}

// TestSignAgain signs certificates that have signatures of all kinds.
func TestSignAgain(t *testing.T) {
	want := signed(t, authority(), counted(), 2, 1)
	for i, change := range slices.Concat(sigEdits(), badSigs()) {
		if got := signed(t, changed(authority(), change), counted(), 2, 1); show(got) != show(want) {
			t.Fatal(i, brief(got))
		}
	}
	again := signed(t, want, api.Short{}, 0, 0)
	if !Same(signed(t, again, counted(), 2, 1), want) || Same(again, want) {
		t.Error(brief(again))
	}
}

func TestSignEmptyLists(t *testing.T) {
	c := minimal()
	c.Res = api.Resources{V4: []api.Span{}, V6: []api.Span{}, As: []api.AsSpan{}}
	if got := signed(t, c, counted(), 0, 0); !Same(got, signed(t, minimal(), counted(), 0, 0)) {
		t.Error(brief(got))
	}
}

func TestSignWrong(t *testing.T) {
	refused := func(c api.Cert, height, index int, want api.Errno) {
		t.Helper()
		if got, e := Sign(c, counted(), height, index); e != want || !isZero(got) {
			t.Error(brief(c), height, index, brief(got), e, want)
		}
	}
	for _, height := range []int{-1, -5, 5, 6, 64, math.MinInt, math.MaxInt} {
		refused(authority(), height, 0, api.ErrArg)
		refused(minimal(), height, -1, api.ErrArg)
	}
	for height := range api.MaxHeight + 1 {
		for _, index := range []int{-1, 1 << height, 16, 1 << 32, math.MinInt, math.MaxInt} {
			refused(authority(), height, index, api.ErrArg)
			refused(heir(), height, index, api.ErrArg)
		}
	}
	for _, change := range slices.Concat(badFields(), badResources(), badPlaces()) {
		refused(changed(authority(), change), 2, 3, api.ErrBad)
		refused(changed(authority(), change), 5, -1, api.ErrBad)
	}
	for _, change := range manyEdits() {
		refused(changed(authority(), change), 0, 0, api.ErrMany)
		refused(changed(authority(), change), -1, 0, api.ErrMany)
	}
}

// P10.4

// TestVerify verifies what Sign returns, with the key of its tree (P10.5) and with others.
func TestVerify(t *testing.T) {
	list := validCerts()
	for height := range api.MaxHeight + 1 {
		key := public(t, counted(), height)
		for index := range 1 << height {
			c := signed(t, list[(5*height+index)%len(list)], counted(), height, index)
			if e := Verify(c, key); e != api.OK {
				t.Fatal(height, index, e)
			}
			for h := -1; h < 7; h++ {
				if e := Verify(c, api.PublicKey{Root: key.Root, Height: h}); (e == api.OK) != (h == height) || e != api.OK && e != api.ErrSign {
					t.Fatal(height, index, h, e)
				}
			}
			for _, other := range []api.PublicKey{{}, {Height: height}, public(t, api.Short{}, height), c.Key} {
				if e := Verify(c, other); e != api.ErrSign {
					t.Fatal(height, index, other, e)
				}
			}
		}
	}
}

// TestVerifyChanged changes fields behind the signature.
func TestVerifyChanged(t *testing.T) {
	key := public(t, counted(), 2)
	c := signed(t, authority(), counted(), 2, 1)
	for i, change := range bodyEdits() {
		other := changed(c, change)
		if e := Verify(other, key); e != api.ErrSign || Verify(signed(t, other, counted(), 2, 1), key) != api.OK {
			t.Error(i, e)
		}
	}
	for i, change := range sigEdits() {
		if e := Verify(changed(c, change), key); e != api.ErrSign {
			t.Error(i, e)
		}
	}
	for i := range api.OneChains {
		if e := Verify(changed(c, func(c *api.Cert) { c.Sig.Chains[i][i%16] ^= 1 }), key); e != api.ErrSign {
			t.Error(i, e)
		}
	}
	for i, change := range []edit{
		func(c *api.Cert) { c.Sig = api.KeySig{} },
		func(c *api.Cert) { c.Sig.Index = 0 },
		func(c *api.Cert) { c.Sig.Index = 3 },
		func(c *api.Cert) { c.Sig.Path[0][0] ^= 1 },
		func(c *api.Cert) { c.Sig.Path[1][15] ^= 128 },
		func(c *api.Cert) { c.Sig.Path[0], c.Sig.Path[1] = c.Sig.Path[1], c.Sig.Path[0] },
		func(c *api.Cert) { c.Sig.Path = c.Sig.Path[:1] },
		func(c *api.Cert) { c.Sig = signed(t, minimal(), counted(), 2, 1).Sig },
	} {
		if e := Verify(changed(c, change), key); e != api.ErrSign {
			t.Error(i, e)
		}
	}
}

// TestVerifyOwnKey has a certificate that is signed by the key that it is about.
func TestVerifyOwnKey(t *testing.T) {
	c := authority()
	c.Key = public(t, counted(), 3)
	if c = signed(t, c, counted(), 3, 5); Verify(c, c.Key) != api.OK {
		t.Error(brief(c))
	}
}

// TestVerifyWrong has certificates that are not valid, though what would be their bodies is signed.
func TestVerifyWrong(t *testing.T) {
	key := public(t, counted(), 1)
	for i, change := range slices.Concat(badFields(), badResources(), badPlaces(), manyEdits()) {
		c := changed(authority(), change)
		c.Sig = treeSig(t, c, counted(), 1, 1)
		for _, sig := range []api.KeySig{c.Sig, {}, fitting(1, 0), {Index: -1}} {
			c.Sig = sig
			want := modelCheck(c)
			if e := Verify(c, key); want == api.OK || e != want {
				t.Error(i, brief(c), e, want)
			}
		}
	}
	for i, change := range badSigs() {
		for _, k := range []api.PublicKey{key, {}, {Height: -1}, {Height: 5}} {
			if e := Verify(changed(authority(), change), k); e != api.ErrBad {
				t.Error(i, k, e)
			}
		}
	}
}

// P10.5

// TestBodiesTellCerts has pairs of valid certificates: the same but for Sig, and others.
func TestBodiesTellCerts(t *testing.T) {
	list := validCerts()
	var bodies [][]byte
	for _, c := range list {
		bodies = append(bodies, body(t, c))
	}
	pairs := 0
	for i, a := range list {
		for j, b := range list {
			a.Sig, b.Sig = api.KeySig{}, api.KeySig{}
			same := show(a) == show(b)
			if bytes.Equal(bodies[i], bodies[j]) != same {
				t.Fatal(brief(a), brief(b), same)
			}
			if same && i != j {
				pairs++
			}
		}
	}
	if pairs == 0 {
		t.Error("no pair is the same but for Sig")
	}
}

// TestDecodedVerifies verifies a certificate that was encoded and decoded.
func TestDecodedVerifies(t *testing.T) {
	key := public(t, counted(), 2)
	for _, c := range []api.Cert{minimal(), authority(), heir(), full()} {
		d, e := Decode(encoded(t, signed(t, c, counted(), 2, 3)))
		if e != api.OK || Verify(d, key) != api.OK {
			t.Error(brief(c), e)
		}
	}
}
