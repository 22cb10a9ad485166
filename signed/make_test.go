package signed

import (
	"bytes"
	"crypto/sha256"
	"encoding/hex"
	"math"
	"slices"
	"testing"

	"gatepath/api"
	"gatepath/cert"
	"gatepath/merkle"
)

// public returns the public key of a tree.
func public(t *testing.T, seed api.Short, height int) api.PublicKey {
	t.Helper()
	return must[api.PublicKey](t)(merkle.Key(seed, height))
}

// treeSig returns the signature of what the model has as the body of an object.
func treeSig(t *testing.T, o api.SignedObj, seed api.Short, height, index int) api.KeySig {
	t.Helper()
	return must[api.KeySig](t)(merkle.Sign(seed, height, index, modelBody(o)))
}

// keyed returns an object whose certificate has the key of a tree.
func keyed(t *testing.T, o api.SignedObj, seed api.Short, height int) api.SignedObj {
	t.Helper()
	key := public(t, seed, height)
	return changed(o, func(o *api.SignedObj) { o.Ee.Key = key })
}

// P12.3

// TestKnownObjects has bodies and encodings that were computed with another program, from the chapters.
func TestKnownObjects(t *testing.T) {
	high := api.Short(bytes.Repeat([]byte{255}, 16))
	upTo200 := content(200)
	for i := range upTo200 {
		upTo200[i] = byte(i)
	}
	for i, k := range []struct {
		kind          uint8
		content       []byte
		seed          api.Short
		height, index int
		bodySum, sum  string
		size          int
	}{
		{1, nil, api.Short{}, 0, 0, "a2dc2716c5a80c4feacf861380b30b7abd82f11eaaa79b8a4ce6f7eb8d485b38", "85d1ebbb6733bc3a04e0a166d7129c392b73c8c8183aead4a6fc2fc3388210a2", 1368},
		{2, upTo200, high, 2, 3, "d7e15ac88abe0c901496b94e83c25e0e7157f083748d92c9b0d6dedda07fb1f0", "121fd3f6a82a48a6913a9c05abc5861ca5a90f728ebe89447b3e9ae905db079b", 1604},
		{3, bytes.Repeat([]byte{128}, 127), high, 4, 13, "2c63d8f7ec586b15a12c3f16ba3b116778c4eddb2cde028f417b51b712c4b158", "d5d2492f87a3906100339582e0918b7282fad2465c2d1b9d97a44c73e70dd6a2", 1562},
		{3, content(32768), counted(), 1, 0, "0646ad782b94f16152bb23c7ec12734c6648b1788f39cab07300575ef9165308", "1a83e9160ea5479c87967fe320fd0254128c8dc64e7b81519359103758595e2f", 34157},
	} {
		ee := must[api.Cert](t)(cert.Sign(keyed(t, usual(), k.seed, k.height).Ee, counted(), 2, 3))
		o := must[api.SignedObj](t)(Make(k.kind, k.content, ee, k.seed, k.height, k.index))
		if sum := sha256.Sum256(body(t, o)); hex.EncodeToString(sum[:]) != k.bodySum {
			t.Error(i, hex.EncodeToString(sum[:]))
		}
		b := encoded(t, o)
		if sum := sha256.Sum256(b); len(b) != k.size || hex.EncodeToString(sum[:]) != k.sum {
			t.Error(i, len(b), hex.EncodeToString(sum[:]))
		}
	}
}

// TestMake makes objects with each one-time key of trees, and verifies them (P12.5).
func TestMake(t *testing.T) {
	list := validObjects()
	for height := range 5 {
		for index := range 1 << height {
			seed := api.Short{byte(height), byte(index)}
			want := keyed(t, list[(7*height+11*index)%len(list)], seed, height)
			want.Sig = treeSig(t, want, seed, height, index)
			got := made(t, want, seed, height, index)
			if show(got) != show(want) || Check(got) != api.OK || Verify(got) != api.OK {
				t.Fatal(height, index, brief(got))
			}
		}
	}
}

// TestMakeWrong has arguments that several errors apply to: those of Check come first, then ErrSign, and then ErrArg.
func TestMakeWrong(t *testing.T) {
	refused := func(o api.SignedObj, seed api.Short, height, index int, want api.Errno) {
		t.Helper()
		if got, e := Make(o.Kind, o.Content, o.Ee, seed, height, index); e != want || !isZero(got) {
			t.Error(brief(o), seed, height, index, brief(got), e, want)
		}
	}
	o := keyed(t, usual(), counted(), 2)
	for _, bad := range slices.Concat(badKinds(), badCerts()) {
		refused(changed(o, bad), counted(), 2, 3, api.ErrBad)
		refused(changed(o, bad), api.Short{}, 2, 3, api.ErrBad)
		refused(changed(o, bad), counted(), 5, -1, api.ErrBad)
	}
	for _, many := range slices.Concat(manyBytes(), manyParts()) {
		refused(changed(o, many), counted(), 2, 3, api.ErrMany)
		refused(changed(o, badCerts()[3], many), counted(), -1, 0, api.ErrMany)
		refused(changed(o, badKinds()[3], many), api.Short{}, 2, 4, api.ErrMany)
	}
	for _, index := range []int{0, 3, -1, 16, math.MaxInt} {
		refused(o, api.Short{}, 2, index, api.ErrSign)
		for _, height := range []int{0, 1, 3, 4, -1, 5, 64, math.MinInt, math.MaxInt} {
			refused(o, counted(), height, index, api.ErrSign)
		}
		for _, change := range keyEdits() {
			refused(changed(o, change), counted(), 2, index, api.ErrSign)
		}
	}
	for _, index := range []int{-1, 4, 5, 16, 1 << 32, math.MinInt, math.MaxInt} {
		refused(o, counted(), 2, index, api.ErrArg)
	}
	for height := range 5 {
		refused(keyed(t, example(), counted(), height), counted(), height, 1<<height, api.ErrArg)
	}
}

// TestMakeNoKey has a certificate with the key that merkle.Key returns with an error: there is no such tree nonetheless.
func TestMakeNoKey(t *testing.T) {
	o := usual()
	o.Ee.Key = api.PublicKey{}
	for _, height := range []int{-1, 5, 6, math.MinInt, math.MaxInt} {
		if got, e := Make(o.Kind, o.Content, o.Ee, counted(), height, 0); e != api.ErrSign || !isZero(got) {
			t.Error(height, e)
		}
	}
}

// P12.4

// TestVerify has the same signature, and the same certificate but for its key, of all heights.
func TestVerify(t *testing.T) {
	for height := range 5 {
		for _, of := range []api.SignedObj{example(), signedUsual(), full()} {
			o := keyed(t, of, counted(), height)
			o = made(t, o, counted(), height, 1<<height-1)
			if e := Verify(o); e != api.OK {
				t.Error(height, e)
			}
			for other := range 5 {
				want := api.ErrSign
				if other == height {
					want = api.OK
				}
				if e := Verify(changed(o, func(o *api.SignedObj) { o.Ee.Key.Height = other })); e != want {
					t.Error(height, other, e)
				}
				if e := Verify(keyed(t, o, counted(), other)); e != want {
					t.Error(height, other, e)
				}
				if e := Verify(keyed(t, o, api.Short{}, other)); e != api.ErrSign {
					t.Error(height, other, e)
				}
			}
		}
	}
}

// TestVerifyChanged changes what is signed, the key, and the signature, behind the signing.
func TestVerifyChanged(t *testing.T) {
	o := made(t, keyed(t, usual(), counted(), 2), counted(), 2, 1)
	for i, change := range bodyEdits() {
		other := changed(o, change)
		if e := Verify(other); e != api.ErrSign || Verify(made(t, other, counted(), 2, 1)) != api.OK {
			t.Error(i, e)
		}
	}
	others := slices.Concat(keyEdits(), sigEdits())
	for i := range o.Sig.Chains {
		others = append(others, func(o *api.SignedObj) { o.Sig.Chains[i][i%16] ^= 1 })
	}
	others = append(others,
		func(o *api.SignedObj) { o.Sig = api.KeySig{} },
		func(o *api.SignedObj) { o.Sig.Index = 0 },
		func(o *api.SignedObj) { o.Sig.Index = 3 },
		func(o *api.SignedObj) { o.Sig.Path[0][0] ^= 1 },
		func(o *api.SignedObj) { o.Sig.Path[1][15] ^= 128 },
		func(o *api.SignedObj) { slices.Reverse(o.Sig.Path) },
		func(o *api.SignedObj) { o.Sig.Path = o.Sig.Path[:1] },
		func(x *api.SignedObj) { x.Sig, x.Ee.Sig = api.KeySig{}, o.Sig })
	for i, change := range others {
		if e := Verify(changed(o, change)); e != api.ErrSign {
			t.Error(i, e)
		}
	}
}

// TestVerifyOtherTexts has signatures by the right key, of other bytes than the body.
func TestVerifyOtherTexts(t *testing.T) {
	o := keyed(t, usual(), counted(), 1)
	o.Sig = treeSig(t, o, counted(), 1, 1)
	if e := Verify(o); e != api.OK {
		t.Fatal(e)
	}
	for i, b := range [][]byte{nil, o.Content, modelBody(o)[1:], modelEncode(o), must[[]byte](t)(cert.Body(o.Ee)), modelBody(example())} {
		o.Sig = must[api.KeySig](t)(merkle.Sign(counted(), 1, 1, b))
		if e := Verify(o); e != api.ErrSign {
			t.Error(i, e)
		}
	}
}

// TestVerifyWrong has objects that are not valid, though what would be their bodies is signed.
func TestVerifyWrong(t *testing.T) {
	for i, bad := range slices.Concat(badKinds(), badCerts()[1:], manyBytes(), manyParts()) {
		o := changed(keyed(t, usual(), counted(), 1), bad)
		for _, sig := range []api.KeySig{treeSig(t, o, counted(), 1, 1), {}, fitting(1, 0), {Index: -1}} {
			o.Sig = sig
			want := modelCheck(o)
			if e := Verify(o); want == api.OK || e != want {
				t.Error(i, brief(o), e, want)
			}
		}
	}
	for i, bad := range badSigs() {
		for height := range 5 {
			if e := Verify(changed(keyed(t, usual(), counted(), height), bad)); e != api.ErrBad {
				t.Error(i, height, e)
			}
		}
	}
}

// P12.5

// TestDecodedVerifies verifies an object that was encoded and decoded.
func TestDecodedVerifies(t *testing.T) {
	for _, of := range []api.SignedObj{plain(), example(), usual(), signedUsual(), full()} {
		d, e := Decode(encoded(t, made(t, keyed(t, of, counted(), 2), counted(), 2, 3)))
		if e != api.OK || Verify(d) != api.OK {
			t.Error(brief(d), e)
		}
	}
}

// TestSignersOfCerts has one object whose certificate is signed by different trees, by nobody, or wrongly: it verifies, or it does not, just as before. The same holds for all else in the certificate that the body does not tell.
func TestSignersOfCerts(t *testing.T) {
	o := made(t, keyed(t, usual(), counted(), 2), counted(), 2, 0)
	spoilt := changed(o, func(o *api.SignedObj) { o.Sig.Chains[34][0]++ })
	both := func(what any, change edit) {
		t.Helper()
		if e, f := Verify(changed(o, change)), Verify(changed(spoilt, change)); e != api.OK || f != api.ErrSign {
			t.Error(what, e, f)
		}
	}
	for height := range 5 {
		for _, seed := range []api.Short{{}, counted(), {byte(height)}} {
			ee := must[api.Cert](t)(cert.Sign(o.Ee, seed, height, 1<<height-1))
			both(height, func(o *api.SignedObj) { o.Ee = ee })
			if other := made(t, changed(o, func(o *api.SignedObj) { o.Ee = ee }), counted(), 2, 0); !bytes.Equal(body(t, other), body(t, o)) || !slices.Equal(other.Sig.Chains, o.Sig.Chains) || !cert.Same(other.Ee, ee) {
				t.Error(height, brief(other))
			}
		}
	}
	for i, change := range eeEdits() {
		both(i, change)
	}
}

// TestBodiesTellObjects has pairs of valid objects: they have the same body exactly if they have the same kind and content, and the same Serial, Issuer and Subject.
func TestBodiesTellObjects(t *testing.T) {
	list := validObjects()
	var bodies []string
	for _, o := range list {
		bodies = append(bodies, string(body(t, o)))
	}
	pairs := 0
	for i, a := range list {
		for j, b := range list[:i] {
			same := a.Kind == b.Kind && bytes.Equal(a.Content, b.Content) && a.Ee.Serial == b.Ee.Serial && a.Ee.Issuer == b.Ee.Issuer && a.Ee.Subject == b.Ee.Subject
			if (bodies[i] == bodies[j]) != same {
				t.Fatal(brief(a), brief(b), same)
			}
			if same {
				pairs++
			}
		}
	}
	if pairs == 0 {
		t.Error("no pair has the same body")
	}
}
