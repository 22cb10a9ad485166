package revoke

import (
	"bytes"
	"crypto/sha256"
	"encoding/hex"
	"math"
	"slices"
	"testing"

	"gatepath/api"
	"gatepath/merkle"
)

// public returns the public key of a tree.
func public(t *testing.T, seed api.Short, height int) api.PublicKey {
	t.Helper()
	return must[api.PublicKey](t)(merkle.Key(seed, height))
}

// treeSig returns the signature of what the model has as the body of a list.
func treeSig(t *testing.T, l api.RevList, seed api.Short, height, index int) api.KeySig {
	t.Helper()
	return must[api.KeySig](t)(merkle.Sign(seed, height, index, modelBody(l)))
}

// P11.3

// TestKnownSignatures has encodings and keys that were computed with another program, from the chapters.
func TestKnownSignatures(t *testing.T) {
	high := api.Short(bytes.Repeat([]byte{255}, 16))
	for i, k := range []struct {
		list          api.RevList
		seed          api.Short
		height, index int
		size          int
		sum, root     string
	}{
		{example(), api.Short{}, 0, 0, 597, "f23946cec8206033df698a83804d191ca12bab354d2e1cd760b0de653a937b1e", "1f45c74e75e9d43000ca6d84118892db"},
		{varied(), counted(), 2, 3, 701, "1d4b8c1a11de94ec694215ebfab9a2f2531b6c1305e60e15fc359ceb2a36a0cf", "c700be600aa809c52cdabe6de9032bb6"},
		{varied(), high, 4, 13, 733, "150e02f268e54eda267e2216f995fa40f99d49453895dff3a7e1936050bb05ff", "0bbfddb2f0064bfd649c918da0e928da"},
		{full(), counted(), 1, 0, 5668, "f4ebc16901504d51992f9df51cc98d857ff31caa1e896c598829f075bd14adbe", "066be89ecbc16a23d3ed4858aa071a56"},
	} {
		l := signed(t, k.list, k.seed, k.height, k.index)
		b := encoded(t, l)
		if sum := sha256.Sum256(b); len(b) != k.size || hex.EncodeToString(sum[:]) != k.sum {
			t.Error(i, len(b), hex.EncodeToString(sum[:]))
		}
		root, _ := hex.DecodeString(k.root)
		if e := Verify(l, api.PublicKey{Root: api.Short(root), Height: k.height}); e != api.OK {
			t.Error(i, e)
		}
	}
}

func TestSign(t *testing.T) {
	list := validLists()
	for height := range 5 {
		for index := range 1 << height {
			seed := api.Short{byte(height), byte(index)}
			l := list[(7*height+11*index)%len(list)]
			want := l
			want.Sig = treeSig(t, l, seed, height, index)
			if got := signed(t, l, seed, height, index); show(got) != show(want) || Check(got) != api.OK {
				t.Fatal(height, index, brief(got))
			}
		}
	}
}

// TestSignAgain signs lists that have signatures of all kinds.
func TestSignAgain(t *testing.T) {
	want := signed(t, varied(), counted(), 2, 1)
	for i, change := range slices.Concat(sigEdits(), badSigs()) {
		if got := signed(t, changed(varied(), change), counted(), 2, 1); show(got) != show(want) {
			t.Fatal(i, brief(got))
		}
	}
	again := signed(t, want, api.Short{}, 0, 0)
	if !Same(signed(t, again, counted(), 2, 1), want) || Same(again, want) {
		t.Error(brief(again))
	}
}

func TestSignWrong(t *testing.T) {
	refused := func(l api.RevList, height, index int, want api.Errno) {
		t.Helper()
		if got, e := Sign(l, counted(), height, index); e != want || !isZero(got) {
			t.Error(brief(l), height, index, brief(got), e, want)
		}
	}
	for _, height := range []int{-1, -5, 5, 6, 64, math.MinInt, math.MaxInt} {
		refused(varied(), height, 0, api.ErrArg)
		refused(plain(), height, -1, api.ErrArg)
	}
	for height := range 5 {
		for _, index := range []int{-1, 1 << height, 16, 1 << 32, math.MinInt, math.MaxInt} {
			refused(varied(), height, index, api.ErrArg)
			refused(full(), height, index, api.ErrArg)
		}
	}
	for _, bad := range badFields() {
		refused(changed(varied(), bad), 2, 3, api.ErrBad)
		refused(changed(varied(), bad), 5, -1, api.ErrBad)
	}
	for _, many := range manyEdits() {
		refused(changed(varied(), many), 0, 0, api.ErrMany)
		refused(changed(varied(), badFields()[0], many), -1, 0, api.ErrMany)
	}
}

// TestVerify verifies what Sign returns, with the key of its tree (P11.5) and with others.
func TestVerify(t *testing.T) {
	list := validLists()
	for height := range 5 {
		key := public(t, counted(), height)
		for index := range 1 << height {
			l := signed(t, list[(5*height+13*index)%len(list)], counted(), height, index)
			for h := -1; h < 7; h++ {
				want := api.ErrSign
				if h == height {
					want = api.OK
				}
				if e := Verify(l, api.PublicKey{Root: key.Root, Height: h}); e != want {
					t.Fatal(height, index, h, e)
				}
			}
			for _, other := range []api.PublicKey{{}, {Height: height}, public(t, api.Short{}, height)} {
				if e := Verify(l, other); e != api.ErrSign {
					t.Fatal(height, index, other, e)
				}
			}
		}
	}
}

// TestVerifyChanged changes fields, and the signature, behind the signing.
func TestVerifyChanged(t *testing.T) {
	key := public(t, counted(), 2)
	l := signed(t, varied(), counted(), 2, 1)
	for i, change := range bodyEdits() {
		other := changed(l, change)
		if e := Verify(other, key); e != api.ErrSign || Verify(signed(t, other, counted(), 2, 1), key) != api.OK {
			t.Error(i, e)
		}
	}
	other := sigEdits()
	for i := range l.Sig.Chains {
		other = append(other, func(l *api.RevList) { l.Sig.Chains[i][i%16] ^= 1 })
	}
	other = append(other,
		func(l *api.RevList) { l.Sig = api.KeySig{} },
		func(l *api.RevList) { l.Sig.Index = 0 },
		func(l *api.RevList) { l.Sig.Index = 3 },
		func(l *api.RevList) { l.Sig.Path[0][0] ^= 1 },
		func(l *api.RevList) { l.Sig.Path[1][15] ^= 128 },
		func(l *api.RevList) { slices.Reverse(l.Sig.Path) },
		func(l *api.RevList) { l.Sig.Path = l.Sig.Path[:1] },
		func(l *api.RevList) { l.Sig = signed(t, example(), counted(), 2, 1).Sig })
	for i, change := range other {
		if e := Verify(changed(l, change), key); e != api.ErrSign {
			t.Error(i, e)
		}
	}
}

// TestVerifyWrong has lists that are not valid, though what would be their bodies is signed.
func TestVerifyWrong(t *testing.T) {
	key := public(t, counted(), 1)
	for i, bad := range slices.Concat(badFields(), manyEdits()) {
		l := changed(varied(), bad)
		for _, sig := range []api.KeySig{treeSig(t, l, counted(), 1, 1), {}, fitting(1, 0), {Index: -1}} {
			l.Sig = sig
			want := modelCheck(l)
			if e := Verify(l, key); want == api.OK || e != want {
				t.Error(i, brief(l), e, want)
			}
		}
	}
	for i, bad := range badSigs() {
		for _, k := range []api.PublicKey{key, {}, {Height: -1}, {Height: 5}} {
			if e := Verify(changed(varied(), bad), k); e != api.ErrBad {
				t.Error(i, k, e)
			}
		}
	}
}

// P11.5

// TestDecodedVerifies verifies a list that was encoded and decoded.
func TestDecodedVerifies(t *testing.T) {
	key := public(t, counted(), 2)
	for _, l := range []api.RevList{plain(), example(), varied(), full()} {
		d, e := Decode(encoded(t, signed(t, l, counted(), 2, 3)))
		if e != api.OK || Verify(d, key) != api.OK {
			t.Error(brief(l), e)
		}
	}
}

// TestBodiesTellLists has pairs of valid lists: they have the same body if they are the same but for Sig.
func TestBodiesTellLists(t *testing.T) {
	list := validLists()
	var bodies []string
	var shown []string
	for _, l := range list {
		bodies = append(bodies, string(body(t, l)))
		l.Sig = api.KeySig{}
		shown = append(shown, show(l))
	}
	pairs := 0
	for i := range list {
		for j := range i {
			same := shown[i] == shown[j]
			if (bodies[i] == bodies[j]) != same {
				t.Fatal(brief(list[i]), brief(list[j]), same)
			}
			if same {
				pairs++
			}
		}
	}
	if pairs == 0 {
		t.Error("no pair is the same but for Sig")
	}
}

// TestSerialsChangeBodies takes each serial away, and adds some, at each place where that is possible.
func TestSerialsChangeBodies(t *testing.T) {
	key := public(t, counted(), 0)
	for _, l := range []api.RevList{plain(), example(), varied(), {Issuer: "a", Serials: lastSerials(500)}} {
		l = signed(t, l, counted(), 0, 0)
		differ := func(serials []uint64) {
			t.Helper()
			other := changed(l, func(l *api.RevList) { l.Serials = serials })
			if Check(other) != api.OK {
				return
			}
			if bytes.Equal(body(t, l), body(t, other)) || Verify(other, key) != api.ErrSign {
				t.Error(brief(l), brief(other))
			}
		}
		for i := range l.Serials {
			differ(slices.Delete(slices.Clone(l.Serials), i, i+1))
			differ(slices.Insert(slices.Clone(l.Serials), i, l.Serials[i]-1))
		}
		differ(append(slices.Clone(l.Serials), 8))
		differ(append(slices.Clone(l.Serials), math.MaxUint64))
	}
}
