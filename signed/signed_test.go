package signed

import (
	"bytes"
	"encoding/hex"
	"slices"
	"testing"

	"gatepath/api"
	"gatepath/cert"
)

// P12.1

func TestCheckValid(t *testing.T) {
	for i, o := range validObjects() {
		if e := Check(o); e != api.OK || modelCheck(o) != api.OK {
			t.Error(i, brief(o), e)
		}
	}
}

func TestCheckKinds(t *testing.T) {
	for kind := range 256 {
		for _, o := range []api.SignedObj{plain(), signedUsual(), full()} {
			o.Kind = uint8(kind)
			want := api.ErrBad
			if kind == 1 || kind == 2 || kind == 3 {
				want = api.OK
			}
			if e := Check(o); e != want {
				t.Error(kind, brief(o), e)
			}
		}
	}
}

func TestCheckBad(t *testing.T) {
	for i, bad := range badEdits() {
		for _, of := range []api.SignedObj{usual(), signedUsual()} {
			o := changed(of, bad)
			if e := Check(o); e != api.ErrBad || modelCheck(o) != api.ErrBad {
				t.Error(i, brief(o), e)
			}
		}
	}
	if e := Check(api.SignedObj{}); e != api.ErrBad {
		t.Error(e)
	}
}

func TestCheckContent(t *testing.T) {
	for n, want := range map[int]api.Errno{0: api.OK, 1: api.OK, 32767: api.OK, 32768: api.OK, 32769: api.ErrMany, 65536: api.ErrMany, 1 << 20: api.ErrMany} {
		for _, o := range []api.SignedObj{example(), signedUsual(), full()} {
			o.Content = make([]byte, n)
			if e := Check(o); e != want {
				t.Error(n, e)
			}
		}
	}
}

// TestCheckMany has too much content, or too many spans, in objects that are valid otherwise, and in others: ErrMany comes first.
func TestCheckMany(t *testing.T) {
	for i, many := range slices.Concat(manyBytes(), manyParts()) {
		if e := Check(changed(signedUsual(), many)); e != api.ErrMany {
			t.Error(i, e)
		}
		for j, bad := range badEdits() {
			o := changed(usual(), bad, many)
			if e := Check(o); e != api.ErrMany || modelCheck(o) != api.ErrMany {
				t.Error(i, j, brief(o), e)
			}
		}
	}
}

// TestCheckOtherHeights has signatures whose heights differ from those of the key of the certificate, and of its signature.
func TestCheckOtherHeights(t *testing.T) {
	for i := range 5 * 5 * 5 {
		o := usual()
		o.Ee.Key.Height, o.Ee.Sig, o.Sig = i/25, fitting(i/5%5, 0), fitting(i%5, 0)
		if e := Check(o); e != api.OK {
			t.Error(i, e)
		}
	}
}

func TestCheckEmptyLists(t *testing.T) {
	o := plain()
	o.Content, o.Sig = []byte{}, api.KeySig{Chains: []api.Short{}, Path: []api.Short{}}
	if e := Check(o); e != api.OK || !bytes.Equal(encoded(t, o), encoded(t, plain())) {
		t.Error(e)
	}
	o.Sig = fitting(0, 0)
	o.Sig.Path = nil
	if e := Check(o); e != api.OK {
		t.Error(e)
	}
}

// someObjects are objects of all kinds, not all of them valid.
func someObjects() []api.SignedObj {
	list := append(validObjects()[:120], api.SignedObj{})
	for _, bad := range badEdits() {
		list = append(list, changed(usual(), bad))
	}
	return list
}

func TestSame(t *testing.T) {
	list := someObjects()
	shown := make([]string, len(list))
	for i, o := range list {
		shown[i] = show(o)
	}
	for i, a := range list {
		for j, b := range list {
			if Same(a, b) != (shown[i] == shown[j]) {
				t.Fatal(brief(a), brief(b))
			}
		}
	}
}

// TestSameFields changes one field after the other of an object that is not valid.
func TestSameFields(t *testing.T) {
	sig := api.KeySig{Index: -3, Chains: make([]api.Short, 2), Path: make([]api.Short, 3)}
	base := api.SignedObj{Kind: 77, Content: []byte{1, 2, 3}, Sig: sig}
	base.Ee = api.Cert{Subject: "\x00", Valid: api.Window{From: 5, To: -5}, Inherit: true, Res: api.Resources{V6: make([]api.Span, 2), As: make([]api.AsSpan, 2)}, Sig: sig}
	for i, change := range []edit{
		func(o *api.SignedObj) { o.Kind = 76 },
		func(o *api.SignedObj) { o.Kind = 0 },
		func(o *api.SignedObj) { o.Content[2] = 4 },
		func(o *api.SignedObj) { o.Content = o.Content[:2] },
		func(o *api.SignedObj) { o.Content = append(o.Content, 0) },
		func(o *api.SignedObj) { o.Content = nil },
		func(o *api.SignedObj) { o.Ee = api.Cert{} },
		func(o *api.SignedObj) { o.Ee.Serial = 1 },
		func(o *api.SignedObj) { o.Ee.Issuer = "x" },
		func(o *api.SignedObj) { o.Ee.Subject = "" },
		func(o *api.SignedObj) { o.Ee.Valid.To-- },
		func(o *api.SignedObj) { o.Ee.Key.Root[9] = 1 },
		func(o *api.SignedObj) { o.Ee.Key.Height = -1 },
		func(o *api.SignedObj) { o.Ee.Ca = true },
		func(o *api.SignedObj) { o.Ee.Inherit = false },
		func(o *api.SignedObj) { o.Ee.Res.V6[1].To.High = 1 },
		func(o *api.SignedObj) { o.Ee.Res.As = nil },
		func(o *api.SignedObj) { o.Ee.Repo = "x" },
		func(o *api.SignedObj) { o.Ee.Parent = "x" },
		func(o *api.SignedObj) { o.Ee.Sig.Index = 3 },
		func(o *api.SignedObj) { o.Ee.Sig.Chains[1][7] = 1 },
		func(o *api.SignedObj) { o.Ee.Sig.Path = nil },
		func(o *api.SignedObj) { o.Sig.Index = 0 },
		func(o *api.SignedObj) { o.Sig.Chains[1][15] = 1 },
		func(o *api.SignedObj) { o.Sig.Chains = nil },
		func(o *api.SignedObj) { o.Sig.Path[2][0] = 1 },
		func(o *api.SignedObj) { o.Sig.Path = append(o.Sig.Path, api.Short{}) },
		func(o *api.SignedObj) { o.Sig.Chains, o.Sig.Path = o.Sig.Path, o.Sig.Chains },
		func(o *api.SignedObj) { o.Sig.Index = 5; o.Ee.Sig.Index = 5 },
	} {
		other := Twin(base)
		if !Same(base, other) {
			t.Fatal(i, brief(other))
		}
		change(&other)
		if Same(base, other) || Same(other, base) || !Same(other, Twin(other)) {
			t.Error(i, brief(other))
		}
	}
}

// TestSameExchangedSigs has two signatures that are exchanged between an object and its certificate.
func TestSameExchangedSigs(t *testing.T) {
	a := signedUsual()
	b := a
	b.Sig, b.Ee.Sig = a.Ee.Sig, a.Sig
	if Same(a, b) || Same(b, a) || show(Twin(b)) != show(b) {
		t.Error("the signatures are not told apart")
	}
}

func TestSameEmpty(t *testing.T) {
	none := api.KeySig{Chains: []api.Short{}, Path: []api.Short{}}
	a, b := api.SignedObj{}, api.SignedObj{Content: []byte{}, Sig: none}
	b.Ee = api.Cert{Res: api.Resources{V4: []api.Span{}, V6: []api.Span{}, As: []api.AsSpan{}}, Sig: none}
	if !Same(a, b) || !Same(b, a) || !Same(Twin(b), a) || !Same(Twin(a), b) {
		t.Error("nil and empty lists differ")
	}
}

func TestTwin(t *testing.T) {
	for _, o := range slices.Concat(someObjects(), wrongObjects()) {
		if x := Twin(o); show(x) != show(o) {
			t.Fatal(brief(o), brief(x))
		}
	}
}

// P12.2: what is known was computed with another program, from the chapters; so was what TestKnownObjects has.

func TestExample(t *testing.T) {
	want := []byte{136, 16, 1, 1, 2, 2, 2, 7, 8, 3, 1, 1, 4, 1, 97, 5, 1, 98}
	if b := body(t, example()); !bytes.Equal(b, want) {
		t.Error(b)
	}
	known := "895e881001010202020708030101040161050162064284408036010101020161030162040005010906100000000000000000000000000000000007000800820681008100810009000a000b000c000d0083060100020003008306010002000300"
	if b := encoded(t, example()); hex.EncodeToString(b) != known {
		t.Error(hex.EncodeToString(b))
	}
}

// TestThereAndBack holds the bodies and encodings of valid objects against the model, and decodes them (P12.5 besides).
func TestThereAndBack(t *testing.T) {
	for i, o := range validObjects() {
		b, all := body(t, o), encoded(t, o)
		if !bytes.Equal(b, modelBody(o)) || !bytes.Equal(all, modelEncode(o)) {
			t.Fatal(i, brief(o))
		}
		d, e := Decode(all)
		if e != api.OK || show(d) != show(o) || !Same(o, d) {
			t.Fatal(i, brief(o), brief(d), e)
		}
	}
}

func TestNoBodies(t *testing.T) {
	for i, o := range wrongObjects() {
		b, e := Body(o)
		all, f := Encode(o)
		if want := modelCheck(o); want == api.OK || Check(o) != want || e != want || f != want || len(b)+len(all) != 0 {
			t.Fatal(i, brief(o), e, f, want)
		}
	}
}

// TestDecodedIsUsable has that an object which was decoded has the certificate that was encoded, with its signature.
func TestDecodedIsUsable(t *testing.T) {
	o := usual()
	o.Ee = must[api.Cert](t)(cert.Sign(o.Ee, api.Short{3}, 3, 7))
	d := must[api.SignedObj](t)(Decode(encoded(t, o)))
	if e := cert.Verify(d.Ee, public(t, api.Short{3}, 3)); e != api.OK || !cert.Same(d.Ee, o.Ee) || len(d.Sig.Chains) != 0 {
		t.Error(e, brief(d))
	}
}
