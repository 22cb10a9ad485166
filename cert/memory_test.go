package cert

import (
	"bytes"
	"fmt"
	"slices"
	"testing"

	"gatepath/api"
)

// Arguments are only read, with the memory behind them; results share no memory, and nothing is kept (R2).

// roomy returns a copy of a list with room behind it, in which there is something.
func roomy[S any](list []S, behind S) []S {
	room := append(slices.Clone(list), behind, behind, behind)
	return room[:len(list)]
}

// roomyCert returns a copy of a certificate whose lists have room behind them.
func roomyCert(c api.Cert) api.Cert {
	span := api.Span{From: api.Addr{Low: 77}, To: api.Addr{Low: 78}}
	c.Res = api.Resources{V4: roomy(c.Res.V4, span), V6: roomy(c.Res.V6, span), As: roomy(c.Res.As, api.AsSpan{From: 77, To: 78})}
	c.Sig.Chains, c.Sig.Path = roomy(c.Sig.Chains, api.Short{77}), roomy(c.Sig.Path, api.Short{77})
	return c
}

// whole returns a list with the room behind it.
func whole[S any](list []S) []S {
	return list[:cap(list)]
}

// wholeShow shows a certificate with the room behind its lists.
func wholeShow(c api.Cert) string {
	return show(c) + fmt.Sprint(whole(c.Res.V4), whole(c.Res.V6), whole(c.Res.As), whole(c.Sig.Chains), whole(c.Sig.Path))
}

// overwrite fills a list, and the room behind it.
func overwrite[S any](list []S, with S) {
	for i := range whole(list) {
		whole(list)[i] = with
	}
}

// spoil overwrites all lists of a certificate.
func spoil(c api.Cert) {
	span := api.Span{From: api.Addr{Low: 99}, To: api.Addr{Low: 99}}
	overwrite(c.Res.V4, span)
	overwrite(c.Res.V6, span)
	overwrite(c.Res.As, api.AsSpan{From: 99, To: 99})
	overwrite(c.Sig.Chains, api.Short{99})
	overwrite(c.Sig.Path, api.Short{99})
}

// fewCerts are certificates of all kinds, not all of them valid, with lists.
func fewCerts() []api.Cert {
	list := []api.Cert{authority(), heir(), full(), signed9()}
	for _, change := range slices.Concat(bodyEdits(), badFields()[:10], badResources(), badSigs()[:12]) {
		list = append(list, changed(signed9(), change))
	}
	return list
}

// signed9 is a certificate with all lists but for what Inherit rules out.
func signed9() api.Cert {
	c := authority()
	c.Sig = fitting(4, 9)
	return c
}

func TestOnlyRead(t *testing.T) {
	for _, c := range fewCerts() {
		c = roomyCert(c)
		before := wholeShow(c)
		Check(c)
		Body(c)
		Encode(c)
		Sign(c, counted(), 1, 0)
		Verify(c, api.PublicKey{Height: 4})
		Same(c, c)
		Twin(c)
		if wholeShow(c) != before {
			t.Fatal(brief(c))
		}
		b := modelEncode(c)
		memory := append(slices.Clone(b), 238, 238, 238)
		Decode(memory[:len(b)])
		if !bytes.Equal(memory, append(slices.Clone(b), 238, 238, 238)) {
			t.Fatal(brief(c))
		}
	}
}

func TestNothingShared(t *testing.T) {
	for _, c := range fewCerts() {
		c = roomyCert(c)
		before := wholeShow(c)
		spoil(Twin(c))
		x, _ := Sign(c, counted(), 1, 0)
		spoil(x)
		b, e := Body(c)
		overwrite(b, 99)
		all, _ := Encode(c)
		overwrite(all, 99)
		if wholeShow(c) != before {
			t.Fatal(brief(c))
		}
		if e != api.OK {
			continue
		}
		again := encoded(t, c)
		y, _ := Decode(again)
		overwrite(again, 99)
		if show(y) != show(c) || !bytes.Equal(body(t, c), modelBody(c)) || !bytes.Equal(encoded(t, c), modelEncode(c)) {
			t.Fatal(brief(c))
		}
	}
}

// TestListsShareNothing overwrites one list of a result after the other, and looks at the others.
func TestListsShareNothing(t *testing.T) {
	c := signed9()
	decoded, e := Decode(encoded(t, c))
	if e != api.OK {
		t.Fatal(e)
	}
	shared := c
	shared.Res.V6, shared.Sig.Path = shared.Res.V4, shared.Sig.Chains[:4]
	for i, x := range []api.Cert{decoded, Twin(c), signed(t, c, counted(), 4, 9), Twin(shared)} {
		want := changed(x, func(c *api.Cert) {})
		overwrite(x.Res.V4, api.Span{})
		x.Res.V4 = want.Res.V4
		if show(x) != show(want) {
			t.Error(i, "V4")
		}
		overwrite(x.Res.V6, api.Span{})
		x.Res.V6 = want.Res.V6
		overwrite(x.Sig.Chains, api.Short{})
		x.Sig.Chains = want.Sig.Chains
		if show(x) != show(want) {
			t.Error(i, "V6 or Chains")
		}
	}
}
