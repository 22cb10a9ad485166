package signed

import (
	"bytes"
	"fmt"
	"slices"
	"testing"

	"gatepath/api"
)

// Arguments are only read, with the memory behind them; results share no memory, and nothing is kept (R2).

// roomy returns a copy of a list with room behind it, in which there is something.
func roomy[S any](list []S, behind S) []S {
	return append(slices.Clone(list), behind, behind, behind)[:len(list)]
}

// roomyObject returns a copy of an object whose lists have room behind them.
func roomyObject(o api.SignedObj) api.SignedObj {
	span := api.Span{From: api.Addr{Low: 77}, To: api.Addr{Low: 78}}
	o.Content = roomy(o.Content, 77)
	o.Ee.Res = api.Resources{V4: roomy(o.Ee.Res.V4, span), V6: roomy(o.Ee.Res.V6, span), As: roomy(o.Ee.Res.As, api.AsSpan{From: 77, To: 78})}
	for _, sig := range []*api.KeySig{&o.Ee.Sig, &o.Sig} {
		sig.Chains, sig.Path = roomy(sig.Chains, api.Short{77}), roomy(sig.Path, api.Short{78})
	}
	return o
}

// whole returns a list with the room behind it.
func whole[S any](list []S) []S {
	return list[:cap(list)]
}

// wholeShow shows an object with the room behind its lists.
func wholeShow(o api.SignedObj) string {
	res := o.Ee.Res
	return show(o) + fmt.Sprint(whole(o.Content), whole(res.V4), whole(res.V6), whole(res.As), whole(o.Ee.Sig.Chains), whole(o.Ee.Sig.Path), whole(o.Sig.Chains), whole(o.Sig.Path))
}

// overwrite fills a list, and the room behind it.
func overwrite[S any](list []S, with S) {
	for i := range whole(list) {
		whole(list)[i] = with
	}
}

// spoilers overwrite one list of an object each.
func spoilers() []func(o api.SignedObj) {
	return []func(o api.SignedObj){
		func(o api.SignedObj) { overwrite(o.Content, 99) },
		func(o api.SignedObj) { overwrite(o.Ee.Res.V4, api.Span{From: api.Addr{Low: 99}}) },
		func(o api.SignedObj) { overwrite(o.Ee.Res.V6, api.Span{From: api.Addr{Low: 99}}) },
		func(o api.SignedObj) { overwrite(o.Ee.Res.As, api.AsSpan{From: 99}) },
		func(o api.SignedObj) { overwrite(o.Ee.Sig.Chains, api.Short{99}) },
		func(o api.SignedObj) { overwrite(o.Ee.Sig.Path, api.Short{99}) },
		func(o api.SignedObj) { overwrite(o.Sig.Chains, api.Short{99}) },
		func(o api.SignedObj) { overwrite(o.Sig.Path, api.Short{99}) },
	}
}

func spoil(o api.SignedObj) {
	for _, f := range spoilers() {
		f(o)
	}
}

// listed is an object with all lists, whose certificate has the key of the tree of counted with the height 1.
func listed(t *testing.T) api.SignedObj {
	o := keyed(t, signedUsual(), counted(), 1)
	o.Ee.Inherit, o.Ee.Res, o.Ee.Sig, o.Sig = false, manySpans(9), fitting(4, 9), fitting(4, 8)
	return o
}

// fewObjects are objects of all kinds, not all of them valid, with lists.
func fewObjects(t *testing.T) []api.SignedObj {
	list := []api.SignedObj{plain(), example(), usual(), full(), listed(t)}
	for _, change := range slices.Concat(bodyEdits()[:10], eeEdits(), badKinds(), badCerts()[:20], badSigs()[:12], manyBytes()[:1], manyParts()) {
		list = append(list, changed(listed(t), change))
	}
	return list
}

func TestOnlyRead(t *testing.T) {
	for _, o := range fewObjects(t) {
		o = roomyObject(o)
		before := wholeShow(o)
		Check(o)
		Body(o)
		Encode(o)
		Make(o.Kind, o.Content, o.Ee, counted(), 1, 0)
		Verify(o)
		Same(o, o)
		Twin(o)
		if wholeShow(o) != before {
			t.Fatal(brief(o))
		}
		b := modelEncode(o)
		memory := append(slices.Clone(b), 238, 238, 238)
		Decode(memory[:len(b)])
		if !bytes.Equal(memory, append(b, 238, 238, 238)) {
			t.Fatal(brief(o))
		}
	}
}

func TestNothingShared(t *testing.T) {
	for _, o := range fewObjects(t) {
		o = roomyObject(o)
		before := wholeShow(o)
		spoil(Twin(o))
		x, _ := Make(o.Kind, o.Content, o.Ee, counted(), 1, 0)
		spoil(x)
		b, e := Body(o)
		overwrite(b, 99)
		all, _ := Encode(o)
		overwrite(all, 99)
		if wholeShow(o) != before {
			t.Fatal(brief(o))
		}
		if e != api.OK {
			continue
		}
		again := encoded(t, o)
		y, _ := Decode(again)
		overwrite(again, 99)
		if show(y) != show(o) || !bytes.Equal(body(t, o), modelBody(o)) || !bytes.Equal(encoded(t, o), modelEncode(o)) {
			t.Fatal(brief(o))
		}
	}
}

// TestListsShareNothing overwrites one list of a result after the other, and looks at those that it has not come to.
func TestListsShareNothing(t *testing.T) {
	o := listed(t)
	shared := o
	shared.Ee.Sig, shared.Sig = o.Sig, o.Sig
	shared.Sig.Path, shared.Ee.Res.V6 = o.Sig.Chains[:4], o.Ee.Res.V4
	for i, x := range []api.SignedObj{must[api.SignedObj](t)(Decode(encoded(t, o))), made(t, o, counted(), 1, 0), Twin(o), Twin(shared)} {
		for j, f := range spoilers() {
			before := changed(x)
			f(x)
			after := changed(x)
			f(before) // now the same list is overwritten in a copy whose lists share nothing
			if show(before) != show(after) {
				t.Error(i, j)
			}
		}
	}
}
