package roa

import (
	"bytes"
	"fmt"
	"slices"
	"testing"

	"gatepath/api"
)

// Arguments are only read, with the memory behind them; results share no memory, and nothing is kept (R2).

// roomy returns a copy of a list that has room behind it, in which there is something.
func roomy[S any](list []S, something S) []S {
	return append(slices.Clone(list), something, something, something)[:len(list)]
}

// overwrite fills a list, and the room behind it.
func overwrite[S any](list []S, with S) {
	list = list[:cap(list)]
	for i := range list {
		list[i] = with
	}
}

// whole shows an authorisation with the room behind its list.
func whole(a api.RouteAuth) string {
	return fmt.Sprint(show(a), a.Prefixes[:cap(a.Prefixes)])
}

// roomyAuths are authorisations of all kinds, not all of them valid, with room behind their lists.
func roomyAuths() []api.RouteAuth {
	list := slices.Concat(validAuths()[:60], wrongAuths())
	list = slices.DeleteFunc(list, func(a api.RouteAuth) bool { return len(a.Prefixes) > 200 })
	for i := range list {
		list[i].Prefixes = roomy(list[i].Prefixes, upTo("1.2.3.4/32", 32))
	}
	return list
}

func TestOnlyRead(t *testing.T) {
	for _, a := range roomyAuths() {
		before := whole(a)
		Check(a)
		Encode(a)
		Needs(a)
		Allows(a, prefix("10.0.0.0/8"), a.As)
		Origins(a)
		Same(a, a)
		if whole(a) != before {
			t.Fatal(brief(a))
		}
		b := roomy(modelEncode(a), 238)
		Decode(b)
		if !bytes.Equal(b[:len(b)+3], append(modelEncode(a), 238, 238, 238)) {
			t.Fatal(brief(a))
		}
	}
}

func TestNothingShared(t *testing.T) {
	for _, a := range roomyAuths() {
		before := whole(a)
		b, e := Encode(a)
		overwrite(b, 99)
		r, _ := Needs(a)
		overwrite(r.V4, api.Span{})
		overwrite(r.V6, api.Span{})
		list, _ := Origins(a)
		overwrite(list, api.Origin{})
		if whole(a) != before {
			t.Fatal(brief(a))
		}
		if e != api.OK {
			continue
		}
		again := encoded(t, a)
		d, _ := Decode(again)
		overwrite(d.Prefixes, api.AuthPrefix{})
		d, _ = Decode(again)
		overwrite(again, 99)
		origins := must[[]api.Origin](t)(Origins(a))
		needs := must[api.Resources](t)(Needs(a))
		if show(d) != show(a) || !bytes.Equal(encoded(t, a), modelEncode(a)) || origins[0].Prefix != a.Prefixes[0].Prefix || fmt.Sprint(needs) != fmt.Sprint(modelNeeds(a)) {
			t.Fatal(brief(a))
		}
	}
}

// TestNeedsShareNothing overwrites one list of resources, and looks at the other.
func TestNeedsShareNothing(t *testing.T) {
	want := modelNeeds(varied())
	r := must[api.Resources](t)(Needs(varied()))
	overwrite(r.V4, api.Span{})
	if !slices.Equal(r.V6, want.V6) || slices.Equal(r.V4, want.V4) {
		t.Error(r)
	}
	r = must[api.Resources](t)(Needs(varied()))
	overwrite(r.V6, api.Span{})
	if !slices.Equal(r.V4, want.V4) || slices.Equal(r.V6, want.V6) {
		t.Error(r)
	}
}
