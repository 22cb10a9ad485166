package aspa

import (
	"bytes"
	"fmt"
	"math"
	"slices"
	"testing"

	"gatepath/api"
)

// Arguments are only read, with the memory behind them; results share no memory, and nothing is kept (R2).

// roomy returns a copy of a list that has room behind it, in which there is something.
func roomy[S any](list []S, something S) []S {
	return append(slices.Clone(list), something, something, something)[:len(list)]
}

// overwrite fills a list, and the room behind it.
func overwrite[S any](list []S, with S) {
	list = list[:cap(list)]
	for i := range list {
		list[i] = with
	}
}

// whole shows attestations with the room behind their lists, and behind the list of them.
func whole(l ...api.ProviderAuth) string {
	s := fmt.Sprint(len(l))
	for _, a := range l[:cap(l)] {
		s += fmt.Sprint(show(a), a.Providers[:cap(a.Providers)])
	}
	return s
}

// roomyAuths are attestations of all kinds, not all of them valid, with room behind their lists.
func roomyAuths() []api.ProviderAuth {
	list := slices.Concat(validAuths(), wrongAuths())
	list = slices.DeleteFunc(list, func(a api.ProviderAuth) bool { return len(a.Providers) > 200 })
	for i := range list {
		list[i].Providers = roomy(list[i].Providers, 77)
	}
	return list
}

// roomyLists are lists of attestations, most of them valid, with room behind all lists.
func roomyLists() [][]api.ProviderAuth {
	all := roomyAuths()
	lists := [][]api.ProviderAuth{nil, exampleList(), customers(300), customers(301), all[:1], all[:20], all[20:100], all[:len(validAuths())], all, all[len(all)-9:]}
	for i := range lists {
		lists[i] = roomy(lists[i], auth(3, 5, 4))
	}
	return lists
}

func TestOnlyRead(t *testing.T) {
	for _, a := range roomyAuths() {
		before := whole(a)
		Check(a)
		Encode(a)
		Needs(a)
		Same(a, a)
		if whole(a) != before {
			t.Fatal(brief(a))
		}
		b := roomy(modelEncode(a), 238)
		Decode(b)
		if !bytes.Equal(b[:len(b)+3], append(modelEncode(a), 238, 238, 238)) {
			t.Fatal(brief(a))
		}
	}
	for i, l := range roomyLists() {
		before := whole(l...)
		Merge(l)
		for _, customer := range []uint32{0, 1, 5, 200, 1000, math.MaxUint32} {
			Hop(l, customer, 3)
		}
		if whole(l...) != before {
			t.Fatal(i)
		}
	}
}

func TestNothingShared(t *testing.T) {
	for _, a := range roomyAuths() {
		before := whole(a)
		b, e := Encode(a)
		overwrite(b, 99)
		r, _ := Needs(a)
		overwrite(r.As, api.AsSpan{})
		if whole(a) != before {
			t.Fatal(brief(a))
		}
		if e != api.OK {
			continue
		}
		again := encoded(t, a)
		d, _ := Decode(again)
		overwrite(d.Providers, 98)
		d, _ = Decode(again)
		overwrite(again, 99)
		needs := must[api.Resources](t)(Needs(a))
		if show(d) != show(a) || !bytes.Equal(encoded(t, a), modelEncode(a)) || needs.As[0] != (api.AsSpan{From: a.Customer, To: a.Customer}) {
			t.Fatal(brief(a))
		}
	}
}

// TestUnionSharesNothing overwrites the union, and looks at the list; then one attestation of the union, and looks at the others.
func TestUnionSharesNothing(t *testing.T) {
	merges := 0
	for i, l := range roomyLists() {
		before := whole(l...)
		m, e := Merge(l)
		if e != api.OK {
			continue
		}
		merges++
		want := slices.Clone(m)
		for j := range m {
			want[j].Providers = slices.Clone(m[j].Providers)
		}
		for j := range m {
			overwrite(m[j].Providers, 98)
			for k := j + 1; k < len(m); k++ {
				if show(m[k]) != show(want[k]) {
					t.Fatal(i, j, k)
				}
			}
		}
		overwrite(m, api.ProviderAuth{})
		if again := merged(t, l); whole(l...) != before || show(again...) != show(want...) {
			t.Fatal(i)
		}
	}
	if merges < 5 {
		t.Error(merges)
	}
}
