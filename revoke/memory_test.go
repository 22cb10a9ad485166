package revoke

import (
	"bytes"
	"fmt"
	"slices"
	"testing"

	"gatepath/api"
)

// Arguments are only read, with the memory behind them; results share no memory, and nothing is kept (R2).

// roomy returns a copy of a revocation list whose lists have room behind them, in which there is something.
func roomy(l api.RevList) api.RevList {
	l.Serials = append(slices.Clone(l.Serials), 77, 78, 79)[:len(l.Serials)]
	l.Sig.Chains = append(slices.Clone(l.Sig.Chains), api.Short{77}, api.Short{78})[:len(l.Sig.Chains)]
	l.Sig.Path = append(slices.Clone(l.Sig.Path), api.Short{77}, api.Short{78})[:len(l.Sig.Path)]
	return l
}

// wholeShow shows a revocation list with the room behind its lists.
func wholeShow(l api.RevList) string {
	return show(l) + fmt.Sprint(l.Serials[:cap(l.Serials)], l.Sig.Chains[:cap(l.Sig.Chains)], l.Sig.Path[:cap(l.Sig.Path)])
}

// overwrite fills a list, and the room behind it.
func overwrite[S any](list []S, with S) {
	list = list[:cap(list)]
	for i := range list {
		list[i] = with
	}
}

// spoil overwrites all lists of a revocation list.
func spoil(l api.RevList) {
	overwrite(l.Serials, 99)
	overwrite(l.Sig.Chains, api.Short{99})
	overwrite(l.Sig.Path, api.Short{99})
}

// fewLists are revocation lists of all kinds, not all of them valid, with lists.
func fewLists() []api.RevList {
	list := []api.RevList{plain(), example(), varied(), full()}
	for _, change := range slices.Concat(bodyEdits(), badFields()[:10], badSigs()[:12]) {
		list = append(list, changed(varied(), func(l *api.RevList) { l.Sig = fitting(4, 9) }, change))
	}
	return list
}

func TestOnlyRead(t *testing.T) {
	for _, l := range fewLists() {
		l = roomy(l)
		before := wholeShow(l)
		Check(l)
		Body(l)
		Encode(l)
		Sign(l, counted(), 1, 0)
		Verify(l, api.PublicKey{Height: 4})
		Revoked(l, 5)
		Same(l, l)
		Twin(l)
		if wholeShow(l) != before {
			t.Fatal(brief(l))
		}
		b := modelEncode(l)
		memory := append(slices.Clone(b), 238, 238, 238)
		Decode(memory[:len(b)])
		if !bytes.Equal(memory, append(b, 238, 238, 238)) {
			t.Fatal(brief(l))
		}
	}
}

func TestNothingShared(t *testing.T) {
	for _, l := range fewLists() {
		l = roomy(l)
		before := wholeShow(l)
		spoil(Twin(l))
		x, _ := Sign(l, counted(), 1, 0)
		spoil(x)
		b, e := Body(l)
		overwrite(b, 99)
		all, _ := Encode(l)
		overwrite(all, 99)
		if wholeShow(l) != before {
			t.Fatal(brief(l))
		}
		if e != api.OK {
			continue
		}
		again := encoded(t, l)
		y, _ := Decode(again)
		overwrite(again, 99)
		if show(y) != show(l) || !bytes.Equal(encoded(t, l), modelEncode(l)) {
			t.Fatal(brief(l))
		}
	}
}

// TestListsShareNothing overwrites one list of a result, and looks at the other one of the same type.
func TestListsShareNothing(t *testing.T) {
	l := changed(varied(), func(l *api.RevList) { l.Sig = fitting(4, 9) })
	shared := l
	shared.Sig.Path = shared.Sig.Chains[:4]
	for i, x := range []api.RevList{must[api.RevList](t)(Decode(encoded(t, l))), signed(t, l, counted(), 4, 9), Twin(l), Twin(shared)} {
		path := fmt.Sprint(x.Sig.Path)
		overwrite(x.Sig.Chains, api.Short{99})
		if fmt.Sprint(x.Sig.Path) != path {
			t.Error(i)
		}
	}
}
