package aspa

import (
	"math"
	"math/rand"
	"slices"
	"strings"
	"testing"

	"gatepath/api"
)

// P15.3 and P15.4: the union, and hops.

// exampleList is the list of the chapter's second example.
func exampleList() []api.ProviderAuth {
	return []api.ProviderAuth{auth(5, 1, 3), auth(2, 0), auth(5, 2), auth(2, 9)}
}

func TestMergeKnown(t *testing.T) {
	for i, k := range []struct {
		list []api.ProviderAuth
		want string
	}{
		{nil, ""},
		{[]api.ProviderAuth{}, ""},
		{exampleList(), "2: 9; 5: 1 2 3"},
		{[]api.ProviderAuth{auth(7, 0)}, "7: 0"},
		{[]api.ProviderAuth{auth(7, 0), auth(7, 0)}, "7: 0"},
		{[]api.ProviderAuth{auth(7, 0), auth(7, 8)}, "7: 8"},
		{[]api.ProviderAuth{auth(7, 8), auth(7, 0)}, "7: 8"},
		{[]api.ProviderAuth{auth(7, 8), auth(7, 0), auth(7, 8)}, "7: 8"},
		{[]api.ProviderAuth{auth(8, 7), auth(7, 0)}, "7: 0; 8: 7"},
		{[]api.ProviderAuth{auth(8, 7), auth(7, 8)}, "7: 8; 8: 7"},
		{[]api.ProviderAuth{auth(math.MaxUint32, 1, 1<<31), auth(1<<31, 1<<31-1, math.MaxUint32), auth(1, 0), auth(1<<31, 1)}, "1: 0; 2147483648: 1 2147483647 4294967295; 4294967295: 1 2147483648"},
	} {
		if m := merged(t, k.list); show(m...) != k.want {
			t.Error(i, brief(m...))
		}
	}
}

func TestHopExample(t *testing.T) {
	union := merged(t, exampleList())
	for i, k := range []struct {
		list               []api.ProviderAuth
		customer, provider uint32
		want               uint8
	}{
		{union, 5, 3, api.HopYes}, {union, 5, 4, api.HopNo}, {union, 3, 5, api.HopUnknown},
		{[]api.ProviderAuth{auth(2, 0)}, 2, 0, api.HopNo},
		{[]api.ProviderAuth{auth(2, 0)}, 2, 1, api.HopNo}, {[]api.ProviderAuth{auth(2, 0)}, 0, 2, api.HopUnknown}, {[]api.ProviderAuth{auth(2, 0)}, 0, 0, api.HopUnknown},
		{union, 2, 0, api.HopNo}, {union, 2, 9, api.HopYes}, {union, 5, 5, api.HopNo}, {union, 9, 2, api.HopUnknown}, {union, 9, 9, api.HopUnknown}, {union, 0, 0, api.HopUnknown},
		{nil, 5, 3, api.HopUnknown}, {nil, 0, 0, api.HopUnknown},
		{exampleList(), 5, 2, api.HopYes}, {exampleList(), 5, 1, api.HopYes}, {exampleList(), 2, 9, api.HopYes}, {exampleList(), 2, 1, api.HopNo}, {exampleList(), 2, 0, api.HopNo},
	} {
		if x, e := Hop(k.list, k.customer, k.provider); e != api.OK || x != k.want {
			t.Error(i, x, e)
		}
	}
}

// follows holds what becomes of a list against the model, and against what P15.4 says. It has no customer with too many providers.
func follows(t *testing.T, l []api.ProviderAuth, systems []uint32) {
	t.Helper()
	union := merged(t, l)
	if want := modelUnion(l); show(union...) != show(want...) {
		t.Fatal(brief(l...), brief(union...), brief(want...))
	}
	if modelCheckAll(union) != api.OK {
		t.Fatal(brief(l...), brief(union...))
	}
	if again := merged(t, union); show(again...) != show(union...) {
		t.Fatal(brief(l...), brief(again...))
	}
	for _, customer := range systems {
		for _, provider := range systems {
			x, e := Hop(l, customer, provider)
			y, f := Hop(union, customer, provider)
			if want := modelHop(l, customer, provider); e != api.OK || f != api.OK || x != want || y != want {
				t.Fatal(brief(l...), customer, provider, x, y, e, f)
			}
		}
	}
}

// TestSmallWorld has all lists of up to three attestations out of all those in a world of few systems: their order does not matter.
func TestSmallWorld(t *testing.T) {
	var all []api.ProviderAuth
	for customer := range uint32(4) {
		for set := range 1 << 4 {
			a := api.ProviderAuth{Customer: customer}
			for p := range 4 {
				if set>>p&1 == 1 {
					a.Providers = append(a.Providers, uint32(p))
				}
			}
			if modelCheck(a) == api.OK {
				all = append(all, a)
			}
		}
	}
	if len(all) != 12 {
		t.Fatal(brief(all...))
	}
	systems := []uint32{0, 1, 2, 3, 4, math.MaxUint32}
	var try func(l []api.ProviderAuth)
	try = func(l []api.ProviderAuth) {
		follows(t, l, systems)
		sorted := slices.Clone(l)
		slices.SortFunc(sorted, func(a, b api.ProviderAuth) int { return strings.Compare(show(a), show(b)) })
		if show(merged(t, sorted)...) != show(merged(t, l)...) {
			t.Fatal(brief(l...))
		}
		if len(l) == 3 {
			return
		}
		for _, a := range all {
			try(append(slices.Clone(l), a))
		}
	}
	try(nil)
}

// TestRandomLists has lists of all lengths, in several orders.
func TestRandomLists(t *testing.T) {
	r := rand.New(rand.NewSource(3))
	for i := range 200 {
		l := randomList(r, r.Intn(25))
		if slices.ContainsFunc(modelUnion(l), func(a api.ProviderAuth) bool { return len(a.Providers) > 50 }) {
			t.Fatal(i)
		}
		systems := append(numbers(l), 0, 41, math.MaxUint32)
		r.Shuffle(len(systems), func(i, j int) { systems[i], systems[j] = systems[j], systems[i] })
		follows(t, l, systems[:min(len(systems), 30)])
		want := show(merged(t, l)...)
		for range 5 {
			r.Shuffle(len(l), func(i, j int) { l[i], l[j] = l[j], l[i] })
			if m := merged(t, l); show(m...) != want {
				t.Fatal(i, brief(l...), brief(m...))
			}
		}
	}
}

// TestListCounts has lists of all lengths around the greatest one.
func TestListCounts(t *testing.T) {
	for _, n := range []int{0, 1, 2, 50, 51, 100, 299, 300, 301, 302, 556, 600, 1000} {
		for _, l := range [][]api.ProviderAuth{customers(n), slices.Repeat([]api.ProviderAuth{auth(7, 8, 9)}, n)} {
			m, e := Merge(l)
			x, f := Hop(l, 5, 6)
			want := api.OK
			if n > 300 {
				want = api.ErrMany
			}
			if e != want || f != want || x != 0 || want != api.OK && len(m) != 0 {
				t.Fatal(n, len(m), e, x, f)
			}
			if want == api.OK && show(m...) != show(slices.CompactFunc(slices.Clone(l), Same)...) {
				t.Fatal(n, brief(m...))
			}
		}
	}
	for i := range uint32(300) {
		l := customers(300)
		slices.Reverse(l)
		yes := must[uint8](t)(Hop(l, 1000+i, 2000+i))
		no := must[uint8](t)(Hop(l, 1000+i, 2001+i))
		if yes != api.HopYes || no != api.HopNo {
			t.Fatal(i, yes, no)
		}
	}
}

// refused has that both calls return an error, and nothing else; the hop would be there, or not, or be unknown.
func refused(t *testing.T, l []api.ProviderAuth, want api.Errno) {
	t.Helper()
	if m, e := Merge(l); e != want || len(m) != 0 {
		t.Fatal(brief(l...), brief(m...), e, want)
	}
	for _, hop := range [][2]uint32{{1000, 1}, {1000, 2}, {1, 2}, {0, 0}} {
		if x, e := Hop(l, hop[0], hop[1]); e != want || x != 0 {
			t.Fatal(brief(l...), x, e, want)
		}
	}
}

// TestListWrong has attestations that are not valid among others, at the beginning, in between and at the end.
func TestListWrong(t *testing.T) {
	wrong := wrongAuths()
	for i, a := range wrong {
		for _, at := range []int{0, 1, 5, 9} {
			l := slices.Insert(customers(9), at, a)
			refused(t, l, modelCheck(a))
			// The first one that is not valid counts.
			refused(t, append(l, wrong[(i+1)%len(wrong)], wrong[len(wrong)-1-i]), modelCheck(a))
		}
		refused(t, []api.ProviderAuth{a}, modelCheck(a))
		refused(t, append(customers(299), a), modelCheck(a))
		// Too many attestations come before what is wrong with one of them.
		refused(t, append(customers(300), a), api.ErrMany)
		refused(t, slices.Insert(customers(300), 0, a), api.ErrMany)
		refused(t, slices.Repeat([]api.ProviderAuth{a}, 301), api.ErrMany)
	}
	many, bad := auth(1000, row(1, 51)...), auth(1000, 1000)
	refused(t, []api.ProviderAuth{many, bad}, api.ErrMany)
	refused(t, []api.ProviderAuth{bad, many}, api.ErrBad)
}

// TestUnionCounts has unions with about as many providers as one can have. Hops have no such limit.
func TestUnionCounts(t *testing.T) {
	for i, k := range []struct {
		lists [][]uint32
		count int // 0: too many
	}{
		{[][]uint32{row(1, 50)}, 50},
		{[][]uint32{row(1, 50), {51}}, 0},
		{[][]uint32{row(2, 50), {1}}, 0},
		{[][]uint32{row(1, 50), {50}}, 50},
		{[][]uint32{row(1, 50), {0}}, 50},
		{[][]uint32{{0}, row(1, 50), {0}}, 50},
		{[][]uint32{row(1, 49), {0}, {50}}, 50},
		{[][]uint32{row(1, 49), {0}, {50}, {51}}, 0},
		{[][]uint32{row(1, 50), row(1, 50), row(1, 50)}, 50},
		{[][]uint32{row(1, 30), row(21, 30)}, 50},
		{[][]uint32{row(1, 30), row(22, 30)}, 0},
		{[][]uint32{row(1, 25), row(51, 25)}, 50},
		{[][]uint32{row(1, 25), row(51, 26)}, 0},
		{[][]uint32{row(1, 50), row(51, 50), row(101, 50)}, 0},
	} {
		for _, at := range []int{0, 4, 9} {
			l := customers(9)
			var own []api.ProviderAuth
			for _, list := range k.lists {
				own = append(own, auth([]uint32{500, 1003, 3000}[at/4], list...))
			}
			customer := own[0].Customer
			l = slices.Insert(slices.DeleteFunc(l, func(a api.ProviderAuth) bool { return a.Customer == customer }), min(at, 8), own...)
			followsHops(t, l, customer)
			m, e := Merge(l)
			if k.count == 0 {
				if e != api.ErrMany || len(m) != 0 {
					t.Error(i, at, brief(m...), e)
				}
				// What is wrong with an attestation comes before that.
				refused(t, append(l, auth(1, 1)), api.ErrBad)
				continue
			}
			j := slices.IndexFunc(m, func(a api.ProviderAuth) bool { return a.Customer == customer })
			if e != api.OK || show(m...) != show(modelUnion(l)...) || len(m[j].Providers) != k.count {
				t.Error(i, at, brief(m...), e)
			}
		}
	}
}

// followsHops holds the hops of a customer to many providers against the model.
func followsHops(t *testing.T, l []api.ProviderAuth, customer uint32) {
	t.Helper()
	for p := range uint32(160) {
		if x, e := Hop(l, customer, p); e != api.OK || x != modelHop(l, customer, p) {
			t.Fatal(brief(l...), customer, p, x, e)
		}
	}
}

// TestLongest has as many attestations as a list can have, with as many providers as they can have.
func TestLongest(t *testing.T) {
	var l []api.ProviderAuth
	for i := range uint32(300) {
		l = append(l, auth(math.MaxUint32-i, row(1+i, 50)...))
	}
	m := merged(t, l)
	slices.Reverse(m)
	if show(m...) != show(l...) {
		t.Error(brief(m...))
	}
	for i := range l {
		l[i].Customer = 9000
	}
	if m, e := Merge(l); e != api.ErrMany || len(m) != 0 {
		t.Error(brief(m...), e)
	}
	if x, e := Hop(l, 9000, 349); x != api.HopYes || e != api.OK {
		t.Error(x, e)
	}
	if x, e := Hop(l, 9000, 350); x != api.HopNo || e != api.OK {
		t.Error(x, e)
	}
}
