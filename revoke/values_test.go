package revoke

import (
	"math"
	"math/rand"
	"slices"
	"strings"

	"gatepath/api"
)

// example is the revocation list of the chapter's example.
func example() api.RevList {
	return api.RevList{Issuer: "a", Number: 2, Valid: api.Window{To: 9}, Serials: []uint64{5, 7}}
}

// plain is a valid revocation list with nothing that it need not have.
func plain() api.RevList {
	return api.RevList{Issuer: "b"}
}

// varied is a revocation list with serials of all numbers of bytes, and without a signature.
func varied() api.RevList {
	return api.RevList{
		Issuer: "Net_1-x", Number: 70000, Valid: api.Window{From: 1000, To: 1 << 40},
		Serials: []uint64{1, 127, 128, 255, 256, 65535, 65536, 1 << 32, 1<<63 - 1, 1 << 63, math.MaxUint64},
	}
}

// full is a revocation list whose encoding is as long as one can be.
func full() api.RevList {
	return api.RevList{
		Issuer: strings.Repeat("Z", 40), Number: math.MaxUint64, Valid: api.Window{From: 1 << 40, To: 1 << 40},
		Serials: lastSerials(500), Sig: fitting(4, 15),
	}
}

// lastSerials returns the n greatest serials.
func lastSerials(n int) []uint64 {
	list := make([]uint64, n)
	for i := range list {
		list[i] = math.MaxUint64 - uint64(n-1-i)
	}
	return list
}

// edit changes a revocation list, which may share its lists with others.
type edit func(l *api.RevList)

// changed returns a revocation list with changes, one after the other.
func changed(l api.RevList, changes ...edit) api.RevList {
	l.Serials = slices.Clone(l.Serials)
	l.Sig = api.KeySig{Index: l.Sig.Index, Chains: slices.Clone(l.Sig.Chains), Path: slices.Clone(l.Sig.Path)}
	for _, change := range changes {
		change(&l)
	}
	return l
}

// bodyEdits make other valid revocation lists with other bodies of varied, no two of them the same.
func bodyEdits() []edit {
	list := []edit{
		func(l *api.RevList) { l.Issuer = "net_1-x" },
		func(l *api.RevList) { l.Issuer = "N" },
		func(l *api.RevList) { l.Issuer = strings.Repeat("0", 40) },
		func(l *api.RevList) { l.Number = 0 },
		func(l *api.RevList) { l.Number = 69999 },
		func(l *api.RevList) { l.Number = 70000 << 8 },
		func(l *api.RevList) { l.Number = math.MaxUint64 },
		func(l *api.RevList) { l.Valid.From = 0 },
		func(l *api.RevList) { l.Valid.From = 999 },
		func(l *api.RevList) { l.Valid.From = 1 << 40 },
		func(l *api.RevList) { l.Valid.To = 1000 },
		func(l *api.RevList) { l.Valid.To = 1<<40 - 1 },
		func(l *api.RevList) { l.Valid = api.Window{} },
		func(l *api.RevList) { l.Serials = nil },
		func(l *api.RevList) { l.Serials = []uint64{1} },
		func(l *api.RevList) { l.Serials = []uint64{math.MaxUint64} },
		func(l *api.RevList) { l.Serials = lastSerials(499) },
		func(l *api.RevList) { l.Serials = lastSerials(500) },
		func(l *api.RevList) { l.Serials[7]++ },
		func(l *api.RevList) { l.Serials[7]-- },
		func(l *api.RevList) { l.Serials = slices.Insert(l.Serials, 1, 2) },
		func(l *api.RevList) { l.Serials = slices.Insert(l.Serials, 10, math.MaxUint64-1) },
	}
	for i := range varied().Serials {
		list = append(list, func(l *api.RevList) { l.Serials = slices.Delete(l.Serials, i, i+1) })
	}
	return list
}

// sigEdits make other valid revocation lists of those without a signature, no two of them the same.
func sigEdits() []edit {
	var list []edit
	for height := range 5 {
		for index := range 1 << height {
			list = append(list, func(l *api.RevList) { l.Sig = fitting(height, index) })
		}
		list = append(list, func(l *api.RevList) {
			l.Sig = api.KeySig{Chains: make([]api.Short, 35), Path: make([]api.Short, height)}
		})
	}
	return list
}

// badFields make revocation lists that are not valid of varied, because of one field, but for Sig.
func badFields() []edit {
	var list []edit
	for _, s := range []string{"", " ", "a b", "a.b", "a/b", "\x00", "é", "a\n", "-\xff", strings.Repeat("a", 41), strings.Repeat("a", 100000)} {
		list = append(list, func(l *api.RevList) { l.Issuer = s })
	}
	for _, w := range []api.Window{{From: -1, To: 5}, {From: -1, To: -1}, {From: 6, To: 5}, {From: 1<<40 + 1, To: 1<<40 + 1}, {To: 1<<40 + 1}, {From: 1 << 40}, {From: math.MinInt64}, {To: math.MaxInt64}, {From: math.MaxInt64, To: math.MinInt64}} {
		list = append(list, func(l *api.RevList) { l.Valid = w })
	}
	for _, serials := range [][]uint64{{0}, {0, 1}, {0, 0}, {1, 0}, {1, 1}, {2, 1}, {1, 3, 2}, {1, 2, 2}, {1, 2, 1}, {3, 1, 2}, {5, 1 << 32, 6}, {math.MaxUint64, 1}, {math.MaxUint64, 0}, {1, math.MaxUint64, math.MaxUint64}, {1 << 63, 1<<63 - 1}} {
		list = append(list, func(l *api.RevList) { l.Serials = serials })
	}
	return append(list,
		func(l *api.RevList) { l.Serials[0] = 0 },
		func(l *api.RevList) { l.Serials[10]--; l.Serials[9] = l.Serials[10] },
		func(l *api.RevList) { slices.Reverse(l.Serials) },
		func(l *api.RevList) { l.Serials = append([]uint64{0}, lastSerials(499)...) },
		func(l *api.RevList) { l.Serials = append(lastSerials(499), 1) },
		func(l *api.RevList) { l.Serials = append(lastSerials(499), math.MaxUint64) },
		func(l *api.RevList) { l.Serials = make([]uint64, 500) })
}

// badSigs make revocation lists whose signature is not well-formed, of any.
func badSigs() []edit {
	sigs := []api.KeySig{
		{Index: 1}, {Index: -1}, {Index: math.MinInt},
		{Chains: make([]api.Short, 1)}, {Path: make([]api.Short, 1)}, {Path: make([]api.Short, 4)}, {Path: make([]api.Short, 35)},
		fitting(5, 0), fitting(5, 31), fitting(35, 0), fitting(1000, 1),
	}
	for height := range 5 {
		for _, n := range []int{1, 34, 36, 70, 1000} {
			sig := fitting(height, 1<<height-1)
			sig.Chains = slices.Repeat(sig.Chains, 30)[:n]
			sigs = append(sigs, sig)
		}
		for _, index := range []int{-1, 1 << height, 1<<height + 1, 16, 256, 1 << 32, math.MinInt, math.MaxInt} {
			sigs = append(sigs, fitting(height, index))
		}
	}
	var list []edit
	for _, sig := range sigs {
		list = append(list, func(l *api.RevList) { l.Sig = sig })
	}
	return list
}

// manyEdits make revocation lists with too many serials, of any.
func manyEdits() []edit {
	var list []edit
	for _, serials := range [][]uint64{lastSerials(501), lastSerials(1000), make([]uint64, 501), make([]uint64, 40000), slices.Repeat([]uint64{7}, 502)} {
		list = append(list, func(l *api.RevList) { l.Serials = serials })
	}
	return list
}

// validLists are valid revocation lists of all kinds.
func validLists() []api.RevList {
	list := []api.RevList{example(), plain(), varied(), full()}
	for _, change := range bodyEdits() {
		list = append(list, changed(varied(), change))
	}
	for i, change := range sigEdits() {
		list = append(list, changed(varied(), change), changed(example(), change), changed(varied(), bodyEdits()[i%10], change))
	}
	r := rand.New(rand.NewSource(1))
	for range 100 {
		list = append(list, random(r))
	}
	return list
}

// wrongLists are revocation lists that are not valid.
func wrongLists() []api.RevList {
	list := []api.RevList{{}}
	for _, many := range manyEdits() {
		list = append(list, changed(varied(), many))
	}
	for _, bad := range slices.Concat(badFields(), badSigs()) {
		list = append(list, changed(varied(), bad), changed(varied(), bad, manyEdits()[0]))
	}
	return list
}

// random returns a valid revocation list.
func random(r *rand.Rand) api.RevList {
	l := api.RevList{
		Issuer: []string{"a", "root", "A_b-9"}[r.Intn(3)], Number: r.Uint64() >> r.Intn(64),
		Valid: api.Window{From: r.Int63n(1 << r.Intn(40)), To: 1<<40 - r.Int63n(1<<r.Intn(39))},
	}
	last, step := uint64(0), r.Intn(40)
	for range r.Intn(2 + r.Intn(2)*r.Intn(499)) {
		last += 1 + r.Uint64()>>(63-step)
		l.Serials = append(l.Serials, last)
	}
	if height := r.Intn(5); r.Intn(3) > 0 {
		l.Sig = fitting(height, r.Intn(1<<height))
	}
	return l
}
