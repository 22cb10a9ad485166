package aspa

import (
	"math"
	"math/rand"
	"slices"

	"gatepath/api"
)

// auth returns the attestation of a customer with these providers.
func auth(customer uint32, providers ...uint32) api.ProviderAuth {
	return api.ProviderAuth{Customer: customer, Providers: providers}
}

// example is the attestation of the chapter's first example.
func example() api.ProviderAuth {
	return auth(5, 300)
}

// varied is an attestation with numbers of all lengths.
func varied() api.ProviderAuth {
	return auth(70000, 1, 2, 127, 128, 255, 256, 300, 1<<15, 1<<16-1, 1<<16, 69999, 70001, 1<<24, 1<<24+1, 1<<31-1, 1<<31, math.MaxUint32-1, math.MaxUint32)
}

// full is an attestation whose encoding is as long as one can be.
func full() api.ProviderAuth {
	return auth(math.MaxUint32, row(1<<31, 50)...)
}

// row returns n numbers in a row.
func row(first uint32, n int) []uint32 {
	var list []uint32
	for i := range n {
		list = append(list, first+uint32(i))
	}
	return list
}

// edit changes an attestation, which may share its list with others.
type edit func(a *api.ProviderAuth)

// changed returns an attestation with a change.
func changed(a api.ProviderAuth, change edit) api.ProviderAuth {
	a.Providers = slices.Clone(a.Providers)
	change(&a)
	return a
}

// badEdits make attestations that are not valid of varied, because of one thing.
func badEdits() []edit {
	var list []edit
	for i, p := range varied().Providers {
		list = append(list,
			func(a *api.ProviderAuth) { a.Customer = p },
			func(a *api.ProviderAuth) { a.Providers = slices.Insert(a.Providers, i, p) },
			func(a *api.ProviderAuth) { a.Providers[i] = 0 },
			func(a *api.ProviderAuth) { a.Providers[i] = a.Customer },
			func(a *api.ProviderAuth) { a.Customer, a.Providers = p, []uint32{p} })
		if i > 0 {
			list = append(list,
				func(a *api.ProviderAuth) { a.Providers[i] = a.Providers[i-1] },
				func(a *api.ProviderAuth) {
					a.Providers[i-1], a.Providers[i] = a.Providers[i], a.Providers[i-1]
				},
				func(a *api.ProviderAuth) { a.Providers[0], a.Providers[i] = a.Providers[i], a.Providers[0] })
		}
	}
	return append(list,
		func(a *api.ProviderAuth) { a.Customer = 0 },
		func(a *api.ProviderAuth) { a.Customer, a.Providers = 0, []uint32{0} },
		func(a *api.ProviderAuth) { a.Customer, a.Providers = 0, []uint32{7} },
		func(a *api.ProviderAuth) { a.Providers = nil },
		func(a *api.ProviderAuth) { a.Providers = a.Providers[:0] },
		func(a *api.ProviderAuth) { a.Providers = make([]uint32, 2) },
		func(a *api.ProviderAuth) { a.Providers = make([]uint32, 50) },
		func(a *api.ProviderAuth) { a.Providers = []uint32{0, 1} },
		func(a *api.ProviderAuth) { a.Providers = []uint32{1, 0} },
		func(a *api.ProviderAuth) { a.Providers = []uint32{0, math.MaxUint32} },
		func(a *api.ProviderAuth) { a.Providers = row(0, 50) },
		func(a *api.ProviderAuth) { a.Providers = row(70000-49, 50) },
		func(a *api.ProviderAuth) { a.Providers = row(70000, 50) },
		func(a *api.ProviderAuth) { a.Providers = []uint32{70001, 70000} },
		// Numbers that are in order only as signed ones.
		func(a *api.ProviderAuth) { a.Providers = []uint32{1 << 31, 1} },
		func(a *api.ProviderAuth) { a.Providers = []uint32{math.MaxUint32, 1} },
		func(a *api.ProviderAuth) { a.Providers = row(math.MaxUint32-24, 50) },
		func(a *api.ProviderAuth) { slices.Reverse(a.Providers) })
}

// manyEdits make attestations with too many providers, valid and in order or not.
func manyEdits() []edit {
	var list []edit
	for _, providers := range [][]uint32{row(1, 51), row(1<<31, 51), row(0, 51), row(70000, 51), make([]uint32, 51), row(5, 306), slices.Repeat([]uint32{9}, 1<<17)} {
		list = append(list,
			func(a *api.ProviderAuth) { a.Providers = providers },
			func(a *api.ProviderAuth) { a.Customer, a.Providers = 0, providers })
	}
	return list
}

// validAuths are valid attestations of all kinds.
func validAuths() []api.ProviderAuth {
	list := []api.ProviderAuth{example(), varied(), full(), auth(1, 0), auth(math.MaxUint32, 0), auth(64500, 0), auth(1, 2, 256), auth(51, row(1, 50)...), auth(1, row(2, 50)...), auth(1, row(math.MaxUint32-49, 50)...)}
	for n := range 50 {
		list = append(list, auth(200, row(1<<16, 1+n)...))
	}
	for i, p := range varied().Providers {
		list = append(list,
			auth(70000, p), auth(p, 70000),
			changed(varied(), func(a *api.ProviderAuth) { a.Providers = slices.Delete(a.Providers, i, i+1) }),
			changed(varied(), func(a *api.ProviderAuth) { a.Customer, a.Providers = p, slices.Delete(a.Providers, i, i+1) }))
	}
	r := rand.New(rand.NewSource(1))
	for range 200 {
		list = append(list, random(r, 1<<32))
	}
	return list
}

// wrongAuths are attestations that are not valid.
func wrongAuths() []api.ProviderAuth {
	list := []api.ProviderAuth{{}, {Customer: 1}, {Customer: 1, Providers: []uint32{}}, auth(0, 0), auth(0, 1), auth(1, 1), auth(1, 0, 2), auth(1, 0, 0), auth(1, 2, 2), auth(1, 3, 2)}
	for _, many := range manyEdits() {
		list = append(list, changed(varied(), many))
	}
	for _, bad := range badEdits() {
		list = append(list, changed(varied(), bad))
	}
	return list
}

// random returns a valid attestation whose numbers are below a limit of at least 3.
func random(r *rand.Rand, limit int64) api.ProviderAuth {
	a := api.ProviderAuth{Customer: uint32(1 + r.Int63n(limit-1))}
	if r.Intn(5) > 0 {
		for range 1 + r.Intn(1<<r.Intn(7))%50 {
			a.Providers = append(a.Providers, uint32(1+r.Int63n(limit-1)))
		}
	}
	slices.Sort(a.Providers)
	a.Providers = slices.DeleteFunc(slices.Compact(a.Providers), func(p uint32) bool { return p == a.Customer })
	if len(a.Providers) == 0 {
		a.Providers = []uint32{0}
	}
	return a
}

// randomList returns a list of n valid attestations, some of them of the same customers.
func randomList(r *rand.Rand, n int) []api.ProviderAuth {
	limit := []int64{3, 4, 10, 40, 1 << 32}[r.Intn(5)]
	var list []api.ProviderAuth
	for range n {
		list = append(list, random(r, limit))
	}
	return list
}

// customers returns n valid attestations of as many customers.
func customers(n int) []api.ProviderAuth {
	var list []api.ProviderAuth
	for i := range n {
		list = append(list, auth(1000+uint32(i), 1, 2000+uint32(i)))
	}
	return list
}
