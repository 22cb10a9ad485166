package aspa

import (
	"maps"
	"slices"

	"gatepath/api"
)

// checkList returns ErrMany if a list has more than most elements, and otherwise the first error that check has for one of them.
func checkList[T any](list []T, most int, check func(x T) api.Errno) api.Errno {
	if len(list) > most {
		return api.ErrMany
	}
	for _, x := range list {
		if e := check(x); e != api.OK {
			return e
		}
	}
	return api.OK
}

// checkAll returns the first error of a list of attestations.
func checkAll(l []api.ProviderAuth) api.Errno {
	return checkList(l, api.MaxPaths, Check)
}

// checkerOf returns a closure that checks the providers of an attestation, one after the other.
func checkerOf(a api.ProviderAuth) func(p uint32) api.Errno {
	alone := len(a.Providers) == 1
	last := uint32(0) // so that a list of several providers cannot begin with 0
	return func(p uint32) api.Errno {
		if p == a.Customer || p <= last && !alone {
			return api.ErrBad
		}
		last = p
		return api.OK
	}
}

// union returns the union of valid attestations. The attestations in it may have too many providers, but are valid otherwise.
func union(l []api.ProviderAuth) []api.ProviderAuth {
	providers := collect(l)
	var out []api.ProviderAuth
	for _, customer := range slices.Sorted(maps.Keys(providers)) {
		of := providers[customer]
		if len(of) > 1 {
			delete(of, 0)
		}
		out = append(out, api.ProviderAuth{Customer: customer, Providers: slices.Sorted(maps.Keys(of))})
	}
	return out
}

// collect returns the providers of each customer that has an attestation.
func collect(l []api.ProviderAuth) map[uint32]map[uint32]bool {
	providers := map[uint32]map[uint32]bool{}
	for _, a := range l {
		if providers[a.Customer] == nil {
			providers[a.Customer] = map[uint32]bool{}
		}
		for _, p := range a.Providers {
			providers[a.Customer][p] = true
		}
	}
	return providers
}
