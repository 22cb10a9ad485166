package roa

import (
	"slices"

	"gatepath/api"
	"gatepath/number"
)

// key has the numbers that make up an element of Prefixes: Family, High, Low, Len and Max. This is the order that elements are compared by, and in which they are encoded.
type key [5]uint64

// keyOf returns the key of an element. Different elements have different keys, even with lengths that are negative.
func keyOf(x api.AuthPrefix) key {
	p := x.Prefix
	return key{uint64(p.Family), p.Addr.High, p.Addr.Low, uint64(p.Len), uint64(x.Max)}
}

// element returns the element with a key.
func (k key) element() api.AuthPrefix {
	p := api.Prefix{Family: uint8(k[0]), Addr: api.Addr{High: k[1], Low: k[2]}, Len: int(k[3])}
	return api.AuthPrefix{Prefix: p, Max: int(k[4])}
}

func sameElement(x, y api.AuthPrefix) bool {
	return keyOf(x) == keyOf(y)
}

// before reports whether x is less than y, both of which are valid.
func before(x, y api.AuthPrefix) bool {
	a, b := keyOf(x), keyOf(y)
	return slices.Compare(a[:], b[:]) < 0
}

// areElements reports whether the elements of a list are valid and strictly increasing.
func areElements(list []api.AuthPrefix) bool {
	for i, x := range list {
		if !isElement(x) || i > 0 && !before(list[i-1], x) {
			return false
		}
	}
	return true
}

// isElement reports whether an element is valid.
func isElement(x api.AuthPrefix) bool {
	if number.Check(x.Prefix) != api.OK || x.Max < x.Prefix.Len {
		return false
	}
	// An address can be cut to all lengths up to the width of its family.
	_, e := number.Cut(x.Prefix.Family, x.Prefix.Addr, x.Max)
	return e == api.OK
}

// collect returns what f makes of those elements of a list that it chooses.
func collect[T any](list []api.AuthPrefix, f func(x api.AuthPrefix) (T, bool)) []T {
	var out []T
	for _, x := range list {
		if t, chosen := f(x); chosen {
			out = append(out, t)
		}
	}
	return out
}
