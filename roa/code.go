package roa

import (
	"math"

	"gatepath/api"
	"gatepath/octet"
)

// Tags of lists. The numbers in a list have the tags 1, 2 and so on.
const (
	tagAuth    = 128
	tagElement = 129
)

// greatestLen is the greatest length of a prefix of any family.
const greatestLen = 128

// valueOf returns the value of a valid authorisation.
func valueOf(a api.RouteAuth) api.Octet {
	values := []api.Octet{octet.Num(1, uint64(a.As))}
	for _, x := range a.Prefixes {
		values = append(values, valueOfElement(x))
	}
	return octet.Seq(tagAuth, values...)
}

func valueOfElement(x api.AuthPrefix) api.Octet {
	var values []api.Octet
	for i, n := range keyOf(x) {
		values = append(values, octet.Num(uint8(i+1), n))
	}
	return octet.Seq(tagElement, values...)
}

// read returns the authorisation that is read from a value. A value that is read without an error is that of the authorisation, so that it is left to Check whether this is valid.
func read(v api.Octet) (api.RouteAuth, api.Errno) {
	values, e := octet.ReadSeq(v, tagAuth, 1, 1+api.MaxAuths)
	next := reader(values, &e)
	a := api.RouteAuth{As: uint32(next(math.MaxUint32))}
	if e != api.OK {
		return api.RouteAuth{}, e
	}
	for _, x := range values[1:] {
		element, e := readElement(x)
		if e != api.OK {
			return api.RouteAuth{}, e
		}
		a.Prefixes = append(a.Prefixes, element)
	}
	return a, api.OK
}

func readElement(v api.Octet) (api.AuthPrefix, api.Errno) {
	values, e := octet.ReadSeq(v, tagElement, len(key{}), len(key{}))
	next := reader(values, &e)
	k := key{next(math.MaxUint8), next(math.MaxUint64), next(math.MaxUint64), next(greatestLen), next(greatestLen)}
	return k.element(), e
}

// reader returns a closure that reads the numbers in a list, one after the other, each of them at most most. It keeps the first error in e; once there is one, it reads nothing, and returns 0.
func reader(values []api.Octet, e *api.Errno) func(most uint64) uint64 {
	at := 0
	return func(most uint64) (x uint64) {
		if *e != api.OK {
			return 0
		}
		x, *e = octet.ReadNum(values[at], uint8(at+1), most)
		at++
		return x
	}
}
