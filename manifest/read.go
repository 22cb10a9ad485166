package manifest

import (
	"math"

	"gatepath/api"
	"gatepath/octet"
)

// failing returns a closure that reports whether what it is told is an error, and keeps it in at: a function that is left at the first one has it there.
func failing(at *api.Errno) func(e api.Errno) bool {
	return func(e api.Errno) bool {
		*at = e
		return e != api.OK
	}
}

// read returns the manifest that is read from a value. A value that is read without an error is that of the manifest, so that it is left to Check whether this is valid.
func read(v api.Octet) (api.ManifestList, api.Errno) {
	var l api.ManifestList
	values, e := octet.ReadSeq(v, tagManifest, numbers, numbers+api.MaxListed)
	failed := failing(&e)
	if failed(e) ||
		failed(readNum(values[0], 1, &l.Number, math.MaxUint64)) ||
		failed(readNum(values[1], 2, &l.Valid.From, api.MaxTime)) ||
		failed(readNum(values[2], 3, &l.Valid.To, api.MaxTime)) {
		return api.ManifestList{}, e
	}
	for _, x := range values[numbers:] {
		var f api.FileHash
		if failed(readFile(x, &f)) {
			return api.ManifestList{}, e
		}
		l.Files = append(l.Files, f)
	}
	return l, api.OK
}

func readFile(v api.Octet, to *api.FileHash) api.Errno {
	values, e := octet.ReadSeq(v, tagFile, 2, 2)
	failed := failing(&e)
	if failed(e) || failed(readName(values[0], 1, &to.Name)) {
		return e
	}
	return readHash(values[1], 2, &to.Hash)
}

// readNum reads a number of at most most, which its type must be able to hold.
func readNum[N int64 | uint64](v api.Octet, tag uint8, to *N, most uint64) api.Errno {
	x, e := octet.ReadNum(v, tag, most)
	*to = N(x)
	return e
}

func readName(v api.Octet, tag uint8, to *string) (e api.Errno) {
	*to, e = octet.ReadStr(v, tag, api.MaxPart)
	return e
}

func readHash(v api.Octet, tag uint8, to *api.Hash) api.Errno {
	s, e := octet.ReadStr(v, tag, len(to))
	if e == api.OK && len(s) < len(to) {
		return api.ErrForm
	}
	copy(to[:], s)
	return e
}
