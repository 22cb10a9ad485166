package signed

import (
	"math"

	"gatepath/api"
	"gatepath/cert"
	"gatepath/octet"
)

// shortBytes is the number of bytes of a short digest.
const shortBytes = len(api.Short{})

// keeper is told the error of each part that is read, and keeps the first one. Reading goes on after an error, as what is read then is not used.
type keeper func(e api.Errno)

// read returns the signed object that is read from a value, and the first error. A value without an error is that of the object, so that it is left to Check whether this is valid.
func read(v api.Octet) (api.SignedObj, api.Errno) {
	first := api.OK
	keep := keeper(func(e api.Errno) { first = firstOf(first, e) })
	whole := keep.list(v, tagWhole, 3)
	body := keep.list(whole[0], tagBody, 5)
	o := api.SignedObj{
		Kind:    uint8(keep.num(body[0], 1, math.MaxUint8)),
		Content: []byte(keep.str(body[1], 2, api.MaxContent)),
		Ee:      keep.ee(whole[1], 6),
		Sig:     keep.sig(whole[2]),
	}
	// The rest of the body has to be what the certificate says.
	keep(unless(octet.Same(whole[0], bodyValue(o)), api.ErrForm))
	return o, first
}

// list reads a list of n values, which are zero values if there is no such list.
func (keep keeper) list(v api.Octet, tag uint8, n int) []api.Octet {
	list, e := octet.ReadSeq(v, tag, n, n)
	keep(e)
	return append(list, make([]api.Octet, n-len(list))...)
}

// num reads a number of at most most.
func (keep keeper) num(v api.Octet, tag uint8, most uint64) uint64 {
	x, e := octet.ReadNum(v, tag, most)
	keep(e)
	return x
}

// str reads a string of at most most bytes.
func (keep keeper) str(v api.Octet, tag uint8, most int) string {
	s, e := octet.ReadStr(v, tag, most)
	keep(e)
	return s
}

// ee reads the encoding of a certificate.
func (keep keeper) ee(v api.Octet, tag uint8) api.Cert {
	c, e := cert.Decode([]byte(keep.str(v, tag, api.MaxOctets)))
	keep(e)
	return c
}

func (keep keeper) sig(v api.Octet) api.KeySig {
	list := keep.list(v, tagSig, 3)
	return api.KeySig{
		Index:  int(keep.num(list[0], 1, 1<<api.MaxHeight-1)),
		Chains: keep.shorts(list[1], 2, api.OneChains),
		Path:   keep.shorts(list[2], 3, api.MaxHeight),
	}
}

// shorts reads the bytes of at most most short digests, one after the other.
func (keep keeper) shorts(v api.Octet, tag uint8, most int) []api.Short {
	s := keep.str(v, tag, most*shortBytes)
	keep(unless(len(s)%shortBytes == 0, api.ErrForm))
	list := make([]api.Short, len(s)/shortBytes)
	for i := range list {
		copy(list[i][:], s[i*shortBytes:])
	}
	return list
}
