package revoke

import (
	"iter"
	"slices"

	"gatepath/api"
	"gatepath/octet"
)

// Tags of lists. Fields have the tags that the chapter numbers them by.
const (
	tagSerials = 129
	tagSig     = 131
	tagBody    = 134
	tagWhole   = 135
)

// tagSerial is the tag of each serial number.
const tagSerial = 5

// bodyValue returns the value of the body of a valid revocation list.
func bodyValue(l api.RevList) api.Octet {
	return octet.Seq(tagBody,
		octet.Str(1, l.Issuer),
		octet.Num(2, l.Number),
		octet.Num(3, uint64(l.Valid.From)),
		octet.Num(4, uint64(l.Valid.To)),
		octet.Seq(tagSerials, slices.Collect(serialValues(l.Serials))...))
}

// serialValues tells the values of serial numbers.
func serialValues(serials []uint64) iter.Seq[api.Octet] {
	return func(yield func(api.Octet) bool) {
		for _, serial := range serials {
			if !yield(octet.Num(tagSerial, serial)) {
				return
			}
		}
	}
}

// sigValue returns the value of a well-formed signature.
func sigValue(sig api.KeySig) api.Octet {
	return octet.Seq(tagSig, octet.Num(1, uint64(sig.Index)), shortsValue(2, sig.Chains), shortsValue(3, sig.Path))
}

// shortsValue returns the value of the bytes of short digests, one after the other.
func shortsValue(tag uint8, list []api.Short) api.Octet {
	var b []byte
	for _, x := range list {
		b = append(b, x[:]...)
	}
	return octet.Str(tag, string(b))
}
