package signed

import (
	"gatepath/api"
	"gatepath/octet"
)

// Tags of lists. Fields have the tags that the chapters number them by.
const (
	tagSig   = 131
	tagBody  = 136
	tagWhole = 137
)

// wholeValue returns the value of a valid signed object, given the encoding of its certificate.
func wholeValue(o api.SignedObj, ee []byte) api.Octet {
	return octet.Seq(tagWhole, bodyValue(o), octet.Str(6, string(ee)), sigValue(o.Sig))
}

// bodyValue returns the value of the body of a signed object.
func bodyValue(o api.SignedObj) api.Octet {
	return octet.Seq(tagBody,
		octet.Num(1, uint64(o.Kind)),
		octet.Str(2, string(o.Content)),
		octet.Num(3, o.Ee.Serial),
		octet.Str(4, o.Ee.Issuer),
		octet.Str(5, o.Ee.Subject))
}

// sigValue returns the value of a well-formed signature.
func sigValue(sig api.KeySig) api.Octet {
	return octet.Seq(tagSig, octet.Num(1, uint64(sig.Index)), shortsValue(2, sig.Chains), shortsValue(3, sig.Path))
}

// shortsValue returns the value of the bytes of short digests, one after the other.
func shortsValue(tag uint8, list []api.Short) api.Octet {
	var b []byte
	for _, x := range list {
		b = append(b, x[:]...)
	}
	return octet.Str(tag, string(b))
}
