package cert

import (
	"gatepath/api"
	"gatepath/octet"
)

// Tags of lists. Fields have the tags that the chapter numbers them by.
const (
	tagBody      = 128
	tagSpans     = 129
	tagResources = 130
	tagSig       = 131
	tagCert      = 132
	tagSpan      = 133
)

// What the number of the field 8 consists of.
const (
	flagCa = 1 << iota
	flagInherit
)

// bodyValue returns the value of the body of a valid certificate.
func bodyValue(c api.Cert) api.Octet {
	return octet.Seq(tagBody,
		octet.Num(1, c.Serial),
		octet.Str(2, c.Issuer),
		octet.Str(3, c.Subject),
		octet.Num(4, uint64(c.Valid.From)),
		octet.Num(5, uint64(c.Valid.To)),
		octet.Str(6, join(c.Key.Root)),
		octet.Num(7, uint64(c.Key.Height)),
		octet.Num(8, flagsOf(c)),
		octet.Seq(tagResources, spansValue(c.Res.V4, addrsValue), spansValue(c.Res.V6, addrsValue), spansValue(c.Res.As, systemsValue)),
		octet.Str(9, c.Repo),
		octet.Str(10, c.Manifest),
		octet.Str(11, c.Notify),
		octet.Str(12, c.Crl),
		octet.Str(13, c.Parent))
}

func flagsOf(c api.Cert) uint64 {
	flags := uint64(0)
	if c.Ca {
		flags |= flagCa
	}
	if c.Inherit {
		flags |= flagInherit
	}
	return flags
}

// spansValue returns the value of a list of spans, given that of a span.
func spansValue[S any](list []S, value func(S) api.Octet) api.Octet {
	var values []api.Octet
	for _, s := range list {
		values = append(values, value(s))
	}
	return octet.Seq(tagSpans, values...)
}

func addrsValue(s api.Span) api.Octet {
	return octet.Seq(tagSpan, octet.Num(1, s.From.High), octet.Num(2, s.From.Low), octet.Num(3, s.To.High), octet.Num(4, s.To.Low))
}

func systemsValue(s api.AsSpan) api.Octet {
	return octet.Seq(tagSpan, octet.Num(1, uint64(s.From)), octet.Num(2, uint64(s.To)))
}

// sigValue returns the value of a well-formed signature.
func sigValue(sig api.KeySig) api.Octet {
	return octet.Seq(tagSig, octet.Num(1, uint64(sig.Index)), octet.Str(2, join(sig.Chains...)), octet.Str(3, join(sig.Path...)))
}

// join returns the bytes of short digests, one after the other.
func join(list ...api.Short) string {
	var b []byte
	for _, x := range list {
		b = append(b, x[:]...)
	}
	return string(b)
}
