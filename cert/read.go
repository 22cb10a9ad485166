package cert

import (
	"math"

	"gatepath/api"
	"gatepath/octet"
)

// shortBytes is the number of bytes of a short digest.
const shortBytes = len(api.Short{})

// reading reads a value to the place that it was made for, and tells the first error; with an error, what is there is of no use.
type reading func(v api.Octet) api.Errno

// readCert returns the reading of a certificate. It accepts a value only if it is that of what it has read, so that it is left to Check whether this is valid.
func readCert(c *api.Cert) reading {
	return fields(tagCert, readBody(c), readSig(&c.Sig))
}

func readBody(c *api.Cert) reading {
	return fields(tagBody,
		num(1, &c.Serial, math.MaxUint64),
		str(2, &c.Issuer, api.MaxName),
		str(3, &c.Subject, api.MaxName),
		num(4, &c.Valid.From, api.MaxTime),
		num(5, &c.Valid.To, api.MaxTime),
		short(6, &c.Key.Root),
		num(7, &c.Key.Height, api.MaxHeight),
		flags(8, &c.Ca, &c.Inherit),
		fields(tagResources, spans(&c.Res.V4, addrs), spans(&c.Res.V6, addrs), spans(&c.Res.As, systems)),
		str(9, &c.Repo, api.MaxLocator),
		str(10, &c.Manifest, api.MaxLocator),
		str(11, &c.Notify, api.MaxLocator),
		str(12, &c.Crl, api.MaxLocator),
		str(13, &c.Parent, api.MaxLocator))
}

func readSig(sig *api.KeySig) reading {
	return fields(tagSig,
		num(1, &sig.Index, 1<<api.MaxHeight-1),
		shorts(2, &sig.Chains, api.OneChains),
		shorts(3, &sig.Path, api.MaxHeight))
}

// fields returns the reading of a list that has one value for each of the readings.
func fields(tag uint8, readings ...reading) reading {
	return func(v api.Octet) api.Errno {
		list, e := octet.ReadSeq(v, tag, len(readings), len(readings))
		for i := 0; i < len(list) && e == api.OK; i++ {
			e = readings[i](list[i])
		}
		return e
	}
}

// num returns the reading of a number of at most most, which its type must be able to hold.
func num[N int | int64 | uint32 | uint64](tag uint8, to *N, most uint64) reading {
	return func(v api.Octet) api.Errno {
		x, e := octet.ReadNum(v, tag, most)
		*to = N(x)
		return e
	}
}

// str returns the reading of a string of at most most bytes.
func str(tag uint8, to *string, most int) reading {
	return func(v api.Octet) (e api.Errno) {
		*to, e = octet.ReadStr(v, tag, most)
		return e
	}
}

// flags returns the reading of the number that tells what a certificate is for.
func flags(tag uint8, ca, inherit *bool) reading {
	return func(v api.Octet) api.Errno {
		x, e := octet.ReadNum(v, tag, flagCa|flagInherit)
		*ca, *inherit = x&flagCa != 0, x&flagInherit != 0
		return e
	}
}

// short returns the reading of the bytes of a short digest.
func short(tag uint8, to *api.Short) reading {
	return func(v api.Octet) api.Errno {
		s, e := octet.ReadStr(v, tag, shortBytes)
		if copy(to[:], s) < shortBytes {
			return api.ErrForm
		}
		return e
	}
}

// shorts returns the reading of the bytes of at most most short digests, one after the other.
func shorts(tag uint8, to *[]api.Short, most int) reading {
	return func(v api.Octet) api.Errno {
		s, e := octet.ReadStr(v, tag, most*shortBytes)
		if len(s)%shortBytes != 0 {
			return api.ErrForm
		}
		for ; s != ""; s = s[shortBytes:] {
			*to = append(*to, api.Short([]byte(s[:shortBytes])))
		}
		return e
	}
}

// spans returns the reading of a list of spans, given that of a span.
func spans[S any](to *[]S, one func(s *S) reading) reading {
	return func(v api.Octet) api.Errno {
		list, e := octet.ReadSeq(v, tagSpans, 0, api.MaxSpans)
		*to = make([]S, len(list))
		for i := 0; i < len(list) && e == api.OK; i++ {
			e = one(&(*to)[i])(list[i])
		}
		return e
	}
}

func addrs(s *api.Span) reading {
	return fields(tagSpan,
		num(1, &s.From.High, math.MaxUint64),
		num(2, &s.From.Low, math.MaxUint64),
		num(3, &s.To.High, math.MaxUint64),
		num(4, &s.To.Low, math.MaxUint64))
}

func systems(s *api.AsSpan) reading {
	return fields(tagSpan, num(1, &s.From, math.MaxUint32), num(2, &s.To, math.MaxUint32))
}
