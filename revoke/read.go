package revoke

import (
	"math"
	"slices"

	"gatepath/api"
	"gatepath/octet"
)

// shortBytes is the number of bytes of a short digest.
const shortBytes = len(api.Short{})

// reader reads values into a revocation list. It goes on after an error, of which it tells keep, as what is read then is not used.
type reader struct {
	list api.RevList
	keep func(e api.Errno)
}

// read returns the revocation list that is read from a value, and the first error. A value without an error is that of the list, so that it is left to Check whether this is valid.
func read(v api.Octet) (api.RevList, api.Errno) {
	first := api.OK
	r := reader{keep: func(e api.Errno) {
		if first == api.OK {
			first = e
		}
	}}
	r.whole(v)
	return r.list, first
}

// fields reads a list that has one value for each of the parts.
func (r *reader) fields(v api.Octet, tag uint8, parts ...func(v api.Octet)) {
	list, e := octet.ReadSeq(v, tag, len(parts), len(parts))
	r.keep(e)
	for i, x := range list {
		parts[i](x)
	}
}

func (r *reader) whole(v api.Octet) {
	r.fields(v, tagWhole, r.body, r.sig)
}

func (r *reader) body(v api.Octet) {
	r.fields(v, tagBody, r.issuer, r.number, r.from, r.to, r.serials)
}

func (r *reader) sig(v api.Octet) {
	r.fields(v, tagSig, r.index, r.chains, r.path)
}

func (r *reader) issuer(v api.Octet) { r.list.Issuer = r.str(v, 1, api.MaxName) }

func (r *reader) number(v api.Octet) { r.list.Number = r.num(v, 2, math.MaxUint64) }

func (r *reader) from(v api.Octet) { r.list.Valid.From = int64(r.num(v, 3, api.MaxTime)) }

func (r *reader) to(v api.Octet) { r.list.Valid.To = int64(r.num(v, 4, api.MaxTime)) }

func (r *reader) serials(v api.Octet) {
	list, e := octet.ReadSeq(v, tagSerials, 0, api.MaxSerials)
	r.keep(e)
	for _, x := range list {
		r.list.Serials = append(r.list.Serials, r.num(x, tagSerial, math.MaxUint64))
	}
}

func (r *reader) index(v api.Octet) { r.list.Sig.Index = int(r.num(v, 1, 1<<api.MaxHeight-1)) }

func (r *reader) chains(v api.Octet) { r.list.Sig.Chains = r.shorts(v, 2, api.OneChains) }

func (r *reader) path(v api.Octet) { r.list.Sig.Path = r.shorts(v, 3, api.MaxHeight) }

// num reads a number of at most most.
func (r *reader) num(v api.Octet, tag uint8, most uint64) uint64 {
	x, e := octet.ReadNum(v, tag, most)
	r.keep(e)
	return x
}

// str reads a string of at most most bytes.
func (r *reader) str(v api.Octet, tag uint8, most int) string {
	s, e := octet.ReadStr(v, tag, most)
	r.keep(e)
	return s
}

// shorts reads the bytes of at most most short digests, one after the other.
func (r *reader) shorts(v api.Octet, tag uint8, most int) []api.Short {
	b := []byte(r.str(v, tag, most*shortBytes))
	if len(b)%shortBytes != 0 {
		r.keep(api.ErrForm)
		return nil
	}
	var list []api.Short
	for x := range slices.Chunk(b, shortBytes) {
		list = append(list, api.Short(x))
	}
	return list
}
