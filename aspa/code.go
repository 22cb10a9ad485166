package aspa

import (
	"math"

	"gatepath/api"
	"gatepath/octet"
)

// Tags of the list, and of the numbers in it.
const (
	tagAuth     = 128
	tagCustomer = 1
	tagProvider = 2
)

// valueOf returns the value of a valid attestation.
func valueOf(a api.ProviderAuth) api.Octet {
	values := []api.Octet{octet.Num(tagCustomer, uint64(a.Customer))}
	for _, p := range a.Providers {
		values = append(values, octet.Num(tagProvider, uint64(p)))
	}
	return octet.Seq(tagAuth, values...)
}

// read returns the attestation that is read from a value. A value that is read without an error is that of the attestation, so that it is left to Check whether this is valid.
func read(v api.Octet) (api.ProviderAuth, api.Errno) {
	values, e := octet.ReadSeq(v, tagAuth, 1, 1+api.MaxProvider)
	if e != api.OK {
		return api.ProviderAuth{}, e
	}
	var a api.ProviderAuth
	if a.Customer, e = readSystem(values[0], tagCustomer); e != api.OK {
		return api.ProviderAuth{}, e
	}
	for _, x := range values[1:] {
		p, e := readSystem(x, tagProvider)
		if e != api.OK {
			return api.ProviderAuth{}, e
		}
		a.Providers = append(a.Providers, p)
	}
	return a, api.OK
}

// readSystem reads the number of a system.
func readSystem(v api.Octet, tag uint8) (uint32, api.Errno) {
	x, e := octet.ReadNum(v, tag, math.MaxUint32)
	return uint32(x), e
}
