package aspa

import (
	"bytes"
	"fmt"
	"math/big"
	"slices"
	"strings"
	"testing"

	"gatepath/api"
)

// show returns a string that attestations share only if they are identical, nil and empty lists being the same.
func show(l ...api.ProviderAuth) string {
	var parts []string
	for _, a := range l {
		s := fmt.Sprintf("%d:", a.Customer)
		for _, p := range a.Providers {
			s += fmt.Sprintf(" %d", p)
		}
		parts = append(parts, s)
	}
	return strings.Join(parts, "; ")
}

// brief is show for messages.
func brief(l ...api.ProviderAuth) string {
	s := show(l...)
	return s[:min(len(s), 300)]
}

// modelValue returns the encoding of a value with a tag whose content consists of these parts.
func modelValue(tag byte, parts ...string) string {
	content := strings.Join(parts, "")
	if len(content) < 128 {
		return string([]byte{tag, byte(len(content))}) + content
	}
	length := modelBytes(uint64(len(content)))
	return string([]byte{tag, 128 + byte(len(length))}) + length + content
}

// modelBytes returns the bytes of a number.
func modelBytes(x uint64) string {
	return string(new(big.Int).SetUint64(x).Bytes())
}

// modelParts are the encodings of the values in the list.
func modelParts(a api.ProviderAuth) []string {
	parts := []string{modelValue(1, modelBytes(uint64(a.Customer)))}
	for _, p := range a.Providers {
		parts = append(parts, modelValue(2, modelBytes(uint64(p))))
	}
	return parts
}

// modelEncode returns what the chapter's words make of any attestation.
func modelEncode(a api.ProviderAuth) []byte {
	return []byte(modelValue(128, modelParts(a)...))
}

// modelCheck returns what Check has to: each provider has to be greater than all those before it.
func modelCheck(a api.ProviderAuth) api.Errno {
	n := len(a.Providers)
	if n > 50 {
		return api.ErrMany
	}
	good := n >= 1 && a.Customer != 0 && !slices.Contains(a.Providers, a.Customer) && (n == 1 || !slices.Contains(a.Providers, 0))
	for i := range n {
		for j := range i {
			good = good && a.Providers[j] < a.Providers[i]
		}
	}
	if !good {
		return api.ErrBad
	}
	return api.OK
}

// modelCheckAll returns the error of a list of attestations.
func modelCheckAll(l []api.ProviderAuth) api.Errno {
	if len(l) > 300 {
		return api.ErrMany
	}
	for _, a := range l {
		if e := modelCheck(a); e != api.OK {
			return e
		}
	}
	return api.OK
}

// has reports whether a list has an attestation of this customer with this provider.
func has(l []api.ProviderAuth, customer, provider uint32) bool {
	return slices.ContainsFunc(l, func(a api.ProviderAuth) bool {
		return a.Customer == customer && slices.Contains(a.Providers, provider)
	})
}

// numbers returns the numbers that occur in a list, in order, none of them twice.
func numbers(l []api.ProviderAuth) []uint32 {
	var list []uint32
	for _, a := range l {
		list = append(append(list, a.Customer), a.Providers...)
	}
	slices.Sort(list)
	return slices.Compact(list)
}

// modelUnion asks of all pairs of numbers that occur in a list whether they are in one of the attestations.
func modelUnion(l []api.ProviderAuth) []api.ProviderAuth {
	var out []api.ProviderAuth
	all := numbers(l)
	for _, customer := range all {
		a := api.ProviderAuth{Customer: customer}
		for _, p := range all {
			if p != 0 && has(l, customer, p) {
				a.Providers = append(a.Providers, p)
			}
		}
		if a.Providers == nil && has(l, customer, 0) {
			a.Providers = []uint32{0}
		}
		if a.Providers != nil {
			out = append(out, a)
		}
	}
	return out
}

func modelHop(l []api.ProviderAuth, customer, provider uint32) uint8 {
	if !slices.ContainsFunc(l, func(a api.ProviderAuth) bool { return a.Customer == customer }) {
		return 0
	}
	if provider != 0 && has(l, customer, provider) {
		return 1
	}
	return 2
}

// must returns the result of a call that has no error.
func must[R any](t *testing.T) func(R, api.Errno) R {
	t.Helper()
	return func(r R, e api.Errno) R {
		t.Helper()
		if e != api.OK {
			t.Fatal(e)
		}
		return r
	}
}

func encoded(t *testing.T, a api.ProviderAuth) []byte {
	t.Helper()
	return must[[]byte](t)(Encode(a))
}

func merged(t *testing.T, l []api.ProviderAuth) []api.ProviderAuth {
	t.Helper()
	return must[[]api.ProviderAuth](t)(Merge(l))
}

// accepted reports whether Decode accepts b. It fails if what is accepted is not valid, or has another encoding, and if it is refused with anything but ErrForm.
func accepted(t *testing.T, b []byte) bool {
	t.Helper()
	a, e := Decode(b)
	good := e == api.OK && modelCheck(a) == api.OK && bytes.Equal(modelEncode(a), b)
	if !good && (e != api.ErrForm || a.Customer != 0 || len(a.Providers) != 0) {
		t.Fatal(len(b), b[:min(len(b), 100)], brief(a), e)
	}
	return good
}
