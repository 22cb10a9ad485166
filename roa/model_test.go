package roa

import (
	"cmp"
	"fmt"
	"math/big"
	"slices"
	"strings"
	"testing"

	"gatepath/api"
)

// show returns a string that authorisations share only if they are identical, nil and empty lists being the same.
func show(a api.RouteAuth) string {
	s := fmt.Sprintf("AS%d", a.As)
	for _, x := range a.Prefixes {
		s += fmt.Sprintf(" %d:%x:%x/%d-%d", x.Prefix.Family, x.Prefix.Addr.High, x.Prefix.Addr.Low, x.Prefix.Len, x.Max)
	}
	return s
}

// brief is show for messages.
func brief(a api.RouteAuth) string {
	s := show(a)
	return s[:min(len(s), 300)]
}

func isZero(a api.RouteAuth) bool {
	return show(a) == show(api.RouteAuth{})
}

// modelValue returns the encoding of a value with a tag whose content consists of these parts.
func modelValue(tag byte, parts ...string) string {
	content := strings.Join(parts, "")
	if len(content) < 128 {
		return string([]byte{tag, byte(len(content))}) + content
	}
	length := modelBytes(uint64(len(content)))
	return string([]byte{tag, 128 + byte(len(length))}) + length + content
}

// modelBytes returns the bytes of a number.
func modelBytes(x uint64) string {
	return string(new(big.Int).SetUint64(x).Bytes())
}

// modelFields are the encodings of the numbers of an element.
func modelFields(x api.AuthPrefix) []string {
	return []string{
		modelValue(1, modelBytes(uint64(x.Prefix.Family))),
		modelValue(2, modelBytes(x.Prefix.Addr.High)),
		modelValue(3, modelBytes(x.Prefix.Addr.Low)),
		modelValue(4, modelBytes(uint64(x.Prefix.Len))),
		modelValue(5, modelBytes(uint64(x.Max))),
	}
}

// modelEncode returns what the chapter's words make of any authorisation.
func modelEncode(a api.RouteAuth) []byte {
	parts := []string{modelValue(1, modelBytes(uint64(a.As)))}
	for _, x := range a.Prefixes {
		parts = append(parts, modelValue(129, modelFields(x)...))
	}
	return []byte(modelValue(128, parts...))
}

var widths = map[uint8]int{api.Family4: 32, api.Family6: 128}

func modelAddr(a api.Addr) *big.Int {
	n := new(big.Int).SetUint64(a.High)
	return n.Add(n.Lsh(n, 64), new(big.Int).SetUint64(a.Low))
}

// modelBits returns the bits of an address, the first one first; there are more than the width if it is none of the family.
func modelBits(family uint8, a api.Addr) string {
	return fmt.Sprintf("%0*b", widths[family], modelAddr(a))
}

// modelPrefix returns the error of number.Check.
func modelPrefix(p api.Prefix) api.Errno {
	width := widths[p.Family]
	if width == 0 {
		return api.ErrArg
	}
	bits := modelBits(p.Family, p.Addr)
	if len(bits) > width || p.Len < 0 || p.Len > width || strings.Contains(bits[p.Len:], "1") {
		return api.ErrBad
	}
	return api.OK
}

func modelElement(x api.AuthPrefix) bool {
	return modelPrefix(x.Prefix) == api.OK && x.Prefix.Len <= x.Max && x.Max <= widths[x.Prefix.Family]
}

func modelCompare(x, y api.AuthPrefix) int {
	return cmp.Or(
		cmp.Compare(x.Prefix.Family, y.Prefix.Family),
		modelAddr(x.Prefix.Addr).Cmp(modelAddr(y.Prefix.Addr)),
		cmp.Compare(x.Prefix.Len, y.Prefix.Len),
		cmp.Compare(x.Max, y.Max))
}

// modelCheck returns what Check has to: each element has to be greater than all those before it.
func modelCheck(a api.RouteAuth) api.Errno {
	if len(a.Prefixes) > 100 {
		return api.ErrMany
	}
	for i, x := range a.Prefixes {
		before := func(y api.AuthPrefix) bool { return modelCompare(x, y) <= 0 }
		if !modelElement(x) || slices.ContainsFunc(a.Prefixes[:i], before) {
			return api.ErrBad
		}
	}
	if len(a.Prefixes) == 0 {
		return api.ErrBad
	}
	return api.OK
}

// modelCovers tells of valid prefixes.
func modelCovers(p, q api.Prefix) bool {
	return p.Family == q.Family && strings.HasPrefix(modelBits(q.Family, q.Addr)[:q.Len], modelBits(p.Family, p.Addr)[:p.Len])
}

// modelAllows tells of a valid authorisation and a valid prefix.
func modelAllows(a api.RouteAuth, p api.Prefix, as uint32) bool {
	for _, x := range a.Prefixes {
		if as == a.As && as != 0 && modelCovers(x.Prefix, p) && p.Len <= x.Max {
			return true
		}
	}
	return false
}

// modelNeeds returns the resources of a valid authorisation: its prefixes are in the order of their first addresses, so that each one begins a span, or continues the last one.
func modelNeeds(a api.RouteAuth) api.Resources {
	var lists [7][]api.Span
	for _, x := range a.Prefixes {
		s := api.Span{From: x.Prefix.Addr, To: modelLast(x.Prefix)}
		list := lists[x.Prefix.Family]
		last := len(list) - 1
		if last >= 0 && new(big.Int).Sub(modelAddr(s.From), modelAddr(list[last].To)).Cmp(big.NewInt(1)) <= 0 {
			if modelAddr(s.To).Cmp(modelAddr(list[last].To)) > 0 {
				list[last].To = s.To
			}
			continue
		}
		lists[x.Prefix.Family] = append(list, s)
	}
	return api.Resources{V4: lists[api.Family4], V6: lists[api.Family6]}
}

// modelLast returns the last address of a valid prefix.
func modelLast(p api.Prefix) api.Addr {
	n := new(big.Int).Lsh(big.NewInt(1), uint(widths[p.Family]-p.Len))
	n.Add(n.Sub(n, big.NewInt(1)), modelAddr(p.Addr))
	low := new(big.Int).And(n, new(big.Int).SetUint64(1<<64-1))
	return api.Addr{High: new(big.Int).Rsh(n, 64).Uint64(), Low: low.Uint64()}
}

// must returns the result of a call that has no error.
func must[R any](t *testing.T) func(R, api.Errno) R {
	t.Helper()
	return func(r R, e api.Errno) R {
		t.Helper()
		if e != api.OK {
			t.Fatal(e)
		}
		return r
	}
}

func encoded(t *testing.T, a api.RouteAuth) []byte {
	t.Helper()
	return must[[]byte](t)(Encode(a))
}

// accepted reports whether Decode accepts b. It fails if what is accepted is not valid, or has another encoding, and if it is refused with anything but ErrForm.
func accepted(t *testing.T, b []byte) bool {
	t.Helper()
	a, e := Decode(b)
	good := e == api.OK && modelCheck(a) == api.OK && slices.Equal(modelEncode(a), b)
	if !good && (e != api.ErrForm || !isZero(a)) {
		t.Fatal(len(b), b[:min(len(b), 100)], brief(a), e)
	}
	return good
}
