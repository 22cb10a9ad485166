package octet

import (
	"encoding/hex"
	"math"
	"math/big"
	"math/rand"
	"slices"
	"strconv"
	"strings"
	"testing"

	"gatepath/api"
)

// show returns a string that values share only if they are identical.
func show(v api.Octet) string {
	parts := []string{}
	for _, x := range v.List {
		parts = append(parts, show(x))
	}
	return strconv.Itoa(int(v.Tag)) + "'" + hex.EncodeToString(v.Bytes) + "(" + strings.Join(parts, " ") + ")"
}

// brief is show for messages.
func brief(v api.Octet) string {
	s := show(v)
	return s[:min(len(s), 200)]
}

func showAll(list []api.Octet) string {
	return show(api.Octet{List: list})
}

func isZero(v api.Octet) bool {
	return show(v) == show(api.Octet{})
}

// modelBytes returns the bytes of a number.
func modelBytes(x uint64) []byte {
	return new(big.Int).SetUint64(x).Bytes()
}

// modelLength returns the encoding of a length.
func modelLength(n int) []byte {
	b := modelBytes(uint64(n))
	switch {
	case n == 0:
		return []byte{0}
	case n < 128:
		return b
	}
	return slices.Concat([]byte{128 | byte(len(b))}, b)
}

// modelEncode returns the encoding of a value by what its tag says, of the innermost values first.
func modelEncode(v api.Octet) []byte {
	content := v.Bytes
	if v.Tag >= 128 {
		content = nil
		for _, x := range v.List {
			content = slices.Concat(content, modelEncode(x))
		}
	}
	return slices.Concat([]byte{v.Tag}, modelLength(len(content)), content)
}

// modelCount returns the number of values, and the depth, of a value.
func modelCount(v api.Octet) (values, depth int) {
	for _, x := range v.List {
		n, d := modelCount(x)
		values, depth = values+n, max(depth, d)
	}
	return values + 1, depth + 1
}

// modelKinds reports whether no tag is 0, and all values are simple or lists.
func modelKinds(v api.Octet) bool {
	simple := v.Tag >= 1 && v.Tag <= 127 && len(v.List) == 0
	list := v.Tag >= 128 && len(v.Bytes) == 0
	return (simple || list) && !slices.ContainsFunc(v.List, func(x api.Octet) bool { return !modelKinds(x) })
}

// modelCheck returns what Check has to.
func modelCheck(v api.Octet) api.Errno {
	values, depth := modelCount(v)
	switch {
	case values > 4000 || depth > 12:
		return api.ErrMany
	case !modelKinds(v):
		return api.ErrBad
	case len(modelEncode(v)) > 65536:
		return api.ErrMany
	}
	return api.OK
}

// sized returns a simple value whose encoding has so many bytes, of at least 2, but not 130, 259 or 65540, where the length gets longer.
func sized(tag uint8, n int) api.Octet {
	for _, header := range []int{2, 3, 4, 5} {
		if v := (api.Octet{Tag: tag, Bytes: make([]byte, max(n-header, 0))}); len(modelEncode(v)) == n {
			return v
		}
	}
	panic("no value of this size")
}

// flat returns a list of so many values, of which it is one.
func flat(values int) api.Octet {
	return api.Octet{Tag: 128, List: slices.Repeat([]api.Octet{{Tag: 1}}, values-1)}
}

// nested returns a value of a depth, of lists around v, whose own depth is 1.
func nested(depth int, v api.Octet) api.Octet {
	for range depth - 1 {
		v = api.Octet{Tag: 200, List: []api.Octet{v}}
	}
	return v
}

func someBytes(r *rand.Rand, n int) []byte {
	b := make([]byte, n)
	r.Read(b)
	return b
}

// some returns a valid value of a depth of at most depth.
func some(r *rand.Rand, depth int) api.Octet {
	if depth == 1 || r.Intn(3) == 0 {
		return api.Octet{Tag: uint8(1 + r.Intn(127)), Bytes: someBytes(r, r.Intn(5)*r.Intn(5)*r.Intn(20))}
	}
	v := api.Octet{Tag: uint8(128 + r.Intn(128))}
	for range r.Intn(5) {
		v.List = append(v.List, some(r, depth-1))
	}
	return v
}

// wild returns any value.
func wild(r *rand.Rand, depth int) api.Octet {
	tags := []uint8{0, 1, 2, 127, 128, 129, 255}
	v := api.Octet{Tag: tags[r.Intn(len(tags))], Bytes: someBytes(r, r.Intn(3)*r.Intn(3))}
	for range r.Intn(4) {
		if depth > 1 {
			v.List = append(v.List, wild(r, depth-1))
		}
	}
	return v
}

// someValues are valid values of all kinds.
func someValues() []api.Octet {
	r := rand.New(rand.NewSource(1))
	out := []api.Octet{{Tag: 1}, {Tag: 127, Bytes: []byte{0}}, {Tag: 128}, {Tag: 255}, flat(4000), nested(12, api.Octet{Tag: 1}), sized(3, 65536)}
	for _, n := range []int{127, 128, 129, 255, 256, 257, 300, 65531, 65532} {
		out = append(out, api.Octet{Tag: 9, Bytes: someBytes(r, n)})
	}
	for range 500 {
		out = append(out, some(r, 1+r.Intn(6)))
	}
	return out
}

// anyValues are values that need not be valid, and valid ones.
func anyValues() []api.Octet {
	r := rand.New(rand.NewSource(2))
	out := []api.Octet{{}, {Bytes: []byte{0}}, {List: []api.Octet{{}}}, {Tag: 5, Bytes: []byte{5}, List: []api.Octet{{}}}, flat(4001), nested(13, api.Octet{Tag: 1}), sized(3, 65537)}
	for range 500 {
		out = append(out, wild(r, 1+r.Intn(5)))
	}
	return append(out, someValues()...)
}

// encoded returns what Encode returns, which has no error.
func encoded(t *testing.T, v api.Octet) []byte {
	t.Helper()
	b, e := Encode(v)
	if e != api.OK {
		t.Fatal(brief(v), e)
	}
	return b
}

// checkDecode reports whether b is decoded as want, or refused with ErrForm if there is no such value.
func checkDecode(t *testing.T, b []byte, want api.Octet, is bool) {
	t.Helper()
	v, e := Decode(b)
	if is && (e != api.OK || show(v) != show(want)) {
		t.Fatal(b[:min(len(b), 20)], len(b), brief(v), e)
	}
	if !is && (e != api.ErrForm || !isZero(v)) {
		t.Fatal(b[:min(len(b), 20)], len(b), brief(v), e, "not ErrForm")
	}
}

func edgeNumbers() []uint64 {
	out := []uint64{0, math.MaxUint64, math.MaxUint64 - 1}
	for shift := range 64 {
		out = append(out, 1<<shift-1, 1<<shift, 1<<shift+1)
	}
	r := rand.New(rand.NewSource(3))
	for range 200 {
		out = append(out, r.Uint64()>>r.Intn(64))
	}
	return out
}

func edgeTags() []uint8 {
	return []uint8{0, 1, 2, 127, 128, 129, 254, 255}
}
