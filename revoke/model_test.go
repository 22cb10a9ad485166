package revoke

import (
	"fmt"
	"math/big"
	"math/rand"
	"regexp"
	"slices"
	"strings"
	"testing"

	"gatepath/api"
)

// show returns a string that revocation lists share only if they are identical, nil and empty lists being the same.
func show(l api.RevList) string {
	return fmt.Sprintf("%q %d %v %v %v", l.Issuer, l.Number, l.Valid, l.Serials, l.Sig)
}

// brief is show for messages.
func brief(l api.RevList) string {
	s := show(l)
	return s[:min(len(s), 300)]
}

func isZero(l api.RevList) bool {
	return show(l) == show(api.RevList{})
}

// modelValue returns the encoding of a value with a tag whose content consists of these parts.
func modelValue(tag byte, parts ...string) string {
	content := strings.Join(parts, "")
	if len(content) < 128 {
		return string([]byte{tag, byte(len(content))}) + content
	}
	length := modelBytes(uint64(len(content)))
	return string([]byte{tag, 128 + byte(len(length))}) + length + content
}

// modelBytes returns the bytes of a number.
func modelBytes(x uint64) string {
	return string(new(big.Int).SetUint64(x).Bytes())
}

func modelShorts(list []api.Short) string {
	s := ""
	for _, x := range list {
		s += string(x[:])
	}
	return s
}

// modelBody returns what the chapter's words make of any revocation list.
func modelBody(l api.RevList) []byte {
	var serials []string
	for _, x := range l.Serials {
		serials = append(serials, modelValue(5, modelBytes(x)))
	}
	return []byte(modelValue(134,
		modelValue(1, l.Issuer),
		modelValue(2, modelBytes(l.Number)),
		modelValue(3, modelBytes(uint64(l.Valid.From))),
		modelValue(4, modelBytes(uint64(l.Valid.To))),
		modelValue(129, serials...)))
}

// modelEncode returns what the chapter's words make of any revocation list.
func modelEncode(l api.RevList) []byte {
	sig := modelValue(131, modelValue(1, modelBytes(uint64(l.Sig.Index))), modelValue(2, modelShorts(l.Sig.Chains)), modelValue(3, modelShorts(l.Sig.Path)))
	return []byte(modelValue(135, string(modelBody(l)), sig))
}

var modelName = regexp.MustCompile(`\A[a-zA-Z0-9_-]{1,40}\z`)

// modelSig reports whether a signature is well-formed.
func modelSig(sig api.KeySig) bool {
	keys := []int{1, 2, 4, 8, 16}
	if len(sig.Chains)+len(sig.Path) == 0 {
		return sig.Index == 0
	}
	return len(sig.Path) < len(keys) && len(sig.Chains) == 35 && sig.Index >= 0 && sig.Index < keys[len(sig.Path)]
}

// modelSerials reports whether all serials are greater than 0, and than all those before them.
func modelSerials(list []uint64) bool {
	for i, x := range list {
		if x == 0 || slices.ContainsFunc(list[:i], func(y uint64) bool { return y >= x }) {
			return false
		}
	}
	return true
}

// modelCheck returns what Check has to.
func modelCheck(l api.RevList) api.Errno {
	switch w := l.Valid; {
	case len(l.Serials) > 500:
		return api.ErrMany
	case !modelName.MatchString(l.Issuer), w.From < 0, w.To < w.From, w.To > 1<<40, !modelSerials(l.Serials), !modelSig(l.Sig):
		return api.ErrBad
	}
	return api.OK
}

// must returns the result of a call that has no error.
func must[R any](t *testing.T) func(R, api.Errno) R {
	t.Helper()
	return func(r R, e api.Errno) R {
		t.Helper()
		if e != api.OK {
			t.Fatal(e)
		}
		return r
	}
}

func body(t *testing.T, l api.RevList) []byte {
	t.Helper()
	return must[[]byte](t)(Body(l))
}

func encoded(t *testing.T, l api.RevList) []byte {
	t.Helper()
	return must[[]byte](t)(Encode(l))
}

func signed(t *testing.T, l api.RevList, seed api.Short, height, index int) api.RevList {
	t.Helper()
	return must[api.RevList](t)(Sign(l, seed, height, index))
}

// accepted reports whether Decode accepts b. It fails if what is accepted is not valid, or has another encoding, and if it is refused with anything but ErrForm.
func accepted(t *testing.T, b []byte) bool {
	t.Helper()
	l, e := Decode(b)
	good := e == api.OK && modelCheck(l) == api.OK && slices.Equal(modelEncode(l), b)
	if !good && (e != api.ErrForm || !isZero(l)) {
		t.Fatal(len(b), b[:min(len(b), 100)], brief(l), e)
	}
	return good
}

// counted is the seed of the bytes 0 to 15.
func counted() api.Short {
	var x api.Short
	for i := range x {
		x[i] = byte(i)
	}
	return x
}

// fitting returns a signature that fits a height, of any message.
func fitting(height, index int) api.KeySig {
	r := rand.New(rand.NewSource(int64(1000*height + index)))
	list := make([]api.Short, api.OneChains+height)
	for i := range list {
		r.Read(list[i][:])
	}
	return api.KeySig{Index: index, Chains: slices.Clone(list[height:]), Path: slices.Clone(list[:height])}
}
