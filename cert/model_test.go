package cert

import (
	"fmt"
	"math/big"
	"math/rand"
	"regexp"
	"slices"
	"strings"
	"testing"

	"gatepath/api"
	"gatepath/locator"
	"gatepath/resource"
)

// show returns a string that certificates share only if they are identical, nil and empty lists being the same.
func show(c api.Cert) string {
	return fmt.Sprintf("%d %q %q %v %v %v %v %v %q %q %q %q %q %v", c.Serial, c.Issuer, c.Subject, c.Valid, c.Key, c.Ca, c.Inherit, c.Res, c.Repo, c.Manifest, c.Notify, c.Crl, c.Parent, c.Sig)
}

// brief is show for messages.
func brief(c api.Cert) string {
	s := show(c)
	return s[:min(len(s), 300)]
}

func isZero(c api.Cert) bool {
	return show(c) == show(api.Cert{})
}

// modelBytes returns the bytes of a number.
func modelBytes(x uint64) []byte {
	return new(big.Int).SetUint64(x).Bytes()
}

// modelValue returns the encoding of a value with a tag whose content consists of these parts.
func modelValue(tag byte, parts ...[]byte) []byte {
	content := slices.Concat(parts...)
	length := []byte{byte(len(content))}
	if len(content) > 127 {
		b := modelBytes(uint64(len(content)))
		length = append([]byte{128 | byte(len(b))}, b...)
	}
	return slices.Concat([]byte{tag}, length, content)
}

func modelNum(tag byte, x uint64) []byte {
	return modelValue(tag, modelBytes(x))
}

func modelShorts(tag byte, list []api.Short) []byte {
	var parts [][]byte
	for i := range list {
		parts = append(parts, list[i][:])
	}
	return modelValue(tag, parts...)
}

func modelAddrs(list []api.Span) []byte {
	var parts [][]byte
	for _, s := range list {
		parts = append(parts, modelValue(133, modelNum(1, s.From.High), modelNum(2, s.From.Low), modelNum(3, s.To.High), modelNum(4, s.To.Low)))
	}
	return modelValue(129, parts...)
}

func modelSystems(list []api.AsSpan) []byte {
	var parts [][]byte
	for _, s := range list {
		parts = append(parts, modelValue(133, modelNum(1, uint64(s.From)), modelNum(2, uint64(s.To))))
	}
	return modelValue(129, parts...)
}

// modelBody returns what the chapter's words make of any certificate.
func modelBody(c api.Cert) []byte {
	flags := map[[2]bool]uint64{{false, false}: 0, {true, false}: 1, {false, true}: 2, {true, true}: 3}[[2]bool{c.Ca, c.Inherit}]
	return modelValue(128,
		modelNum(1, c.Serial), modelValue(2, []byte(c.Issuer)), modelValue(3, []byte(c.Subject)),
		modelNum(4, uint64(c.Valid.From)), modelNum(5, uint64(c.Valid.To)),
		modelValue(6, c.Key.Root[:]), modelNum(7, uint64(c.Key.Height)), modelNum(8, flags),
		modelValue(130, modelAddrs(c.Res.V4), modelAddrs(c.Res.V6), modelSystems(c.Res.As)),
		modelValue(9, []byte(c.Repo)), modelValue(10, []byte(c.Manifest)), modelValue(11, []byte(c.Notify)), modelValue(12, []byte(c.Crl)), modelValue(13, []byte(c.Parent)))
}

// modelEncode returns what the chapter's words make of any certificate.
func modelEncode(c api.Cert) []byte {
	return modelValue(132, modelBody(c), modelValue(131, modelNum(1, uint64(c.Sig.Index)), modelShorts(2, c.Sig.Chains), modelShorts(3, c.Sig.Path)))
}

var modelName = regexp.MustCompile(`\A[a-zA-Z0-9_-]{1,40}\z`)

// modelPlace reports whether s is "", or a string of a locator of which the kind is one of kinds: a directory or a file, with its scheme.
func modelPlace(s string, kinds ...string) bool {
	if s == "" {
		return true
	}
	if _, e := locator.Parse(s); e != api.OK {
		return false
	}
	kind := "file"
	if strings.HasSuffix(s, "/") {
		kind = "directory"
	}
	return slices.Contains(kinds, kind+" "+s[:5])
}

// modelSig reports whether a signature is well-formed.
func modelSig(sig api.KeySig) bool {
	switch len(sig.Chains) {
	case 0:
		return sig.Index == 0 && len(sig.Path) == 0
	case 35:
		most := map[int]int{0: 0, 1: 1, 2: 3, 3: 7, 4: 15}
		last, is := most[len(sig.Path)]
		return is && 0 <= sig.Index && sig.Index <= last
	}
	return false
}

// modelCheck returns what Check has to.
func modelCheck(c api.Cert) api.Errno {
	files := []string{"file rsync", "file https"}
	switch {
	case len(c.Res.V4) > 200, len(c.Res.V6) > 200, len(c.Res.As) > 200:
		return api.ErrMany
	case resource.Check(c.Res) != api.OK, c.Inherit && len(c.Res.V4)+len(c.Res.V6)+len(c.Res.As) > 0:
		return api.ErrBad
	case c.Serial == 0, !modelName.MatchString(c.Issuer), !modelName.MatchString(c.Subject):
		return api.ErrBad
	case c.Valid.From < 0, c.Valid.From > c.Valid.To, c.Valid.To > 1<<40, c.Key.Height < 0, c.Key.Height > 4:
		return api.ErrBad
	case !modelPlace(c.Repo, "directory rsync", "directory https"), !modelPlace(c.Notify, "file https"):
		return api.ErrBad
	case !modelPlace(c.Manifest, files...), !modelPlace(c.Crl, files...), !modelPlace(c.Parent, files...), !modelSig(c.Sig):
		return api.ErrBad
	}
	return api.OK
}

// body returns what Body returns, which has no error.
func body(t *testing.T, c api.Cert) []byte {
	t.Helper()
	b, e := Body(c)
	if e != api.OK {
		t.Fatal(brief(c), e)
	}
	return b
}

// encoded returns what Encode returns, which has no error.
func encoded(t *testing.T, c api.Cert) []byte {
	t.Helper()
	b, e := Encode(c)
	if e != api.OK {
		t.Fatal(brief(c), e)
	}
	return b
}

// signed returns what Sign returns, which has no error.
func signed(t *testing.T, c api.Cert, seed api.Short, height, index int) api.Cert {
	t.Helper()
	out, e := Sign(c, seed, height, index)
	if e != api.OK {
		t.Fatal(brief(c), height, index, e)
	}
	return out
}

// accepted reports whether Decode accepts b. It fails if what is accepted is not valid, or has another encoding, and if it is refused with anything but ErrForm.
func accepted(t *testing.T, b []byte) bool {
	t.Helper()
	c, e := Decode(b)
	if e == api.OK && modelCheck(c) == api.OK && string(modelEncode(c)) == string(b) {
		return true
	}
	if e != api.ErrForm || !isZero(c) {
		t.Fatal(len(b), b[:min(len(b), 100)], brief(c), e)
	}
	return false
}

func someShort(r *rand.Rand) api.Short {
	var x api.Short
	r.Read(x[:])
	return x
}

func someShorts(r *rand.Rand, n int) []api.Short {
	var list []api.Short
	for range n {
		list = append(list, someShort(r))
	}
	return list
}

// counted is the seed, or the root, of the bytes 0 to 15.
func counted() api.Short {
	var x api.Short
	for i := range x {
		x[i] = byte(i)
	}
	return x
}

// fitting returns a signature that fits a height, of any message.
func fitting(height, index int) api.KeySig {
	r := rand.New(rand.NewSource(int64(100*height + index)))
	return api.KeySig{Index: index, Chains: someShorts(r, 35), Path: someShorts(r, height)}
}
