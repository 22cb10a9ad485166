package signed

import (
	"fmt"
	"math/big"
	"math/rand"
	"slices"
	"strings"
	"testing"

	"gatepath/api"
	"gatepath/cert"
)

// show returns a string that objects share only if they are identical, nil and empty lists being the same.
func show(o api.SignedObj) string {
	c := o.Ee
	return fmt.Sprintf("%d %x %d %q %q %v %v %v %v %v %q %q %q %q %q %v %v", o.Kind, o.Content,
		c.Serial, c.Issuer, c.Subject, c.Valid, c.Key, c.Ca, c.Inherit, c.Res, c.Repo, c.Manifest, c.Notify, c.Crl, c.Parent, c.Sig, o.Sig)
}

// brief is show for messages.
func brief(o api.SignedObj) string {
	s := show(o)
	return fmt.Sprintf("%d bytes: %.300s", len(o.Content), s)
}

func isZero(o api.SignedObj) bool {
	return show(o) == show(api.SignedObj{})
}

// modelValue returns the encoding of a value with a tag whose content consists of these parts.
func modelValue(tag byte, parts ...string) string {
	content := strings.Join(parts, "")
	if len(content) < 128 {
		return string([]byte{tag, byte(len(content))}) + content
	}
	length := modelBytes(uint64(len(content)))
	return string([]byte{tag, 128 + byte(len(length))}) + length + content
}

// modelBytes returns the bytes of a number.
func modelBytes(x uint64) string {
	return string(new(big.Int).SetUint64(x).Bytes())
}

func modelShorts(list []api.Short) string {
	s := ""
	for _, x := range list {
		s += string(x[:])
	}
	return s
}

// parts are what the encoding of an object is put together from: the tags of its lists, the encodings of the values in those of the body and of the signature, and that of the value of the certificate.
type parts struct {
	whole, body, sig byte
	fields           []string
	ee               string
	chains           []string
}

// partsOf returns what the chapter's words make of any object. A certificate that is not valid has the encoding of no bytes there.
func partsOf(o api.SignedObj) parts {
	ee, _ := cert.Encode(o.Ee)
	return parts{
		whole: 137, body: 136, sig: 131,
		fields: []string{modelValue(1, modelBytes(uint64(o.Kind))), modelValue(2, string(o.Content)), modelValue(3, modelBytes(o.Ee.Serial)), modelValue(4, o.Ee.Issuer), modelValue(5, o.Ee.Subject)},
		ee:     modelValue(6, string(ee)),
		chains: []string{modelValue(1, modelBytes(uint64(o.Sig.Index))), modelValue(2, modelShorts(o.Sig.Chains)), modelValue(3, modelShorts(o.Sig.Path))},
	}
}

// bodyBytes puts the body together.
func (p parts) bodyBytes() []byte {
	return []byte(modelValue(p.body, p.fields...))
}

// bytes puts all parts together.
func (p parts) bytes() []byte {
	return []byte(modelValue(p.whole, string(p.bodyBytes()), p.ee, modelValue(p.sig, p.chains...)))
}

func modelBody(o api.SignedObj) []byte {
	return partsOf(o).bodyBytes()
}

func modelEncode(o api.SignedObj) []byte {
	return partsOf(o).bytes()
}

// modelSig reports whether a signature is well-formed.
func modelSig(sig api.KeySig) bool {
	keys := []int{1, 2, 4, 8, 16}
	if len(sig.Chains)+len(sig.Path) == 0 {
		return sig.Index == 0
	}
	return len(sig.Path) < len(keys) && len(sig.Chains) == 35 && sig.Index >= 0 && sig.Index < keys[len(sig.Path)]
}

// modelCheck returns what Check has to.
func modelCheck(o api.SignedObj) api.Errno {
	switch {
	case len(o.Content) > 32768:
		return api.ErrMany
	case cert.Check(o.Ee) != api.OK:
		return cert.Check(o.Ee)
	case o.Kind < 1, o.Kind > 3, !modelSig(o.Sig):
		return api.ErrBad
	}
	return api.OK
}

// must returns the result of a call that has no error.
func must[R any](t *testing.T) func(R, api.Errno) R {
	t.Helper()
	return func(r R, e api.Errno) R {
		t.Helper()
		if e != api.OK {
			t.Fatal(e)
		}
		return r
	}
}

func body(t *testing.T, o api.SignedObj) []byte {
	t.Helper()
	return must[[]byte](t)(Body(o))
}

func encoded(t *testing.T, o api.SignedObj) []byte {
	t.Helper()
	return must[[]byte](t)(Encode(o))
}

// made returns the object with the kind, the content and the certificate of another one that Make makes.
func made(t *testing.T, o api.SignedObj, seed api.Short, height, index int) api.SignedObj {
	t.Helper()
	return must[api.SignedObj](t)(Make(o.Kind, o.Content, o.Ee, seed, height, index))
}

// accepted reports whether Decode accepts b. It fails if what is accepted is not valid, or has another encoding, and if it is refused with anything but ErrForm.
func accepted(t *testing.T, b []byte) bool {
	t.Helper()
	o, e := Decode(b)
	good := e == api.OK && modelCheck(o) == api.OK && slices.Equal(modelEncode(o), b)
	if !good && (e != api.ErrForm || !isZero(o)) {
		t.Fatal(len(b), b[:min(len(b), 100)], brief(o), e)
	}
	return good
}

// counted is the seed of the bytes 0 to 15.
func counted() api.Short {
	var x api.Short
	for i := range x {
		x[i] = byte(i)
	}
	return x
}

// fitting returns a signature that fits a height, of any message.
func fitting(height, index int) api.KeySig {
	r := rand.New(rand.NewSource(int64(1000*height + index)))
	list := make([]api.Short, api.OneChains+height)
	for i := range list {
		r.Read(list[i][:])
	}
	return api.KeySig{Index: index, Chains: slices.Clone(list[height:]), Path: slices.Clone(list[:height])}
}
