package manifest

import (
	"crypto/sha256"
	"fmt"
	"math/big"
	"regexp"
	"slices"
	"strings"
	"testing"

	"gatepath/api"
)

// show returns a string that manifests share only if they are identical, nil and empty lists being the same.
func show(l api.ManifestList) string {
	s := fmt.Sprintf("%d %v", l.Number, l.Valid)
	for _, f := range l.Files {
		s += fmt.Sprintf(" %q %x", f.Name, f.Hash)
	}
	return s
}

// brief is show for messages.
func brief(l api.ManifestList) string {
	s := show(l)
	return s[:min(len(s), 300)]
}

func isZero(l api.ManifestList) bool {
	return show(l) == show(api.ManifestList{})
}

// showReport returns a string that reports share only if they are identical, nil and empty lists being the same.
func showReport(r api.ListReport) string {
	return fmt.Sprintf("missing %q wrong %q extra %q", r.Missing, r.Wrong, r.Extra)
}

// modelValue returns the encoding of a value with a tag whose content consists of these parts.
func modelValue(tag byte, parts ...string) string {
	content := strings.Join(parts, "")
	if len(content) < 128 {
		return string([]byte{tag, byte(len(content))}) + content
	}
	length := modelBytes(uint64(len(content)))
	return string([]byte{tag, 128 + byte(len(length))}) + length + content
}

// modelBytes returns the bytes of a number.
func modelBytes(x uint64) string {
	return string(new(big.Int).SetUint64(x).Bytes())
}

func modelFile(f api.FileHash) string {
	return modelValue(129, modelValue(1, f.Name), modelValue(2, string(f.Hash[:])))
}

// modelEncode returns what the chapter's words make of any manifest.
func modelEncode(l api.ManifestList) []byte {
	parts := []string{
		modelValue(1, modelBytes(l.Number)),
		modelValue(2, modelBytes(uint64(l.Valid.From))),
		modelValue(3, modelBytes(uint64(l.Valid.To))),
	}
	for _, f := range l.Files {
		parts = append(parts, modelFile(f))
	}
	return []byte(modelValue(128, parts...))
}

var partBytes = regexp.MustCompile(`\A[a-zA-Z0-9_.-]{1,40}\z`)

func modelPart(s string) bool {
	return s != "." && s != ".." && partBytes.MatchString(s)
}

func modelWindow(w api.Window) bool {
	return 0 <= w.From && w.From <= w.To && w.To <= 1<<40
}

// modelListed reports whether all names are parts, and greater than all those before them.
func modelListed(files []api.FileHash) bool {
	for i, f := range files {
		before := func(g api.FileHash) bool { return g.Name >= f.Name }
		if !modelPart(f.Name) || slices.ContainsFunc(files[:i], before) {
			return false
		}
	}
	return true
}

// modelCheck returns what Check has to.
func modelCheck(l api.ManifestList) api.Errno {
	switch {
	case len(l.Files) > 200:
		return api.ErrMany
	case !modelWindow(l.Valid), !modelListed(l.Files):
		return api.ErrBad
	}
	return api.OK
}

// modelFiles returns the error of files.
func modelFiles(files []api.NamedFile) api.Errno {
	if len(files) > 200 {
		return api.ErrMany
	}
	if slices.ContainsFunc(files, func(f api.NamedFile) bool { return !modelPart(f.Name) }) {
		return api.ErrBad
	}
	for i, f := range files {
		if slices.ContainsFunc(files[:i], func(g api.NamedFile) bool { return g.Name == f.Name }) {
			return api.ErrTwice
		}
	}
	return api.OK
}

// modelMake returns what Make has to: each file is put behind those with lesser names.
func modelMake(number uint64, valid api.Window, files []api.NamedFile) (api.ManifestList, api.Errno) {
	e := modelFiles(files)
	if !modelWindow(valid) {
		e = api.ErrBad
	}
	if e != api.OK {
		return api.ManifestList{}, e
	}
	l := api.ManifestList{Number: number, Valid: valid}
	for _, f := range files {
		at := 0
		for at < len(l.Files) && l.Files[at].Name < f.Name {
			at++
		}
		l.Files = slices.Insert(l.Files, at, api.FileHash{Name: f.Name, Hash: sha256.Sum256(f.Bytes)})
	}
	return l, api.OK
}

// modelReport returns the report on valid files by a valid manifest: each name is looked for in both, in order.
func modelReport(l api.ManifestList, files []api.NamedFile) api.ListReport {
	var names []string
	for _, f := range l.Files {
		names = append(names, f.Name)
	}
	for _, f := range files {
		names = append(names, f.Name)
	}
	slices.Sort(names)
	var r api.ListReport
	for _, name := range slices.Compact(names) {
		at := slices.IndexFunc(l.Files, func(f api.FileHash) bool { return f.Name == name })
		there := slices.IndexFunc(files, func(f api.NamedFile) bool { return f.Name == name })
		switch {
		case there < 0:
			r.Missing = append(r.Missing, name)
		case at < 0:
			r.Extra = append(r.Extra, name)
		case sha256.Sum256(files[there].Bytes) != l.Files[at].Hash:
			r.Wrong = append(r.Wrong, name)
		}
	}
	return r
}

// must returns the result of a call that has no error.
func must[R any](t *testing.T) func(R, api.Errno) R {
	t.Helper()
	return func(r R, e api.Errno) R {
		t.Helper()
		if e != api.OK {
			t.Fatal(e)
		}
		return r
	}
}

func encoded(t *testing.T, l api.ManifestList) []byte {
	t.Helper()
	return must[[]byte](t)(Encode(l))
}

func made(t *testing.T, files []api.NamedFile) api.ManifestList {
	t.Helper()
	return must[api.ManifestList](t)(Make(7, api.Window{From: 10, To: 20}, files))
}

// accepted reports whether Decode accepts b. It fails if what is accepted is not valid, or has another encoding, and if it is refused with anything but ErrForm.
func accepted(t *testing.T, b []byte) bool {
	t.Helper()
	l, e := Decode(b)
	good := e == api.OK && modelCheck(l) == api.OK && slices.Equal(modelEncode(l), b)
	if !good && (e != api.ErrForm || !isZero(l)) {
		t.Fatal(len(b), b[:min(len(b), 100)], brief(l), e)
	}
	return good
}
