package manifest

import (
	"bytes"
	"crypto/sha256"
	"encoding/hex"
	"slices"
	"testing"

	"gatepath/api"
)

// P13.1

func TestCheckValid(t *testing.T) {
	for i, l := range validLists() {
		if e := Check(l); e != api.OK || modelCheck(l) != api.OK {
			t.Error(i, brief(l), e)
		}
	}
}

func TestCheckBad(t *testing.T) {
	for i, bad := range badEdits() {
		l := changed(varied(), bad)
		if e := Check(l); e != api.ErrBad || modelCheck(l) != api.ErrBad {
			t.Error(i, brief(l), e)
		}
	}
}

// TestCheckMany has too many files in manifests that are valid otherwise, and in others: ErrMany comes first.
func TestCheckMany(t *testing.T) {
	for i, many := range manyEdits() {
		if e := Check(changed(varied(), many)); e != api.ErrMany {
			t.Error(i, e)
		}
		for j, bad := range badEdits() {
			if e := Check(changed(varied(), bad, many)); e != api.ErrMany {
				t.Error(i, j, e)
			}
		}
	}
	for n, want := range map[int]api.Errno{0: api.OK, 1: api.OK, 199: api.OK, 200: api.OK, 201: api.ErrMany} {
		if e := Check(api.ManifestList{Files: someFiles(n)}); e != want {
			t.Error(n, e)
		}
	}
}

// TestCheckShortLists has all lists of up to four names out of some.
func TestCheckShortLists(t *testing.T) {
	var check func(files []api.FileHash)
	check = func(files []api.FileHash) {
		l := api.ManifestList{Files: files}
		if e := Check(l); e != modelCheck(l) {
			t.Fatal(brief(l), e)
		}
		if len(files) == 4 {
			return
		}
		for _, name := range []string{"", "-", ".", "..", "...", "/", "0", "A", "B", "_", "a", "aa", "b"} {
			check(append(slices.Clone(files), api.FileHash{Name: name}))
		}
	}
	check(nil)
}

// TestCheckBadPlace has one name that is not right, at each place of a long list.
func TestCheckBadPlace(t *testing.T) {
	for i := range 200 {
		for _, name := range []string{"", "-", "/", "zz", someFiles(200)[0].Name, someFiles(200)[199].Name} {
			l := api.ManifestList{Files: someFiles(200)}
			l.Files[i].Name = name
			if e := Check(l); e != modelCheck(l) {
				t.Fatal(i, name, e)
			}
		}
	}
}

// TestCheckBytes has each byte alone in a name, and in it.
func TestCheckBytes(t *testing.T) {
	for c := range 256 {
		for _, name := range []string{string([]byte{byte(c)}), string([]byte{'a', byte(c)}), string([]byte{byte(c), '.', '.'})} {
			l := api.ManifestList{Files: []api.FileHash{{Name: name}}}
			if e := Check(l); e != modelCheck(l) {
				t.Error(c, name, e)
			}
		}
	}
}

func TestSame(t *testing.T) {
	list := append(validLists(), api.ManifestList{Files: []api.FileHash{}})
	for _, bad := range badEdits() {
		list = append(list, changed(varied(), bad))
	}
	shown := make([]string, len(list))
	for i, l := range list {
		shown[i] = show(l)
	}
	for i, a := range list {
		for j, b := range list {
			if Same(a, b) != (shown[i] == shown[j]) {
				t.Fatal(brief(a), brief(b))
			}
		}
	}
}

// TestSameFields changes one field after the other of a manifest that is not valid.
func TestSameFields(t *testing.T) {
	base := api.ManifestList{Number: 1, Valid: api.Window{From: 5, To: -5}, Files: []api.FileHash{{Name: "b"}, {Name: "\x00"}, {Name: "b"}}}
	for i, change := range []edit{
		func(l *api.ManifestList) { l.Number = 0 },
		func(l *api.ManifestList) { l.Number += 1 << 32 },
		func(l *api.ManifestList) { l.Valid.From-- },
		func(l *api.ManifestList) { l.Valid.To-- },
		func(l *api.ManifestList) { l.Files = nil },
		func(l *api.ManifestList) { l.Files = l.Files[:2] },
		func(l *api.ManifestList) { l.Files = append(l.Files, api.FileHash{}) },
		func(l *api.ManifestList) { l.Files[1].Name = "" },
		func(l *api.ManifestList) { l.Files[2].Name = "B" },
		func(l *api.ManifestList) { l.Files[0].Hash[0] = 1 },
		func(l *api.ManifestList) { l.Files[2].Hash[31] = 128 },
		func(l *api.ManifestList) { l.Files[0], l.Files[1] = l.Files[1], l.Files[0] },
	} {
		other := changed(base)
		if !Same(base, other) {
			t.Fatal(i, brief(other))
		}
		change(&other)
		if Same(base, other) || Same(other, base) {
			t.Error(i, brief(other))
		}
	}
}

func TestSameEmpty(t *testing.T) {
	a, b := api.ManifestList{}, api.ManifestList{Files: []api.FileHash{}}
	if !Same(a, b) || !Same(b, a) || Check(b) != api.OK || !bytes.Equal(encoded(t, a), encoded(t, b)) {
		t.Error("nil and empty lists differ")
	}
}

// P13.2: what is known was computed with another program, from the chapters; so was what TestKnownFiles has.

func TestExample(t *testing.T) {
	want := []byte{128, 8, 1, 1, 1, 2, 0, 3, 1, 9}
	if b := encoded(t, example()); !bytes.Equal(b, want) {
		t.Error(b)
	}
	if l, e := Decode(want); e != api.OK || show(l) != show(example()) {
		t.Error(brief(l), e)
	}
}

func TestKnownEncodings(t *testing.T) {
	for i, k := range []struct {
		of   api.ManifestList
		size int
		sum  string
	}{
		{varied(), 468, "8cb3d85bfee0c1aa85417205cf7a5742e33016fb978978a4a25fdebc926820d0"},
		{full(), 15630, "51791635214b1ec5e4f5833b05044c794ec74cd4cd2180e4b68ddbe9872aa3e1"},
	} {
		b := encoded(t, k.of)
		if sum := sha256.Sum256(b); len(b) != k.size || hex.EncodeToString(sum[:]) != k.sum {
			t.Error(i, len(b), hex.EncodeToString(sum[:]))
		}
	}
}

// TestThereAndBack holds the encodings of valid manifests against the model, and decodes them (P13.5 besides).
func TestThereAndBack(t *testing.T) {
	for i, l := range validLists() {
		b := encoded(t, l)
		if !bytes.Equal(b, modelEncode(l)) {
			t.Fatal(i, brief(l))
		}
		d, e := Decode(b)
		if e != api.OK || show(d) != show(l) || !Same(l, d) {
			t.Fatal(i, brief(l), brief(d), e)
		}
	}
}

// TestEncodingsDiffer has that different manifests have different encodings.
func TestEncodingsDiffer(t *testing.T) {
	known := map[string]string{}
	for _, l := range validLists() {
		b := string(encoded(t, l))
		if other, has := known[b]; has && other != show(l) {
			t.Error(brief(l), other)
		}
		known[b] = show(l)
	}
}

func TestNoEncodings(t *testing.T) {
	for i, l := range wrongLists() {
		b, e := Encode(l)
		if want := modelCheck(l); want == api.OK || e != want || len(b) != 0 {
			t.Fatal(i, brief(l), e, want)
		}
	}
}
