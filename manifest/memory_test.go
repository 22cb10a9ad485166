package manifest

import (
	"bytes"
	"fmt"
	"slices"
	"testing"

	"gatepath/api"
)

// Arguments are only read, with the memory behind them; results share no memory, and nothing is kept (R2).

// roomy returns a copy of a list that has room behind it, in which there is something.
func roomy[S any](list []S, something S) []S {
	return append(slices.Clone(list), something, something, something)[:len(list)]
}

// overwrite fills a list, and the room behind it.
func overwrite[S any](list []S, with S) {
	list = list[:cap(list)]
	for i := range list {
		list[i] = with
	}
}

func spoil(l api.ManifestList) {
	overwrite(l.Files, api.FileHash{Name: "spoilt"})
}

func spoilReport(r api.ListReport) {
	overwrite(r.Missing, "spoilt")
	overwrite(r.Wrong, "spoilt")
	overwrite(r.Extra, "spoilt")
}

// wholeList shows a manifest with the room behind its list.
func wholeList(l api.ManifestList) string {
	return fmt.Sprintf("%v %v", show(l), l.Files[:cap(l.Files)])
}

// wholeFiles shows files with the room behind their list and their bytes.
func wholeFiles(files []api.NamedFile) string {
	s := ""
	for _, f := range files[:cap(files)] {
		s += fmt.Sprintf("%q %v ", f.Name, f.Bytes[:cap(f.Bytes)])
	}
	return s
}

// roomyFiles are files of all kinds, not all of them valid, with room behind their lists and their bytes.
func roomyFiles() [][]api.NamedFile {
	backwards := someNamed(40)
	slices.Reverse(backwards)
	list := [][]api.NamedFile{nil, someNamed(3), backwards, {{Name: "a", Bytes: []byte("other")}, {Name: "A.cer"}, {Name: "0"}}, {{Name: "a"}, {Name: "a"}}, {{Name: "b"}, {Name: "/"}}, someNamed(201)}
	for i, files := range list {
		list[i] = roomy(files, api.NamedFile{Name: "room", Bytes: []byte{7}})
		for j := range list[i] {
			list[i][j].Bytes = roomy(list[i][j].Bytes, 238)
		}
	}
	return list
}

func fewLists() []api.ManifestList {
	list := []api.ManifestList{{}, example(), varied(), full()}
	for _, change := range slices.Concat(goodEdits(), badEdits(), manyEdits()[:1]) {
		list = append(list, changed(varied(), change))
	}
	return list
}

func TestOnlyRead(t *testing.T) {
	for _, l := range fewLists() {
		l.Files = roomy(l.Files, api.FileHash{Name: "room"})
		before := wholeList(l)
		Check(l)
		Encode(l)
		Find(l, "a")
		Same(l, l)
		for _, files := range roomyFiles() {
			whole := wholeFiles(files)
			Match(l, files)
			Make(l.Number, l.Valid, files)
			if wholeFiles(files) != whole {
				t.Fatal(brief(l), whole)
			}
		}
		if wholeList(l) != before {
			t.Fatal(brief(l))
		}
		b := roomy(modelEncode(l), 238)
		Decode(b)
		if !bytes.Equal(b[:len(b)+3], append(modelEncode(l), 238, 238, 238)) {
			t.Fatal(brief(l))
		}
	}
}

func TestNothingShared(t *testing.T) {
	for _, l := range fewLists() {
		l.Files = roomy(l.Files, api.FileHash{Name: "room"})
		before := wholeList(l)
		b, e := Encode(l)
		overwrite(b, 99)
		for _, files := range roomyFiles() {
			whole := wholeFiles(files)
			r, _ := Match(l, files)
			spoilReport(r)
			x, _ := Make(1, l.Valid, files)
			spoil(x)
			if wholeFiles(files) != whole {
				t.Fatal(brief(l), whole)
			}
		}
		if wholeList(l) != before {
			t.Fatal(brief(l))
		}
		if e != api.OK {
			continue
		}
		again := encoded(t, l)
		x, _ := Decode(again)
		spoil(x)
		y, _ := Decode(again)
		overwrite(again, 99)
		if show(y) != show(l) || !bytes.Equal(encoded(t, l), modelEncode(l)) {
			t.Fatal(brief(l))
		}
	}
}

// TestReportsShareNothing overwrites one list of a report after the other, and looks at the others.
func TestReportsShareNothing(t *testing.T) {
	files := []api.NamedFile{{Name: "a", Bytes: []byte("other")}, {Name: "A.cer"}, {Name: "0"}}
	want := must[api.ListReport](t)(Match(varied(), files))
	if len(want.Missing) == 0 || len(want.Wrong) == 0 || len(want.Extra) == 0 {
		t.Fatal(showReport(want))
	}
	for i := range 3 {
		r := must[api.ListReport](t)(Match(varied(), files))
		overwrite([][]string{r.Missing, r.Wrong, r.Extra}[i], "spoilt")
		lists := [][]string{r.Missing, r.Wrong, r.Extra}
		for j, right := range [][]string{want.Missing, want.Wrong, want.Extra} {
			if slices.Equal(lists[j], right) != (i != j) {
				t.Error(i, j, lists[j])
			}
		}
	}
}
