package manifest

import (
	"bytes"
	"crypto/sha256"
	"encoding/hex"
	"fmt"
	"math"
	"math/rand"
	"slices"
	"testing"

	"gatepath/api"
)

// P13.3

// TestKnownFiles has the encodings of manifests of files that were computed with another program, from the chapters.
func TestKnownFiles(t *testing.T) {
	for i, k := range []struct {
		files []api.NamedFile
		size  int
		sum   string
	}{
		{[]api.NamedFile{{Name: "one.roa", Bytes: []byte("abc")}, {Name: "empty"}, {Name: "Zero.cer", Bytes: make([]byte, 100)}}, 151, "47ead533a3e88a18f189d8de6c4609ffe856435afd6f643cf5a55784ff2413e1"},
		{someNamed(200), 9618, "7de58e1ba4868002db099b7b27600264175737e6cf451739b4f38897690c41df"},
	} {
		b := encoded(t, must[api.ManifestList](t)(Make(300, api.Window{From: 1, To: 1 << 33}, k.files)))
		if sum := sha256.Sum256(b); len(b) != k.size || hex.EncodeToString(sum[:]) != k.sum {
			t.Error(i, len(b), hex.EncodeToString(sum[:]))
		}
	}
}

func TestMake(t *testing.T) {
	r := rand.New(rand.NewSource(2))
	for i := range 300 {
		files := randomFiles(r)
		number, valid := r.Uint64()>>r.Intn(64), api.Window{From: r.Int63n(1 << 30), To: 1<<30 + r.Int63n(1<<40-1<<30)}
		want, _ := modelMake(number, valid, files)
		got, e := Make(number, valid, files)
		if e != api.OK || Check(got) != api.OK || show(got) != show(want) {
			t.Fatal(i, brief(got), brief(want), e)
		}
	}
}

func TestMakeEdges(t *testing.T) {
	for _, number := range []uint64{0, 1, math.MaxUint64} {
		for _, valid := range []api.Window{{}, {To: 1 << 40}, {From: 1 << 40, To: 1 << 40}, {From: 5, To: 5}} {
			for _, n := range []int{0, 1, 199, 200} {
				files := someNamed(n)
				slices.Reverse(files)
				want, _ := modelMake(number, valid, files)
				if got, e := Make(number, valid, files); e != api.OK || show(got) != show(want) || len(got.Files) != n {
					t.Error(number, valid, n, brief(got), e)
				}
			}
		}
	}
}

// TestMakeWrong has arguments that several errors apply to: ErrBad for the window comes first, then those of the files.
func TestMakeWrong(t *testing.T) {
	refused := func(valid api.Window, files []api.NamedFile, want api.Errno) {
		t.Helper()
		_, model := modelMake(3, valid, files)
		if got, e := Make(3, valid, files); e != want || model != want || !isZero(got) {
			t.Error(valid, len(files), brief(got), e, want)
		}
	}
	for _, valid := range badWindows() {
		for _, n := range []int{0, 1, 200, 201} {
			refused(valid, someNamed(n), api.ErrBad)
		}
		for _, files := range wrongFiles() {
			refused(valid, files, api.ErrBad)
		}
	}
	seen := map[api.Errno]int{}
	for _, files := range wrongFiles() {
		want := modelFiles(files)
		refused(api.Window{}, files, want)
		seen[want]++
	}
	if len(seen) != 3 || seen[api.OK] != 0 {
		t.Error(seen)
	}
}

func TestFind(t *testing.T) {
	for _, l := range validLists() {
		for _, f := range l.Files {
			if h, e := Find(l, f.Name); e != api.OK || h != f.Hash {
				t.Fatal(brief(l), f.Name, h, e)
			}
		}
		for _, name := range slices.Concat(badNames(), []string{"none", "a.b", "A", "z", "-0", "aa", varied().Files[0].Name + "x"}) {
			has := slices.ContainsFunc(l.Files, func(f api.FileHash) bool { return f.Name == name })
			if h, e := Find(l, name); !has && (e != api.ErrNone || h != api.Hash{}) {
				t.Fatal(brief(l), name, h, e)
			}
		}
	}
}

// TestFindWrong looks for names in manifests that are not valid, whether they have them or not.
func TestFindWrong(t *testing.T) {
	for i, l := range wrongLists() {
		names := []string{"none", "", "a/b"}
		for _, f := range l.Files[:min(len(l.Files), 20)] {
			names = append(names, f.Name)
		}
		for _, name := range names {
			if h, e := Find(l, name); e != modelCheck(l) || h != (api.Hash{}) {
				t.Fatal(i, brief(l), name, h, e)
			}
		}
	}
}

// P13.4

func TestMatchExample(t *testing.T) {
	b := api.NamedFile{Name: "b", Bytes: []byte("2")}
	l := made(t, []api.NamedFile{{Name: "a", Bytes: []byte("1")}, b})
	r, e := Match(l, []api.NamedFile{b, {Name: "c"}})
	if want := (api.ListReport{Missing: []string{"a"}, Extra: []string{"c"}}); e != api.OK || showReport(r) != showReport(want) {
		t.Error(showReport(r), e)
	}
}

// TestMatchSmall has all manifests of three names, each of which it may have with one of two contents, and all files of them, forwards and backwards.
func TestMatchSmall(t *testing.T) {
	for i := range 27 * 27 {
		var sides [2][]api.NamedFile
		for j, n := 0, i; j < 6; j, n = j+1, n/3 {
			if n%3 > 0 {
				sides[j%2] = append(sides[j%2], api.NamedFile{Name: []string{"a", "B", "_"}[j/2], Bytes: []byte{byte(n % 3)}})
			}
		}
		l := made(t, sides[0])
		want := modelReport(l, sides[1])
		for range 2 {
			if r, e := Match(l, sides[1]); e != api.OK || showReport(r) != showReport(want) {
				t.Fatal(i, showReport(r), showReport(want), e)
			}
			slices.Reverse(sides[1])
		}
	}
}

// TestMatchRandom changes, adds, takes away and shuffles files.
func TestMatchRandom(t *testing.T) {
	r := rand.New(rand.NewSource(3))
	for i := range 300 {
		files := randomFiles(r)
		l := made(t, files)
		others := slices.DeleteFunc(slices.Clone(files), func(api.NamedFile) bool { return r.Intn(5) == 0 })
		for j := range others {
			if r.Intn(5) == 0 {
				others[j].Bytes = fmt.Append(nil, i, j)
			}
		}
		for _, f := range randomFiles(r) {
			has := func(g api.NamedFile) bool { return g.Name == f.Name }
			if len(others) < 200 && !slices.ContainsFunc(others, has) {
				others = append(others, f)
			}
		}
		r.Shuffle(len(others), func(i, j int) { others[i], others[j] = others[j], others[i] })
		want := modelReport(l, others)
		if got, e := Match(l, others); e != api.OK || showReport(got) != showReport(want) {
			t.Fatal(i, showReport(got), showReport(want), e)
		}
	}
}

// TestMatchAnyDigests has manifests that were not made of files.
func TestMatchAnyDigests(t *testing.T) {
	files := []api.NamedFile{{Name: "a"}, {Name: "_", Bytes: []byte("x")}, {Name: "0"}}
	for _, l := range validLists() {
		want := modelReport(l, files)
		if got, e := Match(l, files); e != api.OK || showReport(got) != showReport(want) {
			t.Fatal(brief(l), showReport(got), showReport(want), e)
		}
	}
}

// TestMatchFull has as many files as there can be, all of them missing, wrong or extra.
func TestMatchFull(t *testing.T) {
	l := api.ManifestList{Files: someFiles(200)}
	for _, files := range [][]api.NamedFile{nil, someNamed(200)} {
		slices.Reverse(files)
		r, e := Match(l, files)
		if e != api.OK || len(r.Missing) != 200 || len(r.Wrong) != 0 || len(r.Extra) != len(files) || !slices.IsSorted(r.Missing) || !slices.IsSorted(r.Extra) {
			t.Error(len(files), showReport(r), e)
		}
	}
	var wrong []api.NamedFile
	for _, f := range slices.Backward(l.Files) {
		wrong = append(wrong, api.NamedFile{Name: f.Name})
	}
	r, e := Match(l, wrong)
	if e != api.OK || len(r.Missing)+len(r.Extra) != 0 || len(r.Wrong) != 200 || !slices.IsSorted(r.Wrong) {
		t.Error(showReport(r), e)
	}
	if r, e = Match(api.ManifestList{}, wrong); e != api.OK || len(r.Extra) != 200 || !slices.IsSorted(r.Extra) {
		t.Error(showReport(r), e)
	}
}

// TestMatchWrong has arguments that several errors apply to: that of the manifest comes first.
func TestMatchWrong(t *testing.T) {
	refused := func(l api.ManifestList, files []api.NamedFile, want api.Errno) {
		t.Helper()
		if r, e := Match(l, files); e != want || showReport(r) != showReport(api.ListReport{}) {
			t.Error(brief(l), len(files), showReport(r), e, want)
		}
	}
	for i, l := range wrongLists() {
		for _, files := range [][]api.NamedFile{nil, someNamed(3), wrongFiles()[i%len(wrongFiles())], someNamed(201), {{Name: "a"}, {Name: "a"}}} {
			refused(l, files, modelCheck(l))
		}
	}
	for _, files := range wrongFiles() {
		for _, l := range []api.ManifestList{{}, example(), varied(), full()} {
			refused(l, files, modelFiles(files))
		}
	}
}

// TestNamesStop leaves the walk over names after each number of them.
func TestNamesStop(t *testing.T) {
	for most := 1; most <= 4; most++ {
		n := 0
		for name := range namesOf(varied().Files, func(f api.FileHash) bool { return len(f.Name) > 3 }) {
			if n++; len(name) <= 3 || n == most {
				break
			}
		}
		if n != min(most, 4) {
			t.Error(most, n)
		}
	}
}

// P13.5

// TestMatchMade has the files that a manifest was made of, in any order, and then one of them taken away, changed, or added.
func TestMatchMade(t *testing.T) {
	r := rand.New(rand.NewSource(4))
	for _, files := range [][]api.NamedFile{nil, someNamed(1), someNamed(30), someNamed(199), randomFiles(r), {{Name: "x"}, {Name: "A"}, {Name: "_"}}} {
		l := made(t, files)
		d := must[api.ManifestList](t)(Decode(encoded(t, l)))
		expect := func(files []api.NamedFile, want api.ListReport) {
			t.Helper()
			for _, l := range []api.ManifestList{l, d} {
				if got, e := Match(l, files); e != api.OK || showReport(got) != showReport(want) {
					t.Fatal(brief(l), showReport(got), showReport(want), e)
				}
			}
		}
		for range 5 {
			r.Shuffle(len(files), func(i, j int) { files[i], files[j] = files[j], files[i] })
			expect(files, api.ListReport{})
		}
		for i, f := range files {
			expect(slices.Delete(slices.Clone(files), i, i+1), api.ListReport{Missing: []string{f.Name}})
			for _, other := range [][]byte{append(slices.Clone(f.Bytes), 0), []byte("other"), bytes.Repeat([]byte{7}, 1000)} {
				list := slices.Clone(files)
				list[i].Bytes = other
				expect(list, api.ListReport{Wrong: []string{f.Name}})
			}
			list := slices.Clone(files)
			list[i].Name = "renamed"
			expect(list, api.ListReport{Missing: []string{f.Name}, Extra: []string{"renamed"}})
		}
		for i := range len(files) + 1 {
			expect(slices.Insert(slices.Clone(files), i, api.NamedFile{Name: "added"}), api.ListReport{Extra: []string{"added"}})
		}
	}
}

// TestMadeOrder has that the order of the files does not matter.
func TestMadeOrder(t *testing.T) {
	files := someNamed(50)
	want := show(made(t, files))
	r := rand.New(rand.NewSource(5))
	for range 20 {
		r.Shuffle(len(files), func(i, j int) { files[i], files[j] = files[j], files[i] })
		if got := made(t, files); show(got) != want {
			t.Fatal(brief(got))
		}
	}
}
