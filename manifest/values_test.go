package manifest

import (
	"bytes"
	"fmt"
	"math"
	"math/rand"
	"slices"
	"strings"

	"gatepath/api"
)

// example is the manifest of the chapter's example.
func example() api.ManifestList {
	return api.ManifestList{Number: 1, Valid: api.Window{To: 9}}
}

// varied is a manifest with names of all kinds.
func varied() api.ManifestList {
	return api.ManifestList{Number: 70000, Valid: api.Window{From: 1000, To: 1 << 40}, Files: []api.FileHash{
		{Name: "-", Hash: bytesFrom(0)},
		{Name: "...", Hash: bytesFrom(32)},
		{Name: ".a"},
		{Name: "A.cer", Hash: bytesFrom(100)},
		{Name: "Z", Hash: bytesFrom(128)},
		{Name: "_", Hash: bytesFrom(129)},
		{Name: "a", Hash: bytesFrom(0)},
		{Name: "a-b.roa", Hash: bytesFrom(224)},
		{Name: "ab.crl", Hash: bytesFrom(1)},
		{Name: strings.Repeat("z", 40), Hash: bytesFrom(255)},
	}}
}

// full is a manifest whose encoding is as long as one can be.
func full() api.ManifestList {
	return api.ManifestList{Number: math.MaxUint64, Valid: api.Window{From: 1 << 40, To: 1 << 40}, Files: someFiles(200)}
}

// bytesFrom returns the digest of 32 bytes each of which is greater by 1 than the one before it.
func bytesFrom(first byte) api.Hash {
	var h api.Hash
	for i := range h {
		h[i] = first + byte(i)
	}
	return h
}

// someFiles returns n files with names of 40 bytes.
func someFiles(n int) []api.FileHash {
	var list []api.FileHash
	for i := range n {
		list = append(list, api.FileHash{Name: fmt.Sprintf("%036d.roa", i), Hash: bytesFrom(byte(i))})
	}
	return list
}

// someNamed returns n valid files, in the order of their names.
func someNamed(n int) []api.NamedFile {
	var list []api.NamedFile
	for i := range n {
		list = append(list, api.NamedFile{Name: fmt.Sprintf("f%05d.roa", i), Bytes: bytes.Repeat([]byte{byte(i)}, i)})
	}
	return list
}

// edit changes a manifest, which may share its list with others.
type edit func(l *api.ManifestList)

// changed returns a manifest with changes, one after the other.
func changed(l api.ManifestList, changes ...edit) api.ManifestList {
	l.Files = slices.Clone(l.Files)
	for _, change := range changes {
		change(&l)
	}
	return l
}

// goodEdits make other valid manifests of varied, no two of them the same.
func goodEdits() []edit {
	list := []edit{
		func(l *api.ManifestList) { l.Number = 0 },
		func(l *api.ManifestList) { l.Number = 69999 },
		func(l *api.ManifestList) { l.Number = 70000 << 8 },
		func(l *api.ManifestList) { l.Number = math.MaxUint64 },
		func(l *api.ManifestList) { l.Valid.From = 0 },
		func(l *api.ManifestList) { l.Valid.From = 999 },
		func(l *api.ManifestList) { l.Valid.From = 1 << 40 },
		func(l *api.ManifestList) { l.Valid.To = 1000 },
		func(l *api.ManifestList) { l.Valid.To = 1<<40 - 1 },
		func(l *api.ManifestList) { l.Valid = api.Window{} },
		func(l *api.ManifestList) { l.Files = nil },
		func(l *api.ManifestList) { l.Files = someFiles(1) },
		func(l *api.ManifestList) { l.Files = someFiles(199) },
		func(l *api.ManifestList) { l.Files = someFiles(200) },
		func(l *api.ManifestList) { l.Files[0].Name = "--" },
		func(l *api.ManifestList) { l.Files[4].Name = "Y" },
		func(l *api.ManifestList) { l.Files[6].Hash, l.Files[7].Hash = l.Files[7].Hash, l.Files[6].Hash },
		func(l *api.ManifestList) { l.Files = slices.Insert(l.Files, 1, api.FileHash{Name: "-."}) },
	}
	for i := range varied().Files {
		list = append(list,
			func(l *api.ManifestList) { l.Files = slices.Delete(l.Files, i, i+1) },
			func(l *api.ManifestList) { l.Files[i].Hash[3*i] ^= 64 })
	}
	return list
}

// badWindows are no windows.
func badWindows() []api.Window {
	return []api.Window{
		{From: -1, To: 5}, {From: -1, To: -1}, {From: 6, To: 5}, {From: 1<<40 + 1, To: 1<<40 + 1}, {To: 1<<40 + 1}, {From: 1 << 40},
		{From: math.MinInt64}, {To: math.MaxInt64}, {From: math.MaxInt64, To: math.MinInt64}, {From: math.MinInt64, To: math.MaxInt64},
	}
}

// badNames are no parts.
func badNames() []string {
	return []string{"", ".", "..", "/", "a/b", "a/", "/a", " ", "a b", "a\n", "\x00", "a\x00", "é", "a\xff", "a:b", "a~", "a+b", strings.Repeat("a", 41), strings.Repeat("z", 100000)}
}

// badEdits make manifests that are not valid of varied, because of one thing.
func badEdits() []edit {
	var list []edit
	for _, w := range badWindows() {
		list = append(list, func(l *api.ManifestList) { l.Valid = w })
	}
	for _, name := range badNames() {
		// The name is where the order has it, so that it is the only thing that is wrong.
		list = append(list, func(l *api.ManifestList) {
			at := 0
			for at < len(l.Files) && l.Files[at].Name < name {
				at++
			}
			l.Files = slices.Insert(l.Files, at, api.FileHash{Name: name})
		})
	}
	for i := range varied().Files {
		list = append(list, func(l *api.ManifestList) { l.Files = slices.Insert(l.Files, i, l.Files[i]) })
		if i > 0 {
			list = append(list,
				func(l *api.ManifestList) { l.Files[i-1], l.Files[i] = l.Files[i], l.Files[i-1] },
				func(l *api.ManifestList) { l.Files[0], l.Files[i] = l.Files[i], l.Files[0] },
				func(l *api.ManifestList) { l.Files[i].Name = l.Files[i-1].Name })
		}
	}
	return append(list,
		func(l *api.ManifestList) { slices.Reverse(l.Files) },
		func(l *api.ManifestList) { l.Files = make([]api.FileHash, 1) },
		func(l *api.ManifestList) { l.Files = make([]api.FileHash, 200) },
		func(l *api.ManifestList) { l.Files = append(someFiles(199), someFiles(1)...) },
		func(l *api.ManifestList) { l.Files = append(someFiles(199), someFiles(199)[198]) })
}

// manyEdits make manifests with too many files, of any.
func manyEdits() []edit {
	var list []edit
	for _, files := range [][]api.FileHash{someFiles(201), someFiles(1000), make([]api.FileHash, 201), slices.Repeat(someFiles(1), 40000)} {
		list = append(list, func(l *api.ManifestList) { l.Files = files })
	}
	return list
}

// validLists are valid manifests of all kinds.
func validLists() []api.ManifestList {
	list := []api.ManifestList{{}, example(), varied(), full()}
	for _, change := range goodEdits() {
		list = append(list, changed(varied(), change))
	}
	r := rand.New(rand.NewSource(1))
	for range 100 {
		l := api.ManifestList{Number: r.Uint64() >> r.Intn(64), Valid: api.Window{From: r.Int63n(1 << r.Intn(40)), To: 1<<40 - r.Int63n(1<<r.Intn(39))}}
		for _, f := range randomFiles(r) {
			l.Files = append(l.Files, api.FileHash{Name: f.Name, Hash: bytesFrom(byte(r.Intn(256)))})
		}
		slices.SortFunc(l.Files, func(a, b api.FileHash) int { return strings.Compare(a.Name, b.Name) })
		list = append(list, l)
	}
	return list
}

// wrongLists are manifests that are not valid.
func wrongLists() []api.ManifestList {
	var list []api.ManifestList
	for _, many := range manyEdits() {
		list = append(list, changed(varied(), many))
	}
	for _, bad := range badEdits() {
		list = append(list, changed(varied(), bad), changed(varied(), bad, manyEdits()[0]))
	}
	return list
}

// randomFiles returns some valid files, in any order.
func randomFiles(r *rand.Rand) []api.NamedFile {
	const letters = "abcxyzABCXYZ019-_."
	var list []api.NamedFile
	n, most := r.Intn(1<<r.Intn(8)), 1+r.Intn(40)
	for range n {
		name := make([]byte, 1+r.Intn(most))
		for i := range name {
			name[i] = letters[r.Intn(len(letters))]
		}
		content := make([]byte, r.Intn(1<<r.Intn(9)))
		r.Read(content)
		has := func(f api.NamedFile) bool { return f.Name == string(name) }
		if modelPart(string(name)) && !slices.ContainsFunc(list, has) {
			list = append(list, api.NamedFile{Name: string(name), Bytes: content})
		}
	}
	return list
}

// wrongFiles are lists of files that are not valid, some of them because of several things.
func wrongFiles() [][]api.NamedFile {
	a, b, wrong := api.NamedFile{Name: "a", Bytes: []byte("1")}, api.NamedFile{Name: "b"}, api.NamedFile{Name: "a/b"}
	list := [][]api.NamedFile{
		{a, a}, {a, {Name: "a", Bytes: []byte("2")}}, {a, {Name: "a"}}, {a, b, a}, {b, a, a}, {a, b, b}, {a, a, a},
		{wrong}, {a, wrong}, {wrong, wrong}, {a, a, wrong}, {wrong, a, a}, {a, wrong, a}, {a, b, a, b, {}},
		someNamed(201), someNamed(1000), slices.Repeat(someNamed(1), 201), slices.Repeat([]api.NamedFile{wrong}, 201), make([]api.NamedFile, 201), make([]api.NamedFile, 40000),
		append(someNamed(200), wrong), append(someNamed(200), someNamed(1)...),
		append(someNamed(199), wrong), append(someNamed(199), someNamed(1)...), append(someNamed(199), someNamed(199)[198]), append(someNamed(198), someNamed(1)[0], wrong),
	}
	for _, name := range badNames() {
		list = append(list, []api.NamedFile{{Name: name}}, []api.NamedFile{a, {Name: name}, b}, []api.NamedFile{b, b, {Name: name}})
	}
	return list
}
