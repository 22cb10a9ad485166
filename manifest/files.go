package manifest

import (
	"iter"
	"slices"
	"strings"

	"gatepath/api"
	"gatepath/digest"
	"gatepath/locator"
)

// checkFiles tells whether files are valid.
func checkFiles(files []api.NamedFile) api.Errno {
	if len(files) > api.MaxListed {
		return api.ErrMany
	}
	names := map[string]bool{}
	for _, f := range files {
		if !locator.Name(f.Name) {
			return api.ErrBad
		}
		names[f.Name] = true
	}
	// Only now, as a name that is no part comes first, wherever it is.
	if len(names) < len(files) {
		return api.ErrTwice
	}
	return api.OK
}

// list returns the names and digests of valid files, in the order of a manifest.
func list(files []api.NamedFile) []api.FileHash {
	var listed []api.FileHash
	for _, f := range files {
		listed = append(listed, api.FileHash{Name: f.Name, Hash: digest.Sum(f.Bytes)})
	}
	slices.SortFunc(listed, func(a, b api.FileHash) int { return strings.Compare(a.Name, b.Name) })
	return listed
}

func byName(files []api.FileHash) map[string]api.Hash {
	hashes := map[string]api.Hash{}
	for _, f := range files {
		hashes[f.Name] = f.Hash
	}
	return hashes
}

// compare returns the report on the files that are there by those that are wanted. Both are in the order of a manifest, so that all its names are in order.
func compare(wanted, there []api.FileHash) api.ListReport {
	wantedHash, thereHash := byName(wanted), byName(there)
	isMissing := func(f api.FileHash) bool {
		_, has := thereHash[f.Name]
		return !has
	}
	isWrong := func(f api.FileHash) bool { return !isMissing(f) && thereHash[f.Name] != f.Hash }
	isExtra := func(f api.FileHash) bool {
		_, has := wantedHash[f.Name]
		return !has
	}
	return api.ListReport{
		Missing: slices.Collect(namesOf(wanted, isMissing)),
		Wrong:   slices.Collect(namesOf(wanted, isWrong)),
		Extra:   slices.Collect(namesOf(there, isExtra)),
	}
}

// namesOf tells the names of the files that are as asked.
func namesOf(files []api.FileHash, are func(f api.FileHash) bool) iter.Seq[string] {
	return func(yield func(string) bool) {
		for _, f := range files {
			if are(f) && !yield(f.Name) {
				return
			}
		}
	}
}
