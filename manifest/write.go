package manifest

import (
	"gatepath/api"
	"gatepath/octet"
)

// Tags of lists. Fields have the tags that the chapter numbers them by.
const (
	tagManifest = 128
	tagFile     = 129
)

// numbers is how many values stand before those of the files.
const numbers = 3

// valueOf returns the value of a valid manifest.
func valueOf(l api.ManifestList) api.Octet {
	values := []api.Octet{octet.Num(1, l.Number), octet.Num(2, uint64(l.Valid.From)), octet.Num(3, uint64(l.Valid.To))}
	for _, f := range l.Files {
		values = append(values, octet.Seq(tagFile, octet.Str(1, f.Name), octet.Str(2, string(f.Hash[:]))))
	}
	return octet.Seq(tagManifest, values...)
}
