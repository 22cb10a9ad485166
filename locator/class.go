package locator

import (
	"strings"

	"gatepath/api"
)

// class is a set of uses that a byte may have.
type class uint8

const (
	inLabel class = 1 << iota // in a label of a host
	inPart                    // in a part
)

// byteRange is the bytes from one to another, which have the same class.
type byteRange struct {
	from, to byte
	uses     class
}

// classes has no range for bytes without a use.
var classes = [...]byteRange{
	{'a', 'z', inLabel | inPart},
	{'A', 'Z', inPart},
	{'0', '9', inLabel | inPart},
	{'-', '-', inLabel | inPart},
	{'_', '_', inPart},
	{'.', '.', inPart},
}

func classOf(c byte) class {
	for _, r := range classes {
		if r.from <= c && c <= r.to {
			return r.uses
		}
	}
	return 0
}

// allOf reports whether all bytes of s have a use.
func allOf(s string, use class) bool {
	for i := range len(s) {
		if classOf(s[i])&use == 0 {
			return false
		}
	}
	return true
}

// Name reports whether s is a part.
func Name(s string) bool {
	return 1 <= len(s) && len(s) <= api.MaxPart && s != "." && s != ".." && allOf(s, inPart)
}

func isHost(s string) bool {
	if len(s) > maxHost {
		return false
	}
	for _, label := range strings.Split(s, ".") {
		if !isLabel(label) {
			return false
		}
	}
	return true
}

func isLabel(s string) bool {
	return s != "" && allOf(s, inLabel) && !strings.HasPrefix(s, "-") && !strings.HasSuffix(s, "-")
}
