package number

import (
	"strconv"
	"strings"

	"gatepath/api"
)

const (
	groupCount = 8
	byteCount  = 4
	// longestAddr is the length of the string of an address with eight groups of four digits.
	longestAddr = groupCount*5 - 1
	systemWord  = "AS"
)

// groups are the 16-bit parts of an address of Family6, the most significant one first.
type groups [groupCount]uint16

// AddrText returns the string of an address.
func AddrText(family uint8, a api.Addr) (string, api.Errno) {
	if !CheckAddr(family, a) {
		return "", api.ErrArg
	}
	if family == api.Family4 {
		return fourText(a), api.OK
	}
	return sixText(divide(a)), api.OK
}

// AddrParse returns the family and the address with a string.
func AddrParse(s string) (family uint8, a api.Addr, e api.Errno) {
	if len(s) > longestAddr {
		return 0, api.Addr{}, api.ErrForm
	}
	var ok bool
	if strings.Contains(s, ":") {
		family = api.Family6
		a, ok = readSix(s)
	} else {
		family = api.Family4
		a, ok = readFour(s)
	}
	if !ok {
		return 0, api.Addr{}, api.ErrForm
	}
	// Reading is lenient: an address has one string, so that comparing with it refuses all other forms.
	if text, f := AddrText(family, a); f != api.OK || text != s {
		return 0, api.Addr{}, api.ErrForm
	}
	return family, a, api.OK
}

// Text returns the string of a prefix.
func Text(p api.Prefix) (string, api.Errno) {
	if e := Check(p); e != api.OK {
		return "", e
	}
	addr, _ := AddrText(p.Family, p.Addr) // cannot fail: the address of a valid prefix is one of its family
	return addr + "/" + strconv.Itoa(p.Len), api.OK
}

// Parse returns the valid prefix with a string.
func Parse(s string) (api.Prefix, api.Errno) {
	addr, length, _ := strings.Cut(s, "/")
	family, a, e := AddrParse(addr)
	n, ok := readDecimal(length, 8)
	if e != api.OK || !ok {
		return api.Prefix{}, api.ErrForm
	}
	p := api.Prefix{Family: family, Addr: a, Len: int(n)}
	if Check(p) != api.OK {
		return api.Prefix{}, api.ErrForm
	}
	return p, api.OK
}

// AsText returns the string of a number of a system.
func AsText(as uint32) string {
	return systemWord + strconv.FormatUint(uint64(as), 10)
}

// AsParse returns the number of a system with a string.
func AsParse(s string) (uint32, api.Errno) {
	digits, found := strings.CutPrefix(s, systemWord)
	n, ok := readDecimal(digits, 32)
	if !found || !ok {
		return 0, api.ErrForm
	}
	return uint32(n), api.OK
}

// readDecimal returns the number below 2^bits that s is in decimal, without zeros in front.
func readDecimal(s string, bits int) (uint64, bool) {
	n, err := strconv.ParseUint(s, 10, bits)
	if err != nil || strconv.FormatUint(n, 10) != s {
		return 0, false
	}
	return n, true
}

func fourText(a api.Addr) string {
	var parts [byteCount]string
	for i := range byteCount {
		parts[i] = strconv.FormatUint(a.Low>>(8*(byteCount-1-i))&0xff, 10)
	}
	return strings.Join(parts[:], ".")
}

func readFour(s string) (api.Addr, bool) {
	parts := strings.Split(s, ".")
	if len(parts) != byteCount {
		return api.Addr{}, false
	}
	var a api.Addr
	for _, part := range parts {
		n, ok := readDecimal(part, 8)
		if !ok {
			return api.Addr{}, false
		}
		a.Low = a.Low<<8 | n
	}
	return a, true
}

func sixText(g groups) string {
	from, to := longestZeros(g)
	if from == to {
		return groupsText(g[:])
	}
	return groupsText(g[:from]) + "::" + groupsText(g[to:])
}

func groupsText(part []uint16) string {
	var words []string
	for _, group := range part {
		words = append(words, strconv.FormatUint(uint64(group), 16))
	}
	return strings.Join(words, ":")
}

// longestZeros returns where the first one of the longest runs of at least two groups that are 0 begins, and where it has ended; both are 0 if there is none.
func longestZeros(g groups) (from, to int) {
	start := 0
	endRun := func(end int) {
		if n := end - start; n >= 2 && n > to-from {
			from, to = start, end
		}
		start = end + 1
	}
	for i := range groupCount {
		if g[i] != 0 {
			endRun(i)
		}
	}
	endRun(groupCount)
	return from, to
}

func readSix(s string) (api.Addr, bool) {
	left, right, found := strings.Cut(s, "::")
	head, headOk := readGroups(left)
	tail, tailOk := readGroups(right)
	n := len(head) + len(tail)
	if !headOk || !tailOk || n > groupCount || !found && n != groupCount {
		return api.Addr{}, false
	}
	var g groups
	copy(g[:], head)
	copy(g[groupCount-len(tail):], tail)
	return unite(g), true
}

func readGroups(s string) ([]uint16, bool) {
	if s == "" {
		return nil, true
	}
	var out []uint16
	for _, word := range strings.Split(s, ":") {
		n, err := strconv.ParseUint(word, 16, 16)
		if err != nil {
			return nil, false
		}
		out = append(out, uint16(n))
	}
	return out, true
}

func divide(a api.Addr) groups {
	var g groups
	for i := range groupCount / 2 {
		shift := 16 * (groupCount/2 - 1 - i)
		g[i] = uint16(a.High >> shift)
		g[groupCount/2+i] = uint16(a.Low >> shift)
	}
	return g
}

func unite(g groups) api.Addr {
	var a api.Addr
	for i := range groupCount / 2 {
		a.High = a.High<<16 | uint64(g[i])
		a.Low = a.Low<<16 | uint64(g[groupCount/2+i])
	}
	return a
}
