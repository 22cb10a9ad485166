// Package number is layer 1: addresses of 32 and 128 bits, prefixes, numbers of autonomous systems, and names. See shared/doc/01-number.md.
package number

import "gatepath/api"

// Name reports whether s is a name.
func Name(s string) bool {
	if len(s) < 1 || len(s) > api.MaxName {
		return false
	}
	for i := range len(s) {
		if !nameByte(s[i]) {
			return false
		}
	}
	return true
}

func nameByte(c byte) bool {
	return 'a' <= c && c <= 'z' || 'A' <= c && c <= 'Z' || '0' <= c && c <= '9' || c == '-' || c == '_'
}

// CheckAddr reports whether a is an address of the family.
func CheckAddr(family uint8, a api.Addr) bool {
	switch family {
	case api.Family4:
		return a.High == 0 && a.Low>>32 == 0
	case api.Family6:
		return true
	}
	return false
}

// Compare returns -1, 0 or 1 if a is less than, equal to, or greater than b.
func Compare(a, b api.Addr) int {
	switch {
	case a == b:
		return 0
	case a.High < b.High || a.High == b.High && a.Low < b.Low:
		return -1
	}
	return 1
}

// Bit returns the bit i of an address; the bit 0 is the most significant one.
func Bit(family uint8, a api.Addr, i int) (int, api.Errno) {
	if !CheckAddr(family, a) || i < 0 || i >= width(family) {
		return 0, api.ErrArg
	}
	behind := width(family) - 1 - i
	if behind >= 64 {
		return int(a.High >> (behind - 64) & 1), api.OK
	}
	return int(a.Low >> behind & 1), api.OK
}

// Check returns ErrArg if the family of p is none, and ErrBad if p is not valid.
func Check(p api.Prefix) api.Errno {
	if width(p.Family) == 0 {
		return api.ErrArg
	}
	// Cut refuses an address or a length that is not of the family, and clears the bits that have to be 0.
	if q, e := Cut(p.Family, p.Addr, p.Len); e != api.OK || q != p {
		return api.ErrBad
	}
	return api.OK
}

// Cut returns the prefix of this length that begins with the first bits of an address.
func Cut(family uint8, a api.Addr, length int) (api.Prefix, api.Errno) {
	if !CheckAddr(family, a) || length < 0 || length > width(family) {
		return api.Prefix{}, api.ErrArg
	}
	return api.Prefix{Family: family, Addr: clearLast(a, width(family)-length), Len: length}, api.OK
}

// Covers reports whether p and q are both valid and p covers q.
func Covers(p, q api.Prefix) bool {
	if Check(p) != api.OK || Check(q) != api.OK || p.Family != q.Family || p.Len > q.Len {
		return false
	}
	return clearLast(q.Addr, width(p.Family)-p.Len) == p.Addr
}

// width returns the number of bits of an address, or 0 if there is no such family.
func width(family uint8) int {
	switch family {
	case api.Family4:
		return 32
	case api.Family6:
		return 128
	}
	return 0
}

// clearLast returns a with its last n bits, of at most 128, set to 0.
func clearLast(a api.Addr, n int) api.Addr {
	if n >= 64 {
		return api.Addr{High: a.High >> (n - 64) << (n - 64)}
	}
	return api.Addr{High: a.High, Low: a.Low >> n << n}
}
