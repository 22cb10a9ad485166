package digest

import (
	"strings"

	"gatepath/api"
)

// The digits of both kinds of strings, and how many bits each of them has.
const (
	hexDigits    = "0123456789abcdef"
	hexBits      = 4
	base64Digits = "ABCDEFGHIJKLMNOPQRSTUVWXYZabcdefghijklmnopqrstuvwxyz0123456789+/"
	base64Bits   = 6
)

const (
	// pad fills up strings in base64 to a multiple of group characters.
	pad   = "="
	group = 4
)

// Hex returns the string of b in hexadecimal.
func Hex(b []byte) string {
	return digits(b, hexBits, hexDigits)
}

// FromHex returns the bytes whose string in hexadecimal is s.
func FromHex(s string) ([]byte, api.Errno) {
	return exact(s, Hex, undigits(s, hexBits, hexDigits))
}

// Base64 returns the string of b in base64.
func Base64(b []byte) string {
	s := digits(b, base64Bits, base64Digits)
	return s + strings.Repeat(pad, (group-len(s)%group)%group)
}

// FromBase64 returns the bytes whose string in base64 is s.
func FromBase64(s string) ([]byte, api.Errno) {
	return exact(s, Base64, undigits(s, base64Bits, base64Digits))
}

// exact returns b if its string is s. Reading is lenient: bytes have one string, so that comparing with it refuses all others.
func exact(s string, text func([]byte) string, b []byte) ([]byte, api.Errno) {
	if text(b) != s {
		return nil, api.ErrForm
	}
	return b, api.OK
}

// digits returns the bits of b, so many by so many, as characters of the alphabet; zeros fill up the last one.
func digits(b []byte, width int, alphabet string) string {
	out := make([]byte, 0, (8*len(b)+width-1)/width)
	held, kept := uint32(0), 0 // the last kept bits of held are those that are not written yet
	for _, c := range b {
		held, kept = held<<8|uint32(c), kept+8
		for kept >= width {
			kept -= width
			out = append(out, alphabet[low(held>>kept, width)])
		}
	}
	if kept > 0 {
		out = append(out, alphabet[low(held<<(width-kept), width)])
	}
	return string(out)
}

// low returns the last so many bits.
func low(bits uint32, width int) uint32 {
	return bits & (1<<width - 1)
}

// undigits returns the bytes whose bits are those of the characters of s, up to the first one that is not of the alphabet, which may be a pad; bits that are less than a byte are left out.
func undigits(s string, width int, alphabet string) []byte {
	b := make([]byte, 0, len(s)*width/8)
	held, kept := uint32(0), 0 // the last kept bits of held are those that have come to no byte yet
	for i := range len(s) {
		digit := strings.IndexByte(alphabet, s[i])
		if digit < 0 {
			break
		}
		held, kept = held<<width|uint32(digit), kept+width
		if kept >= 8 {
			kept -= 8
			b = append(b, byte(held>>kept))
		}
	}
	return b
}
