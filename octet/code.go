package octet

import "gatepath/api"

const (
	// leastLong is the least length that does not fit into its first byte, and that byte itself if no others followed.
	leastLong = 128
	// numberBytes are those of the greatest number.
	numberBytes = 8
)

// size returns the number of bytes of the encoding of a value.
func size(v api.Octet) uint64 {
	n := contentSize(v)
	return 1 + uint64(len(lengthOf(n))) + n
}

// contentSize returns the number of bytes of the content of a value.
func contentSize(v api.Octet) uint64 {
	n := uint64(len(v.Bytes))
	for _, x := range v.List {
		n += size(x)
	}
	return n
}

// put appends the encoding of a value to out.
func put(out []byte, v api.Octet) []byte {
	out = append(out, v.Tag)
	out = append(out, lengthOf(contentSize(v))...)
	out = append(out, v.Bytes...)
	for _, x := range v.List {
		out = put(out, x)
	}
	return out
}

// lengthOf returns the encoding of a length.
func lengthOf(n uint64) []byte {
	if n < leastLong {
		return []byte{byte(n)}
	}
	b := bytesOf(n)
	return append([]byte{byte(leastLong + len(b))}, b...)
}

// bytesOf returns the bytes of a number.
func bytesOf(x uint64) []byte {
	if x == 0 {
		return nil
	}
	return append(bytesOf(x>>8), byte(x))
}

// numberOf returns the number that has these bytes, and whether there is one.
func numberOf(b []byte) (uint64, bool) {
	if len(b) > numberBytes || len(b) > 0 && b[0] == 0 {
		return 0, false
	}
	x := uint64(0)
	for _, c := range b {
		x = x<<8 | uint64(c)
	}
	return x, true
}
