package octet

import "gatepath/api"

// reader takes bytes from the beginning of those that are left. It is left by a panic where they do not begin with what is wanted.
type reader struct {
	left []byte
}

func (r *reader) take(n uint64) []byte {
	if n > uint64(len(r.left)) {
		panic(api.ErrForm)
	}
	taken := r.left[:n]
	r.left = r.left[n:]
	return taken
}

// length takes the encoding of a length.
func (r *reader) length() uint64 {
	first := uint64(r.take(1)[0])
	if first < leastLong {
		return first
	}
	n, is := numberOf(r.take(first - leastLong))
	if !is || n < leastLong {
		panic(api.ErrForm)
	}
	return n
}

// value takes the encoding of a value, which need not be valid.
func (r *reader) value() api.Octet {
	v := api.Octet{Tag: r.take(1)[0]}
	content := r.take(r.length())
	if v.Tag < leastList {
		v.Bytes = append([]byte(nil), content...)
		return v
	}
	inner := reader{content}
	for len(inner.left) > 0 {
		v.List = append(v.List, inner.value())
	}
	return v
}
