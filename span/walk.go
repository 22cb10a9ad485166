package span

import (
	"iter"

	"gatepath/api"
	"gatepath/number"
)

// space is all addresses of a family.
type space struct {
	family uint8
}

// walk is a valid span in its space, which is gone through from its first address on.
type walk struct {
	space
	api.Span
}

// Prefixes returns the least list of prefixes of a span.
func Prefixes(family uint8, s api.Span) ([]api.Prefix, api.Errno) {
	if e := Check(family, s); e != api.OK {
		return nil, e
	}
	var list []api.Prefix
	for p := range (walk{space{family}, s}).prefixes() {
		list = append(list, p)
	}
	return list, api.OK
}

// prefixes tells the prefixes of the least list. Taking the greatest one each time is right: as prefixes are nested or disjoint, several smaller ones would have to fill up the greatest one exactly.
func (w walk) prefixes() iter.Seq[api.Prefix] {
	return func(yield func(api.Prefix) bool) {
		left := w
		for {
			p := left.greatest()
			end := last(p)
			if !yield(p) || end == left.To {
				return
			}
			left.From, _ = Next(left.family, end) // there is one, as end is less than To
		}
	}
}

// greatest returns the prefix with the most addresses of those that begin where the walk does and do not go beyond it.
func (w walk) greatest() api.Prefix {
	var p api.Prefix
	for length := range width(w.family) + 1 {
		p, _ = number.Cut(w.family, w.From, length) // cannot fail: From is an address of the family
		if p.Addr == w.From && number.Compare(last(p), w.To) <= 0 {
			break
		}
	}
	return p
}
