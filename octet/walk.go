package octet

import (
	"iter"

	"gatepath/api"
)

// leastList is the least tag of lists; values with lesser ones are simple.
const leastList = 128

// within tells a value and all values in it, each with how deep it is; that of v is 1.
func within(v api.Octet) iter.Seq2[int, api.Octet] {
	return func(yield func(int, api.Octet) bool) {
		visit(1, v, yield)
	}
}

// visit reports whether there is a wish for more.
func visit(depth int, v api.Octet, yield func(int, api.Octet) bool) bool {
	if !yield(depth, v) {
		return false
	}
	for _, x := range v.List {
		if !visit(depth+1, x, yield) {
			return false
		}
	}
	return true
}

// tooMany reports whether a value has more values, or is deeper, than is allowed. It is left at the first one too many, as a list that has itself as an element has no last one.
func tooMany(v api.Octet) bool {
	values := 0
	for depth := range within(v) {
		values++
		if values > api.MaxValues || depth > api.MaxNest {
			return true
		}
	}
	return false
}

// simpleOrList reports whether a value, whatever is in its list, is simple or a list.
func simpleOrList(v api.Octet) bool {
	if v.Tag < leastList {
		return v.Tag != 0 && len(v.List) == 0
	}
	return len(v.Bytes) == 0
}
