package resource

import (
	"slices"

	"gatepath/api"
	"gatepath/number"
	"gatepath/span"
)

// lists are the three lists of resources, in the order V4, V6, As. Numbers of systems are taken for addresses of Family4, which are as wide, so that all lists are handled alike.
type lists [3][]api.Span

// families are those of lists.
var families = [3]uint8{api.Family4, api.Family6, api.Family4}

// split returns the lists of r, of which it keeps the memory: they are only read.
func split(r api.Resources) lists {
	return lists{r.V4, r.V6, convert(r.As, fromSystems)}
}

// unite returns the resources that have these lists, of which it keeps the memory.
func unite(x lists) api.Resources {
	return api.Resources{V4: x[0], V6: x[1], As: convert(x[2], toSystems)}
}

// convert returns a new list of what f makes of each element.
func convert[S, T any](list []S, f func(S) T) []T {
	out := make([]T, 0, len(list))
	for _, s := range list {
		out = append(out, f(s))
	}
	return out
}

func fromSystems(s api.AsSpan) api.Span {
	return api.Span{From: systemAddr(s.From), To: systemAddr(s.To)}
}

func toSystems(s api.Span) api.AsSpan {
	return api.AsSpan{From: uint32(s.From.Low), To: uint32(s.To.Low)}
}

// systemAddr returns the address that a number of a system is taken for.
func systemAddr(as uint32) api.Addr {
	return api.Addr{Low: uint64(as)}
}

// valid reports whether each span of the list is valid.
func valid(family uint8, list []api.Span) bool {
	return !slices.ContainsFunc(list, func(s api.Span) bool { return span.Check(family, s) != api.OK })
}

// normal reports whether the list is normal.
func normal(family uint8, list []api.Span) bool {
	for i := range list {
		if i > 0 && !apart(family, list[i-1], list[i]) {
			return false
		}
	}
	return valid(family, list)
}

// apart reports whether at least one address lies behind x and before y.
func apart(family uint8, x, y api.Span) bool {
	next, is := span.Next(family, x.To)
	return is && number.Compare(next, y.From) < 0
}

// ordered returns a new list with the same spans, ordered by their first addresses.
func ordered(list []api.Span) []api.Span {
	out := slices.Clone(list)
	slices.SortFunc(out, func(x, y api.Span) int { return number.Compare(x.From, y.From) })
	return out
}

// join returns the normal list with the addresses of valid spans that are ordered by their first addresses.
func join(family uint8, list []api.Span) []api.Span {
	var out []api.Span
	for _, s := range list {
		last := len(out) - 1
		if last < 0 || apart(family, out[last], s) {
			out = append(out, s)
		} else if number.Compare(out[last].To, s.To) < 0 {
			out[last].To = s.To
		}
	}
	return out
}

// choose returns the normal list of the addresses that keep chooses, given whether they are in a and in b, which are normal. keep has to refuse what is in neither, as not all of that is visited.
func choose(family uint8, a, b []api.Span, keep func(inA, inB bool) bool) []api.Span {
	var out []api.Span
	for _, piece := range pieces(family, a, b) {
		_, inA := find(a, piece.From)
		_, inB := find(b, piece.From)
		if keep(inA, inB) {
			out = append(out, piece)
		}
	}
	return join(family, out)
}

// pieces returns spans in order that are disjoint and have all addresses of both lists, and none of which is in one of the lists in part only.
func pieces(family uint8, a, b []api.Span) []api.Span {
	var starts []api.Addr
	for _, s := range slices.Concat(a, b) {
		starts = append(starts, s.From)
		if behind, is := span.Next(family, s.To); is {
			starts = append(starts, behind)
		}
	}
	slices.SortFunc(starts, number.Compare)
	out := convert(slices.Compact(starts), func(from api.Addr) api.Span { return api.Span{From: from, To: greatest(family)} })
	for i := 1; i < len(out); i++ {
		out[i-1].To, _ = span.Prev(out[i].From) // there is one, as starts are increasing
	}
	return out
}

// greatest returns the greatest address of a family that there is.
func greatest(family uint8) api.Addr {
	all, _ := span.Of(api.Prefix{Family: family}) // cannot fail: the prefix of the length 0 is valid
	return all.To
}

// find returns the index of the span of a normal list that has the address, and whether there is one.
func find(list []api.Span, a api.Addr) (int, bool) {
	return slices.BinarySearchFunc(list, a, func(s api.Span, a api.Addr) int {
		if number.Compare(s.To, a) < 0 {
			return -1
		}
		return max(number.Compare(s.From, a), 0)
	})
}
