package roa

import (
	"math"
	"math/rand"
	"slices"

	"gatepath/api"
	"gatepath/number"
)

// prefix returns the prefix with a string.
func prefix(s string) api.Prefix {
	p, e := number.Parse(s)
	if e != api.OK {
		panic(s)
	}
	return p
}

// upTo returns the element with the prefix of this string.
func upTo(s string, most int) api.AuthPrefix {
	return api.AuthPrefix{Prefix: prefix(s), Max: most}
}

// example is the authorisation of the chapter's example.
func example() api.RouteAuth {
	return api.RouteAuth{As: 64500, Prefixes: []api.AuthPrefix{upTo("10.0.0.0/8", 16)}}
}

// single is an authorisation for one prefix.
func single(x api.AuthPrefix) api.RouteAuth {
	return api.RouteAuth{As: 1, Prefixes: []api.AuthPrefix{x}}
}

// varied is an authorisation with prefixes of all kinds; each of the things that they are ordered by makes the difference between two neighbours.
func varied() api.RouteAuth {
	return api.RouteAuth{As: 70000, Prefixes: []api.AuthPrefix{
		upTo("0.0.0.0/0", 0),
		upTo("0.0.0.0/0", 31),
		upTo("0.0.0.0/1", 1),
		upTo("0.0.0.0/32", 32),
		upTo("10.0.0.0/8", 8),
		upTo("10.0.0.0/9", 24),
		upTo("10.128.0.0/9", 10),
		upTo("10.128.0.0/24", 24),
		upTo("127.255.255.255/32", 32),
		upTo("128.0.0.0/1", 32),
		upTo("255.255.255.254/31", 32),
		upTo("::/1", 1),
		upTo("::/1", 127),
		upTo("::1/128", 128),
		upTo("::7fff:ffff:ffff:ffff/128", 128),
		upTo("::8000:0:0:0/65", 66),
		upTo("0:0:0:1::/64", 64),
		upTo("2001:db8::/32", 48),
		upTo("2001:db8::/33", 48),
		upTo("7fff::/16", 16),
		upTo("8000::/1", 128),
		upTo("ffff:ffff:ffff:ffff:ffff:ffff:ffff:ffff/128", 128),
	}}
}

// full is an authorisation whose encoding is as long as one can be.
func full() api.RouteAuth {
	return api.RouteAuth{As: math.MaxUint32, Prefixes: long(100)}
}

// long returns n elements of Family6 whose numbers have as many bytes as they can have.
func long(n int) []api.AuthPrefix {
	var list []api.AuthPrefix
	for i := range n {
		list = append(list, api.AuthPrefix{Prefix: api.Prefix{Family: 6, Addr: api.Addr{High: 1<<63 + uint64(i), Low: math.MaxUint64 - uint64(i)}, Len: 128}, Max: 128})
	}
	return list
}

// spread returns n elements of Family4 of which no two touch.
func spread(n int) []api.AuthPrefix {
	var list []api.AuthPrefix
	for i := range n {
		list = append(list, api.AuthPrefix{Prefix: api.Prefix{Family: 4, Addr: api.Addr{Low: uint64(i) << 25}, Len: 8}, Max: 8 + i%25})
	}
	return list
}

// edit changes an authorisation, which may share its list with others.
type edit func(a *api.RouteAuth)

// changed returns an authorisation with changes, one after the other.
func changed(a api.RouteAuth, changes ...edit) api.RouteAuth {
	a.Prefixes = slices.Clone(a.Prefixes)
	for _, change := range changes {
		change(&a)
	}
	return a
}

// goodEdits make other valid authorisations of varied, no two of them the same.
func goodEdits() []edit {
	list := []edit{
		func(a *api.RouteAuth) { a.As = 0 },
		func(a *api.RouteAuth) { a.As = 1 },
		func(a *api.RouteAuth) { a.As = 70000 << 8 },
		func(a *api.RouteAuth) { a.As = math.MaxUint32 },
		func(a *api.RouteAuth) { a.Prefixes = long(1) },
		func(a *api.RouteAuth) { a.Prefixes = long(99) },
		func(a *api.RouteAuth) { a.Prefixes = long(100) },
		func(a *api.RouteAuth) { a.Prefixes = spread(100) },
		func(a *api.RouteAuth) { a.Prefixes = slices.Concat(spread(50), long(50)) },
		func(a *api.RouteAuth) { a.Prefixes[0].Max = 1 },
		func(a *api.RouteAuth) { a.Prefixes[1].Max = 32 },
		func(a *api.RouteAuth) { a.Prefixes[5].Prefix.Len = 10 },
		func(a *api.RouteAuth) { a.Prefixes[6].Max = 9 },
		func(a *api.RouteAuth) { a.Prefixes[7].Prefix.Addr.Low += 256 },
		func(a *api.RouteAuth) { a.Prefixes[12].Max = 128 },
		func(a *api.RouteAuth) { a.Prefixes[13].Prefix.Addr.Low++ },
		func(a *api.RouteAuth) { a.Prefixes[15].Prefix.Len = 66 },
		func(a *api.RouteAuth) { a.Prefixes[16].Prefix.Addr.High++ },
		func(a *api.RouteAuth) { a.Prefixes = a.Prefixes[:1] },
	}
	for i := range varied().Prefixes {
		list = append(list, func(a *api.RouteAuth) { a.Prefixes = slices.Delete(a.Prefixes, i, i+1) })
	}
	return list
}

// badElements are not valid.
func badElements() []api.AuthPrefix {
	list := []api.AuthPrefix{
		{}, {Max: 1}, {Prefix: api.Prefix{Family: 5}}, {Prefix: api.Prefix{Family: 255, Addr: api.Addr{Low: 1}, Len: 8}, Max: 8}, {Prefix: api.Prefix{Family: 32, Len: 32}, Max: 32},
	}
	for _, p := range []api.Prefix{prefix("0.0.0.0/0"), prefix("10.0.0.0/8"), prefix("10.0.0.4/30"), prefix("1.2.3.4/32"), prefix("::/0"), prefix("2001:db8::/32"), prefix("::/64"), prefix("::1/128")} {
		width := widths[p.Family]
		for _, most := range []int{p.Len - 1, -1, -p.Len - 1, -256, math.MinInt, width + 1, width + 32, width + 256, 1 << 31, 1 << 32, 1<<32 + width, math.MaxInt} {
			list = append(list, api.AuthPrefix{Prefix: p, Max: most})
		}
		for _, length := range []int{-1, -32, -128, math.MinInt, width + 1, width + 32, width + 256, 1 << 32, 1<<32 + p.Len, math.MaxInt} {
			for _, most := range []int{length, p.Len, width} {
				list = append(list, api.AuthPrefix{Prefix: api.Prefix{Family: p.Family, Addr: p.Addr, Len: length}, Max: most})
			}
		}
	}
	for _, p := range []api.Prefix{
		{Family: 4, Addr: api.Addr{Low: 1}, Len: 31}, {Family: 4, Addr: api.Addr{Low: 1 << 31}}, {Family: 4, Addr: api.Addr{Low: 1 << 32}, Len: 8}, {Family: 4, Addr: api.Addr{High: 1}, Len: 32}, {Family: 4, Addr: api.Addr{High: 1 << 63, Low: 5}, Len: 32}, {Family: 4, Addr: api.Addr{Low: math.MaxUint64}, Len: 32},
		{Family: 6, Addr: api.Addr{Low: 1}, Len: 127}, {Family: 6, Addr: api.Addr{High: 1 << 63}}, {Family: 6, Addr: api.Addr{High: 1}, Len: 63}, {Family: 6, Addr: api.Addr{High: 5, Low: 1 << 63}, Len: 64},
	} {
		list = append(list, api.AuthPrefix{Prefix: p, Max: p.Len}, api.AuthPrefix{Prefix: p, Max: widths[p.Family]})
	}
	return list
}

// badEdits make authorisations that are not valid of varied, because of one thing.
func badEdits() []edit {
	var list []edit
	for _, x := range badElements() {
		list = append(list,
			func(a *api.RouteAuth) { a.Prefixes = []api.AuthPrefix{x} },
			// The element is where the order has it, so that it is the only thing that is wrong.
			func(a *api.RouteAuth) {
				at, _ := slices.BinarySearchFunc(a.Prefixes, x, modelCompare)
				a.Prefixes = slices.Insert(a.Prefixes, at, x)
			})
	}
	for i := range varied().Prefixes {
		list = append(list, func(a *api.RouteAuth) { a.Prefixes = slices.Insert(a.Prefixes, i, a.Prefixes[i]) })
		if i > 0 {
			list = append(list,
				func(a *api.RouteAuth) { a.Prefixes[i-1], a.Prefixes[i] = a.Prefixes[i], a.Prefixes[i-1] },
				func(a *api.RouteAuth) { a.Prefixes[0], a.Prefixes[i] = a.Prefixes[i], a.Prefixes[0] },
				func(a *api.RouteAuth) { a.Prefixes[i] = a.Prefixes[i-1] })
		}
	}
	return append(list,
		func(a *api.RouteAuth) { a.Prefixes = nil },
		func(a *api.RouteAuth) { a.Prefixes = a.Prefixes[:0] },
		func(a *api.RouteAuth) { a.Prefixes = make([]api.AuthPrefix, 100) },
		func(a *api.RouteAuth) { slices.Reverse(a.Prefixes) },
		func(a *api.RouteAuth) { a.Prefixes = slices.Concat(long(50), spread(50)) },
		func(a *api.RouteAuth) { a.Prefixes = slices.Concat(long(99), long(1)) },
		func(a *api.RouteAuth) { a.Prefixes = append(long(99), long(99)[98]) })
}

// manyEdits make authorisations with too many prefixes, valid and in order or not.
func manyEdits() []edit {
	var list []edit
	for _, prefixes := range [][]api.AuthPrefix{long(101), long(1000), make([]api.AuthPrefix, 101), slices.Repeat(spread(1), 40000), slices.Concat(spread(51), long(50)), slices.Concat(long(100), spread(1)), badElements()} {
		list = append(list, func(a *api.RouteAuth) { a.Prefixes = prefixes })
	}
	return list
}

// validAuths are valid authorisations of all kinds.
func validAuths() []api.RouteAuth {
	list := []api.RouteAuth{example(), varied(), full()}
	for _, change := range goodEdits() {
		list = append(list, changed(varied(), change))
	}
	r := rand.New(rand.NewSource(1))
	for range 200 {
		list = append(list, random(r))
	}
	return list
}

// wrongAuths are authorisations that are not valid.
func wrongAuths() []api.RouteAuth {
	list := []api.RouteAuth{{}, {As: 1}, {Prefixes: make([]api.AuthPrefix, 1)}}
	for _, many := range manyEdits() {
		list = append(list, changed(varied(), many))
	}
	for _, bad := range badEdits() {
		list = append(list, changed(varied(), bad))
	}
	return list
}

// random returns a valid authorisation.
func random(r *rand.Rand) api.RouteAuth {
	a := api.RouteAuth{As: r.Uint32() >> r.Intn(33)}
	for range 1 + r.Intn(1<<r.Intn(8))%100 {
		p := randomPrefix(r)
		a.Prefixes = append(a.Prefixes, api.AuthPrefix{Prefix: p, Max: p.Len + r.Intn(widths[p.Family]-p.Len+1)})
	}
	slices.SortFunc(a.Prefixes, modelCompare)
	a.Prefixes = slices.Compact(a.Prefixes)
	return a
}

// randomPrefix returns a valid prefix with few different bits, so that some cover others, or touch them.
func randomPrefix(r *rand.Rand) api.Prefix {
	family, addr := uint8(4+2*r.Intn(2)), api.Addr{}
	for range 3 {
		addr.High ^= 1 << (60 + r.Intn(4))
		addr.Low ^= 1 << (28 + r.Intn(4))
	}
	if family == 4 {
		addr.High = 0
	}
	length := 1 + r.Intn(5)
	if family == 6 && r.Intn(2) == 0 {
		length = 96 + r.Intn(33)
	}
	p, e := number.Cut(family, addr, length)
	if e != api.OK {
		panic(e)
	}
	return p
}
