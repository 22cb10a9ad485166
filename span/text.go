package span

import (
	"strings"

	"gatepath/api"
	"gatepath/number"
)

// between stands between the two addresses of a span; no string of an address or a prefix contains it.
const between = "-"

// Text returns the string of a span.
func Text(family uint8, s api.Span) (string, api.Errno) {
	if e := Check(family, s); e != api.OK {
		return "", e
	}
	if p := (walk{space{family}, s}).greatest(); last(p) == s.To {
		return number.Text(p)
	}
	from, _ := number.AddrText(family, s.From) // neither can fail: both are addresses of the family
	to, _ := number.AddrText(family, s.To)
	return from + between + to, api.OK
}

// Parse returns the family and the valid span with a string.
func Parse(s string) (family uint8, x api.Span, e api.Errno) {
	if strings.Contains(s, between) {
		family, x = readEnds(s)
	} else {
		family, x = readPrefix(s)
	}
	// Reading is lenient: a span has one string, so that comparing with it refuses all other forms.
	if text, f := Text(family, x); f != api.OK || text != s {
		return 0, api.Span{}, api.ErrForm
	}
	return family, x, api.OK
}

// readPrefix returns the span of a prefix, or the family 0, which is none.
func readPrefix(s string) (uint8, api.Span) {
	p, e := number.Parse(s)
	if e != api.OK {
		return 0, api.Span{}
	}
	x, _ := Of(p) // cannot fail: what is parsed is valid
	return p.Family, x
}

// readEnds returns the span from one address to another, which need not be valid, or the family 0, which is none.
func readEnds(s string) (uint8, api.Span) {
	left, right, _ := strings.Cut(s, between)
	family, from, e := number.AddrParse(left)
	other, to, f := number.AddrParse(right)
	if e != api.OK || f != api.OK || family != other {
		return 0, api.Span{}
	}
	return family, api.Span{From: from, To: to}
}
