package resource

import (
	"slices"
	"strings"

	"gatepath/api"
	"gatepath/number"
	"gatepath/span"
)

const (
	// comma stands between the strings of two spans; none of these contains it.
	comma = ", "
	// between stands between two numbers of systems.
	between = "-"
)

// Text returns the string of r.
func Text(r api.Resources) (string, api.Errno) {
	if e := Check(r); e != api.OK {
		return "", e
	}
	addresses := func(family uint8) func(api.Span) string {
		return func(s api.Span) string {
			text, _ := span.Text(family, s) // cannot fail: valid resources have valid spans
			return text
		}
	}
	words := slices.Concat(convert(r.V4, addresses(api.Family4)), convert(r.V6, addresses(api.Family6)), convert(r.As, systemsText))
	return strings.Join(words, comma), api.OK
}

func systemsText(s api.AsSpan) string {
	if s.From == s.To {
		return number.AsText(s.From)
	}
	return number.AsText(s.From) + between + number.AsText(s.To)
}

// Parse returns the valid resources with a string.
func Parse(s string) (api.Resources, api.Errno) {
	r, ok := readWords(s)
	if !ok {
		return api.Resources{}, api.ErrForm
	}
	// Reading is lenient: resources have one string, so that comparing with it refuses all other forms.
	if text, e := Text(r); e != api.OK || text != s {
		return api.Resources{}, api.ErrForm
	}
	return r, api.OK
}

// readWords returns the spans of a string, which need not be in order, and whether each of its words is one.
func readWords(s string) (api.Resources, bool) {
	var r api.Resources
	if s == "" {
		return r, true
	}
	// A string with too many words is not divided further: its last part is no span, or else one of the lists is too long.
	for _, word := range strings.SplitN(s, comma, len(families)*api.MaxSpans+1) {
		if family, x, e := span.Parse(word); e == api.OK && family == api.Family4 {
			r.V4 = append(r.V4, x)
		} else if e == api.OK {
			r.V6 = append(r.V6, x)
		} else if x, ok := readSystems(word); ok {
			r.As = append(r.As, x)
		} else {
			return api.Resources{}, false
		}
	}
	return r, true
}

// readSystems returns the numbers of systems from one to another, or a single one, with a string.
func readSystems(s string) (api.AsSpan, bool) {
	left, right, found := strings.Cut(s, between)
	if !found {
		right = left
	}
	from, e := number.AsParse(left)
	to, f := number.AsParse(right)
	return api.AsSpan{From: from, To: to}, e == api.OK && f == api.OK
}
