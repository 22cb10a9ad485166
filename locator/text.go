package locator

import (
	"strconv"
	"strings"

	"gatepath/api"
)

// What stands behind the word of the scheme, before a port, and before and between parts; a directory ends with slash.
const (
	schemeEnd = "://"
	colon     = ":"
	slash     = "/"
)

// Text returns the string of a locator.
func Text(l api.Locator) (string, api.Errno) {
	if e := Check(l); e != api.OK {
		return "", e
	}
	return text(l), api.OK
}

// Parse returns the valid locator with a string.
func Parse(s string) (api.Locator, api.Errno) {
	if len(s) > api.MaxLocator {
		return api.Locator{}, api.ErrForm
	}
	l := read(s)
	// Reading is lenient: a locator has one string, so that comparing with it refuses all other forms.
	if t, e := Text(l); e != api.OK || t != s {
		return api.Locator{}, api.ErrForm
	}
	return l, api.OK
}

// text returns the string of a locator that is valid, apart from the length of this string.
func text(l api.Locator) string {
	s := schemes[l.Scheme].word + schemeEnd + l.Host
	if l.Port != 0 {
		s += colon + strconv.Itoa(l.Port)
	}
	s += slash + strings.Join(l.Parts, slash)
	if l.Dir && len(l.Parts) > 0 {
		s += slash
	}
	return s
}

// read returns the locator whose string s is, or any other one, which need not be valid, if there is none.
func read(s string) api.Locator {
	rest := s
	// cut takes off what is before the next end, and this end.
	cut := func(end string) (before string) {
		before, rest, _ = strings.Cut(rest, end)
		return before
	}
	l := api.Locator{Scheme: schemeOf(cut(schemeEnd)), Dir: strings.HasSuffix(s, slash)}
	host, port, _ := strings.Cut(cut(slash), colon)
	l.Host = host
	l.Port, _ = strconv.Atoi(port) // 0, or no port, if it fails
	for rest != "" {
		l.Parts = append(l.Parts, cut(slash))
	}
	return l
}

// schemeOf returns the scheme with a word, or 0, which is none.
func schemeOf(word string) uint8 {
	for i := range schemes {
		if schemes[i].word == word {
			return uint8(i)
		}
	}
	return 0
}
