package locator

import (
	"math/rand"
	"regexp"
	"slices"
	"strconv"
	"strings"
	"testing"

	"gatepath/api"
)

// The model knows hosts, parts and strings by regular expressions.
var (
	modelHost   = regexp.MustCompile(`\A[a-z0-9]([a-z0-9-]*[a-z0-9])?(\.[a-z0-9]([a-z0-9-]*[a-z0-9])?)*\z`)
	modelPart   = regexp.MustCompile(`\A[a-zA-Z0-9._-]{1,40}\z`)
	modelString = regexp.MustCompile(`\A(rsync|https)://([^/:]+)(?::([1-9][0-9]{0,4}))?((?:/[^/]+)*)(/?)\z`)
)

func modelName(s string) bool {
	return modelPart.MatchString(s) && s != "." && s != ".."
}

// modelText returns the string of any locator.
func modelText(l api.Locator) string {
	var out strings.Builder
	out.WriteString(map[uint8]string{1: "rsync://", 2: "https://"}[l.Scheme])
	out.WriteString(l.Host)
	if l.Port != 0 {
		out.WriteString(":" + strconv.Itoa(l.Port))
	}
	out.WriteString("/")
	for i, part := range l.Parts {
		if i > 0 {
			out.WriteString("/")
		}
		out.WriteString(part)
	}
	if l.Dir && len(l.Parts) > 0 {
		out.WriteString("/")
	}
	return out.String()
}

// modelCheck returns what Check has to.
func modelCheck(l api.Locator) api.Errno {
	usual := map[uint8]int{1: 873, 2: 443}[l.Scheme]
	switch {
	case len(l.Parts) > 10:
		return api.ErrMany
	case usual == 0, l.Port < 0, l.Port > 65535, l.Port == usual:
		return api.ErrBad
	case len(l.Host) > 60 || !modelHost.MatchString(l.Host):
		return api.ErrBad
	case !l.Dir && len(l.Parts) == 0 || slices.ContainsFunc(l.Parts, func(part string) bool { return !modelName(part) }):
		return api.ErrBad
	case len(modelText(l)) > 200:
		return api.ErrMany
	}
	return api.OK
}

// modelParse returns the valid locator with a string, and whether there is one.
func modelParse(s string) (api.Locator, bool) {
	m := modelString.FindStringSubmatch(s)
	if m == nil {
		return api.Locator{}, false
	}
	l := api.Locator{Scheme: map[string]uint8{"rsync": 1, "https": 2}[m[1]], Host: m[2], Dir: m[5] != ""}
	if m[3] != "" {
		l.Port, _ = strconv.Atoi(m[3])
	}
	if m[4] != "" {
		l.Parts = strings.Split(m[4][1:], "/")
	}
	if modelCheck(l) != api.OK {
		return api.Locator{}, false
	}
	return l, true
}

// modelWithin reports whether the directory d contains l, part by part.
func modelWithin(d, l api.Locator) bool {
	if d.Scheme != l.Scheme || d.Host != l.Host || d.Port != l.Port || len(d.Parts) > len(l.Parts) {
		return false
	}
	for i := range d.Parts {
		if d.Parts[i] != l.Parts[i] {
			return false
		}
	}
	return l.Dir || len(l.Parts) > len(d.Parts)
}

// same reports whether two locators are equal; nil and empty lists are.
func same(a, b api.Locator) bool {
	return a.Scheme == b.Scheme && a.Host == b.Host && a.Port == b.Port && a.Dir == b.Dir && slices.Equal(a.Parts, b.Parts)
}

// brief shortens a string for messages.
func brief(s string) string {
	return strconv.Quote(s[:min(len(s), 100)])
}

// checkParse fails if Parse does not do with a string what the model does.
func checkParse(t *testing.T, s string) {
	t.Helper()
	want, is := modelParse(s)
	l, e := Parse(s)
	if is && (e != api.OK || !same(l, want)) || !is && (e != api.ErrForm || !same(l, api.Locator{})) {
		t.Fatal(brief(s), l, e, want, is)
	}
}

// checkLocator fails if Check or Text does not do with a locator what the model does.
func checkLocator(t *testing.T, l api.Locator) {
	t.Helper()
	want := modelCheck(l)
	if e := Check(l); e != want {
		t.Fatal(l, e, want)
	}
	s, e := Text(l)
	if e != want || want == api.OK && s != modelText(l) || want != api.OK && s != "" {
		t.Fatal(l, brief(s), e, want)
	}
}

const partBytes = "abcdefghijklmnopqrstuvwxyzABCDEFGHIJKLMNOPQRSTUVWXYZ0123456789-_."

// somePart returns a part.
func somePart(r *rand.Rand) string {
	parts := []string{"a", "b", "ca", "x.cer", "x.roa", "...", "-", "_", "A", "a.", strings.Repeat("z", 40)}
	if r.Intn(3) > 0 {
		return parts[r.Intn(len(parts))]
	}
	b := make([]byte, 1+r.Intn(8))
	for i := range b {
		b[i] = partBytes[r.Intn(len(partBytes))]
	}
	if !modelName(string(b)) {
		return "x"
	}
	return string(b)
}

// some returns a valid locator.
func some(r *rand.Rand) api.Locator {
	hosts := []string{"h", "a.b", "repo.example", "0-1", "a--b.0", strings.Repeat("h", 60)}
	ports := []int{0, 0, 0, 1, 80, 8443, 65535}
	for {
		l := api.Locator{Scheme: uint8(1 + r.Intn(2)), Host: hosts[r.Intn(len(hosts))], Port: ports[r.Intn(len(ports))], Dir: r.Intn(2) == 0}
		for range r.Intn(r.Intn(11) + 1) {
			l.Parts = append(l.Parts, somePart(r))
		}
		if modelCheck(l) == api.OK {
			return l
		}
	}
}

// someLocators are valid locators.
func someLocators(n int) []api.Locator {
	r := rand.New(rand.NewSource(1))
	out := []api.Locator{
		{Scheme: 1, Host: "h", Dir: true},
		{Scheme: 2, Host: "h", Port: 873, Parts: []string{"a"}},
		{Scheme: 1, Host: "h", Port: 443, Parts: slices.Repeat([]string{"a"}, 10)},
		{Scheme: 2, Host: "h", Parts: slices.Repeat([]string{"a"}, 10), Dir: true},
		sized(200, true),
		sized(200, false),
	}
	for range n {
		out = append(out, some(r))
	}
	return out
}

// sized returns a locator of five parts whose string has so many bytes, from 168 to 207.
func sized(n int, dir bool) api.Locator {
	part := strings.Repeat("p", 40)
	l := api.Locator{Scheme: 2, Host: "h", Parts: []string{part, part, part, part, ""}, Dir: dir}
	l.Parts[4] = strings.Repeat("q", n-len(modelText(l)))
	return l
}
