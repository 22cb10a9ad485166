package locator

import (
	"math"
	"math/rand"
	"slices"
	"strings"
	"testing"

	"gatepath/api"
)

// base returns a valid file.
func base() api.Locator {
	return api.Locator{Scheme: api.SchemeRsync, Host: "h", Parts: []string{"a", "b"}}
}

// P9.1

func TestCheckScheme(t *testing.T) {
	for scheme := range 256 {
		l := base()
		l.Scheme = uint8(scheme)
		want := api.ErrBad
		if scheme == 1 || scheme == 2 {
			want = api.OK
		}
		if e := Check(l); e != want {
			t.Error(scheme, e)
		}
		checkLocator(t, l)
	}
}

func TestCheckHost(t *testing.T) {
	long := strings.Repeat("h", 60)
	for host, want := range map[string]api.Errno{
		"h": api.OK, "0": api.OK, "a.b": api.OK, "repo.example": api.OK, "1.2.3.4": api.OK, "a-b": api.OK, "a--b": api.OK, "0-1": api.OK, "a.b-c.d": api.OK, "xn--a": api.OK,
		long: api.OK, long[:59]: api.OK, long[:30] + "." + long[:29]: api.OK, strings.Repeat("a.", 29) + "ab": api.OK,
		"": api.ErrBad, ".": api.ErrBad, "-": api.ErrBad, "..": api.ErrBad, ".a": api.ErrBad, "a.": api.ErrBad, "a..b": api.ErrBad, "-a": api.ErrBad, "a-": api.ErrBad, "a.-b": api.ErrBad, "a-.b": api.ErrBad, "a.-": api.ErrBad, "-.a": api.ErrBad, "a.-.b": api.ErrBad, "a.b-": api.ErrBad,
		"A": api.ErrBad, "Repo.example": api.ErrBad, "a_b": api.ErrBad, "_": api.ErrBad, "a b": api.ErrBad, "a:1": api.ErrBad, "a/b": api.ErrBad, "é": api.ErrBad, "a\x00": api.ErrBad, "\xff": api.ErrBad, "[::1]": api.ErrBad, "a@b": api.ErrBad,
		long + "h": api.ErrBad, long[:30] + "." + long[:30]: api.ErrBad, strings.Repeat("h", 1<<20): api.ErrBad, strings.Repeat(".", 1<<20): api.ErrBad,
	} {
		l := base()
		l.Host = host
		if e := Check(l); e != want {
			t.Error(brief(host), e, want)
		}
		checkLocator(t, l)
	}
}

// TestBytes has each byte at each place of a host and of a part.
func TestBytes(t *testing.T) {
	for c := range 256 {
		x := string([]byte{byte(c)})
		for _, s := range []string{x, x + "a", "a" + x, "a" + x + "a", "a." + x, x + ".a", "a." + x + ".a", "a-" + x + "a", "a" + x + "-a"} {
			l := base()
			l.Host = s
			checkLocator(t, l)
			checkParse(t, "rsync://"+s+"/a")
			checkParse(t, "https://"+s+"/")
			l = base()
			l.Parts = []string{s}
			checkLocator(t, l)
			l.Parts = []string{"a", s, "b"}
			checkLocator(t, l)
			checkParse(t, "rsync://h/"+s)
			checkParse(t, "rsync://h/a/"+s+"/b/")
		}
	}
}

func TestCheckPort(t *testing.T) {
	for _, port := range []int{math.MinInt, -65536, -1, 0, 1, 79, 80, 442, 443, 444, 872, 873, 874, 8443, 65534, 65535, 65536, 65536 + 80, 1 << 32, 1<<32 + 80, math.MaxInt} {
		for scheme, usual := range map[uint8]int{1: 873, 2: 443} {
			want := api.OK
			if port < 0 || port > 65535 || port == usual {
				want = api.ErrBad
			}
			l := base()
			l.Scheme, l.Port = scheme, port
			if e := Check(l); e != want {
				t.Error(scheme, port, e)
			}
			checkLocator(t, l)
		}
	}
	for port := -10; port < 70000; port++ {
		checkLocator(t, api.Locator{Scheme: uint8(1 + port&1), Host: "h", Port: port, Dir: true})
		checkLocator(t, api.Locator{Scheme: uint8(2 - port&1), Host: "h", Port: port, Dir: true})
	}
}

func TestCheckParts(t *testing.T) {
	for _, dir := range []bool{false, true} {
		for n := range 30 {
			want := api.OK
			if n > 10 {
				want = api.ErrMany
			} else if n == 0 && !dir {
				want = api.ErrBad
			}
			l := api.Locator{Scheme: 2, Host: "h", Parts: slices.Repeat([]string{"a"}, n), Dir: dir}
			if e := Check(l); e != want {
				t.Error(n, dir, e)
			}
			checkLocator(t, l)
			for i := range n {
				for _, bad := range []string{"", ".", "..", "a/b", "/", "a:b", " ", "a b", "é", "\x00", strings.Repeat("a", 41), strings.Repeat("a", 1<<17)} {
					l.Parts[i] = bad
					if e := Check(l); n <= 10 && e != api.ErrBad || n > 10 && e != api.ErrMany {
						t.Error(n, dir, i, brief(bad), e)
					}
				}
				l.Parts[i] = "a"
			}
		}
	}
	if e := Check(api.Locator{Scheme: 2, Host: "h", Parts: make([]string, 1<<20)}); e != api.ErrMany {
		t.Error(e)
	}
}

func TestCheckLength(t *testing.T) {
	for _, dir := range []bool{false, true} {
		for n := 180; n <= 207; n++ {
			l := sized(n, dir)
			want := api.OK
			if n > 200 {
				want = api.ErrMany
			}
			if e := Check(l); e != want || len(modelText(l)) != n {
				t.Error(n, dir, e)
			}
			checkLocator(t, l)
		}
	}
	// Each thing that makes the string longer counts.
	for _, change := range []func(l *api.Locator){
		func(l *api.Locator) { l.Host += "h" },
		func(l *api.Locator) { l.Port = 8 },
		func(l *api.Locator) { l.Parts[0] += "a" },
		func(l *api.Locator) { l.Parts = append(l.Parts, "b") },
		func(l *api.Locator) { l.Dir = true },
	} {
		l := sized(200, false)
		l.Parts[0], l.Parts[4] = l.Parts[0][1:], l.Parts[4]+"q"
		if e := Check(l); e != api.OK {
			t.Error(e)
		}
		change(&l)
		if e := Check(l); e != api.ErrMany {
			t.Error(l, e)
		}
	}
	longest := api.Locator{Scheme: 2, Host: strings.Repeat("h", 60), Port: 65535, Parts: slices.Repeat([]string{strings.Repeat("a", 40)}, 10), Dir: true}
	if e := Check(longest); e != api.ErrMany {
		t.Error(e)
	}
}

// TestCheckOrder has several errors at once.
func TestCheckOrder(t *testing.T) {
	for i, spoil := range []func(l *api.Locator){
		func(l *api.Locator) { l.Scheme = 0 },
		func(l *api.Locator) { l.Scheme = 255 },
		func(l *api.Locator) { l.Host = "" },
		func(l *api.Locator) { l.Host = strings.Repeat("h", 1000) },
		func(l *api.Locator) { l.Port = -1 },
		func(l *api.Locator) { l.Port = 443 },
		func(l *api.Locator) { l.Parts[2] = "" },
		func(l *api.Locator) { l.Parts[0] = strings.Repeat("a", 41) },
		func(l *api.Locator) { l.Parts[4] = ".." },
	} {
		l := sized(207, false)
		spoil(&l)
		if e := Check(l); e != api.ErrBad {
			t.Error(i, e)
		}
		l.Parts = append(l.Parts, slices.Repeat([]string{"a"}, 6)...)
		if e := Check(l); e != api.ErrMany {
			t.Error(i, e)
		}
		if s, e := Text(l); s != "" || e != api.ErrMany {
			t.Error(i, brief(s), e)
		}
	}
	if e := Check(api.Locator{}); e != api.ErrBad {
		t.Error(e)
	}
}

func TestTextAndParse(t *testing.T) {
	for s, l := range map[string]api.Locator{
		"rsync://repo.example/ca/one.cer": {Scheme: 1, Host: "repo.example", Parts: []string{"ca", "one.cer"}},
		"rsync://repo.example/ca/":        {Scheme: 1, Host: "repo.example", Parts: []string{"ca"}, Dir: true},
		"https://repo.example:8443/":      {Scheme: 2, Host: "repo.example", Port: 8443, Dir: true},
		"rsync://h/":                      {Scheme: 1, Host: "h", Dir: true},
		"rsync://h/a":                     {Scheme: 1, Host: "h", Parts: []string{"a"}},
		"https://h:1/a/b/c/":              {Scheme: 2, Host: "h", Port: 1, Parts: []string{"a", "b", "c"}, Dir: true},
		"https://h:873/-":                 {Scheme: 2, Host: "h", Port: 873, Parts: []string{"-"}},
		"rsync://h:443/.../_/":            {Scheme: 1, Host: "h", Port: 443, Parts: []string{"...", "_"}, Dir: true},
		"rsync://h:65535/A.b":             {Scheme: 1, Host: "h", Port: 65535, Parts: []string{"A.b"}},
		"rsync://h/a/b/c/d/e/f/g/h/i/j/":  {Scheme: 1, Host: "h", Parts: []string{"a", "b", "c", "d", "e", "f", "g", "h", "i", "j"}, Dir: true},
		"rsync://h/rsync/https":           {Scheme: 1, Host: "h", Parts: []string{"rsync", "https"}},
	} {
		if r, e := Text(l); r != s || e != api.OK {
			t.Error(s, r, e)
		}
		if k, e := Parse(s); !same(k, l) || e != api.OK {
			t.Error(s, k, e)
		}
		checkParse(t, s)
	}
}

func TestParseInvalid(t *testing.T) {
	long := strings.Repeat("x", 40)
	for _, s := range []string{
		"", "/", ":", "://", "//", "a", "rsync", "https", "rsync:", "rsync:/", "rsync://", "https://", "rsync:///", "https:////", "rsync://h", "https://repo.example", "rsync:///a", "rsync://:80/", "://h/", "//h/a", "h/a", "/a/b", "rsync:h/", "rsync:/h/", "rsync:///h/",
		"http://h/", "ftp://h/", "RSYNC://h/", "Https://h/", "rsyncs://h/", "rsync ://h/", " rsync://h/", "rsync://h/ ", "rsync://h/\n", "rsync://h/a\n", "\x00://h/", "rsync://rsync://h/", "rsync://https://h/a", "xrsync://h/",
		"https://repo.example:443/", "rsync://repo.example:873/a", "rsync://h:/", "rsync://h:0/", "rsync://h:00/", "rsync://h:080/", "rsync://h:+80/", "rsync://h:-80/", "rsync://h:-0/", "rsync://h: 80/", "rsync://h:80 /", "rsync://h:0x50/", "rsync://h:8_0/", "rsync://h:8.0/", "rsync://h:8x/", "rsync://h:x/", "rsync://h:65536/", "rsync://h:99999/", "rsync://h:4294967376/", "rsync://h:18446744073709551696/", "rsync://h:99999999999999999999999/", "rsync://h:80:80/", "rsync://h::80/", "rsync://h:80", "rsync://h80:/", "rsync://h:٨/", "rsync://h:80/:80", "rsync://:/",
		"rsync://Repo.example/", "rsync://repo..example/a", "rsync://.h/", "rsync://h./", "rsync://-h/", "rsync://h-/", "rsync://a-.b/", "rsync://a.-b/", "rsync://a_b/", "rsync://u@h/", "rsync://[::1]/", "rsync://" + strings.Repeat("h", 61) + "/", "rsync://h%41/",
		"rsync://repo.example/a//b", "rsync://repo.example/a/../b", "rsync://h/.", "rsync://h/..", "rsync://h/./", "rsync://h/../", "rsync://h/./a", "rsync://h/a/.", "rsync://h/a/..", "rsync://h//", "rsync://h//a", "rsync://h/a//", "rsync://h/a///", "rsync://h///", "rsync://h/a b", "rsync://h/a?b", "rsync://h/a#b", "rsync://h/a%20b", "rsync://h/a\\b", "rsync://h/a:b", "rsync://h/é", "rsync://h/\x00\x00\x00", "rsync://h/\xff",
		"rsync://h/" + long + "x", "rsync://h/" + long + "x/a", "rsync://h" + strings.Repeat("/a", 11), "rsync://h" + strings.Repeat("/a", 11) + "/", "https://h" + strings.Repeat("/a", 96), modelText(sized(201, false)), modelText(sized(201, true)), modelText(sized(207, false)),
		strings.Repeat("a", 1<<20), strings.Repeat("/", 1<<20), strings.Repeat(":", 1<<20), "rsync://h/" + strings.Repeat("a/", 1<<20), "rsync://" + strings.Repeat("h", 1<<20) + "/", "rsync://h:" + strings.Repeat("0", 1<<20) + "80/",
	} {
		if l, e := Parse(s); e != api.ErrForm || !same(l, api.Locator{}) {
			t.Error(brief(s), l, e)
		}
		checkParse(t, s)
	}
}

// TestParseLength has strings of all lengths around the greatest one.
func TestParseLength(t *testing.T) {
	for n := 180; n <= 207; n++ {
		for _, dir := range []bool{false, true} {
			s := modelText(sized(n, dir))
			if _, e := Parse(s); len(s) != n || (e == api.OK) != (n <= 200) {
				t.Error(n, dir, e)
			}
			checkParse(t, s)
		}
	}
}

// TestParseShort has all short strings of some bytes, behind some beginnings.
func TestParseShort(t *testing.T) {
	starts := []string{"", "rsync", "https:", "rsync://", "https://h", "rsync://h:8", "https://h/", "rsync://h/a"}
	var fill func(s string, left int)
	fill = func(s string, left int) {
		for _, start := range starts {
			checkParse(t, start+s)
			checkParse(t, start+s+"/")
		}
		for _, c := range "aA0.-_:/ " {
			if left > 0 {
				fill(s+string(c), left-1)
			}
		}
	}
	fill("", 4)
}

// spoiled returns a string that differs from s at a few places.
func spoiled(r *rand.Rand, s string) string {
	pieces := []string{"", "/", "//", ":", "://", ".", "..", "/../", "-", "_", "A", "a", "0", "80", "443", "873", " ", "é", "\x00", "rsync", "https"}
	for range 1 + r.Intn(3) {
		i := r.Intn(len(s) + 1)
		j := min(i+r.Intn(3), len(s))
		s = s[:i] + pieces[r.Intn(len(pieces))] + s[j:]
	}
	return s
}

func TestParseSpoiled(t *testing.T) {
	r := rand.New(rand.NewSource(2))
	for _, l := range someLocators(3000) {
		s := modelText(l)
		checkParse(t, s)
		for range 20 {
			checkParse(t, spoiled(r, s))
		}
		for i := range len(s) {
			checkParse(t, s[:i])
			checkParse(t, s[i:])
		}
	}
}

func FuzzParse(f *testing.F) {
	for _, s := range []string{"", "rsync://repo.example/ca/one.cer", "https://repo.example:8443/", "rsync://h/a/../b", "https://h:443/"} {
		f.Add(s)
	}
	f.Fuzz(checkParse)
}

// P9.2

func TestName(t *testing.T) {
	for c := range 256 {
		s := string([]byte{byte(c)})
		want := strings.Contains(partBytes, s)
		for _, text := range []string{s + "a", "a" + s, "a" + s + "a", strings.Repeat("a", 39) + s} {
			if Name(text) != want {
				t.Errorf("Name(%q) is not %v", text, want)
			}
		}
		if want := want && c != '.'; Name(s) != want {
			t.Errorf("Name(%q) is not %v", s, want)
		}
	}
	long := strings.Repeat("x", 40)
	for s, want := range map[string]bool{"": false, ".": false, "..": false, "...": true, "....": true, ".a": true, "a.": true, "..a": true, "-": true, "_": true, ".-": true, "one.cer": true, "A": true, long[:39]: true, long: true, long + "x": false, strings.Repeat(".", 40): true, strings.Repeat(".", 41): false, strings.Repeat("x", 1<<20): false, "a/b": false, "/": false, "a/": false, "é": false, "a\x00": false, "\xff": false} {
		if Name(s) != want {
			t.Errorf("Name(%v) is not %v", brief(s), want)
		}
	}
}

// modelKind returns the kind of a name by all ends.
func modelKind(name string) uint8 {
	for end, kind := range map[string]uint8{".cer": 1, ".crl": 2, ".mft": 3, ".roa": 4, ".asa": 5} {
		if modelName(name) && len(name) >= 5 && strings.HasSuffix(name, end) {
			return kind
		}
	}
	return 0
}

func TestKind(t *testing.T) {
	long := strings.Repeat("x", 36)
	for s, want := range map[string]uint8{
		"one.cer": api.FileCert, "one.crl": api.FileRevoked, "one.mft": api.FileManifest, "one.roa": api.FileRoute, "one.asa": api.FileProvider,
		"a.cer": api.FileCert, "..crl": api.FileRevoked, "-.mft": api.FileManifest, "a.b.roa": api.FileRoute, "_.asa": api.FileProvider, "A.roa": api.FileRoute, ".cer.crl": api.FileRevoked, "x.cer.cer": api.FileCert, long + ".cer": api.FileCert,
		"": 0, "cer": 0, ".cer": 0, ".crl": 0, ".mft": 0, ".roa": 0, ".asa": 0, "acer": 0, "aacer": 0, "one": 0, "one.": 0, "one.c": 0, "one.ce": 0, "one.cert": 0, "one.CER": 0, "one.Roa": 0, "one.cer ": 0, "one.cer.": 0, "one.gbr": 0, "cer.one": 0, "....": 0, ".....": 0, "..": 0,
		long + "x.cer": 0, strings.Repeat("x", 1<<20) + ".cer": 0, "/.cer": 0, "a/b.cer": 0, " .cer": 0, "a b.roa": 0, "é.roa": 0, "\x00.asa": 0, "\xff.mft": 0, "rsync://h/a.crl": 0,
	} {
		if kind := Kind(s); kind != want || kind != modelKind(s) {
			t.Error(brief(s), kind, want)
		}
	}
	for c := range 256 {
		for _, end := range []string{".cer", ".crl", ".mft", ".roa", ".asa", ".cem", "ccer"} {
			x := string([]byte{byte(c)})
			for _, s := range []string{x + end, "a" + x + end, end + x, "a" + end + x, "ab" + end[:1] + x + end[2:], "ab" + end[:3] + x, "ab" + x + end[1:]} {
				if Kind(s) != modelKind(s) {
					t.Error(brief(s), Kind(s))
				}
			}
		}
	}
}

// P9.3

func TestJoin(t *testing.T) {
	part := strings.Repeat("p", 40)
	ten := "rsync://h/a/b/c/d/e/f/g/h/i/j/"
	for _, c := range []struct {
		dir, name, want string
		e               api.Errno
	}{
		{"rsync://h/", "a", "rsync://h/a", api.OK},
		{"rsync://h/ca/", "x.roa", "rsync://h/ca/x.roa", api.OK},
		{"https://repo.example:8443/a/b/", "...", "https://repo.example:8443/a/b/...", api.OK},
		{"rsync://h/", part, "rsync://h/" + part, api.OK},
		{"rsync://h/a/b/c/d/e/f/g/h/i/", "j", "rsync://h/a/b/c/d/e/f/g/h/i/j", api.OK},
		{ten, "k", "", api.ErrMany},
		{modelText(sized(180, true)), "qqqqqqqqqqqqqqqqqqq", modelText(sized(180, true)) + "qqqqqqqqqqqqqqqqqqq", api.OK},
		{modelText(sized(180, true)), "qqqqqqqqqqqqqqqqqqqq", modelText(sized(180, true)) + "qqqqqqqqqqqqqqqqqqqq", api.OK},
		{modelText(sized(180, true)), "qqqqqqqqqqqqqqqqqqqqq", "", api.ErrMany},
		{modelText(sized(200, true)), "q", "", api.ErrMany},
		{modelText(sized(201, true)), "q", "", api.ErrForm},
		{"", "a", "", api.ErrForm},
		{"", "", "", api.ErrForm},
		{"rsync://h", "a", "", api.ErrForm},
		{"rsync://h/a//", "a", "", api.ErrForm},
		{"rsync://h/../", "", "", api.ErrForm},
		{"https://h:443/", "a", "", api.ErrForm},
		{"ca/", "a", "", api.ErrForm},
		{"rsync://h/ca", "x.roa", "", api.ErrArg},
		{"rsync://h/ca", "", "", api.ErrArg},
		{"rsync://h/a/b/c/d/e/f/g/h/i/j", "k", "", api.ErrArg},
		{modelText(sized(200, false)), "q", "", api.ErrArg},
		{"rsync://h/ca/", "", "", api.ErrArg},
		{"rsync://h/ca/", ".", "", api.ErrArg},
		{"rsync://h/ca/", "..", "", api.ErrArg},
		{"rsync://h/ca/", "a/b", "", api.ErrArg},
		{"rsync://h/ca/", "/a", "", api.ErrArg},
		{"rsync://h/ca/", "a/", "", api.ErrArg},
		{"rsync://h/ca/", "a b", "", api.ErrArg},
		{"rsync://h/ca/", "é", "", api.ErrArg},
		{"rsync://h/ca/", part + "p", "", api.ErrArg},
		{"rsync://h/ca/", strings.Repeat("p", 1<<20), "", api.ErrArg},
		{ten, "..", "", api.ErrArg},
		{modelText(sized(200, true)), "", "", api.ErrArg},
	} {
		if s, e := Join(c.dir, c.name); s != c.want || e != c.e {
			t.Error(brief(c.dir), brief(c.name), brief(s), e, c.e)
		}
	}
}

func TestSplit(t *testing.T) {
	long := modelText(sized(200, false))
	for _, c := range []struct {
		s, dir, name string
		e            api.Errno
	}{
		{"rsync://h/a", "rsync://h/", "a", api.OK},
		{"rsync://h/ca/x.roa", "rsync://h/ca/", "x.roa", api.OK},
		{"https://repo.example:8443/a/b/...", "https://repo.example:8443/a/b/", "...", api.OK},
		{"https://h/a/a", "https://h/a/", "a", api.OK},
		{"rsync://h/a/b/c/d/e/f/g/h/i/j", "rsync://h/a/b/c/d/e/f/g/h/i/", "j", api.OK},
		{long, long[:strings.LastIndex(long, "/")+1], long[strings.LastIndex(long, "/")+1:], api.OK},
		{"rsync://h/", "", "", api.ErrArg},
		{"rsync://h/a/", "", "", api.ErrArg},
		{"https://repo.example:8443/a/b/", "", "", api.ErrArg},
		{modelText(sized(200, true)), "", "", api.ErrArg},
		{"", "", "", api.ErrForm},
		{"a", "", "", api.ErrForm},
		{"a/b", "", "", api.ErrForm},
		{"/", "", "", api.ErrForm},
		{"rsync://h", "", "", api.ErrForm},
		{"rsync://h/a//", "", "", api.ErrForm},
		{"rsync://h//a", "", "", api.ErrForm},
		{"rsync://h/..", "", "", api.ErrForm},
		{"rsync://h:873/a", "", "", api.ErrForm},
		{"rsync://h/a/b/c/d/e/f/g/h/i/j/k", "", "", api.ErrForm},
		{modelText(sized(201, false)), "", "", api.ErrForm},
		{strings.Repeat("/a", 1<<20), "", "", api.ErrForm},
	} {
		if dir, name, e := Split(c.s); dir != c.dir || name != c.name || e != c.e {
			t.Error(brief(c.s), brief(dir), brief(name), e, c.e)
		}
	}
}

func TestWithin(t *testing.T) {
	for _, c := range []struct {
		dir, s string
		is     bool
		e      api.Errno
	}{
		{"rsync://h/", "rsync://h/", true, api.OK},
		{"rsync://h/", "rsync://h/a", true, api.OK},
		{"rsync://h/", "rsync://h/a/", true, api.OK},
		{"rsync://h/", "rsync://h/a/b/c", true, api.OK},
		{"rsync://h/ca/", "rsync://h/ca/", true, api.OK},
		{"rsync://h/ca/", "rsync://h/ca/x.roa", true, api.OK},
		{"rsync://h/ca/", "rsync://h/ca/b/c/", true, api.OK},
		{"rsync://h/ca/", "rsync://h/ca", false, api.OK},
		{"rsync://h/ca/", "rsync://h/", false, api.OK},
		{"rsync://h/ca/b/", "rsync://h/ca/", false, api.OK},
		{"rsync://h/c/", "rsync://h/ca/x.roa", false, api.OK},
		{"rsync://h/c/", "rsync://h/ca/", false, api.OK},
		{"rsync://h/ca/", "rsync://h/c/a/", false, api.OK},
		{"rsync://h/ca/", "rsync://h/b/ca/", false, api.OK},
		{"rsync://h/ca/", "rsync://h/CA/a", false, api.OK},
		{"rsync://h/ca/", "https://h/ca/a", false, api.OK},
		{"https://h/", "rsync://h/", false, api.OK},
		{"rsync://h/", "rsync://h2/", false, api.OK},
		{"rsync://h2/", "rsync://h/", false, api.OK},
		{"rsync://h/", "rsync://h.b/a", false, api.OK},
		{"rsync://h:1/ca/", "rsync://h/ca/a", false, api.OK},
		{"rsync://h/ca/", "rsync://h:1/ca/a", false, api.OK},
		{"rsync://h:1/ca/", "rsync://h:12/ca/a", false, api.OK},
		{"rsync://h:1/ca/", "rsync://h:1/ca/a", true, api.OK},
		{"rsync://h/ca", "rsync://h/ca/a", false, api.ErrArg},
		{"rsync://h/ca", "rsync://h/ca", false, api.ErrArg},
		{"rsync://h/ca", "https://other/", false, api.ErrArg},
		{"rsync://h/ca", "", false, api.ErrForm},
		{"rsync://h/ca", "rsync://h/ca//", false, api.ErrForm},
		{"rsync://h/ca/", "ca/x.roa", false, api.ErrForm},
		{"rsync://h/ca/", "rsync://h/ca/../", false, api.ErrForm},
		{"rsync://h/ca/", "rsync://h/ca//a", false, api.ErrForm},
		{"rsync://h/ca/", "rsync://h/ca/ ", false, api.ErrForm},
		{"", "rsync://h/ca/", false, api.ErrForm},
		{"", "", false, api.ErrForm},
		{"rsync://h", "rsync://h/a", false, api.ErrForm},
		{"rsync://", "rsync://h/a", false, api.ErrForm},
		{"rsync://h/ca//", "rsync://h/ca//", false, api.ErrForm},
		{"https://h:443/", "https://h/", false, api.ErrForm},
	} {
		if is, e := Within(c.dir, c.s); is != c.is || e != c.e {
			t.Error(c.dir, c.s, is, e)
		}
	}
}

// near returns locators in few places, of which many contain others, and some that are not valid.
func near() []string {
	out := []string{"", "rsync://h", "rsync://h//", "rsync://h/../", "https://h:443/"}
	for _, start := range []string{"rsync://h", "https://h", "rsync://h:1", "rsync://h:11", "rsync://a.h"} {
		for _, path := range []string{"/", "/a", "/a/", "/a/a", "/a/a/", "/a/aa", "/a/aa/", "/aa", "/aa/", "/aa/a/", "/a/b/a", "/a/a/a/", "/a.a/", "/A/"} {
			out = append(out, start+path)
		}
	}
	return out
}

func TestWithinAgainstModel(t *testing.T) {
	for _, dir := range near() {
		for _, s := range near() {
			d, isD := modelParse(dir)
			l, isL := modelParse(s)
			want, wantError := false, api.OK
			switch {
			case !isD || !isL:
				wantError = api.ErrForm
			case !d.Dir:
				wantError = api.ErrArg
			default:
				want = modelWithin(d, l)
			}
			if is, e := Within(dir, s); is != want || e != wantError {
				t.Error(dir, s, is, e, want, wantError)
			}
		}
	}
}

// P9.4

func TestThereAndBack(t *testing.T) {
	for _, l := range someLocators(20000) {
		s, e := Text(l)
		k, f := Parse(s)
		if e != api.OK || f != api.OK || s != modelText(l) || !same(k, l) {
			t.Fatal(l, brief(s), e, k, f)
		}
	}
	r := rand.New(rand.NewSource(3))
	for _, l := range someLocators(20000) {
		s := spoiled(r, modelText(l))
		k, e := Parse(s)
		if again, f := Text(k); e == api.OK && (f != api.OK || again != s) {
			t.Fatal(brief(s), k, brief(again), f)
		}
	}
}

func TestSplitOfJoin(t *testing.T) {
	r := rand.New(rand.NewSource(4))
	for _, l := range someLocators(20000) {
		l.Dir = true
		if modelCheck(l) != api.OK { // a file may be too long as a directory
			continue
		}
		dir, name := modelText(l), somePart(r)
		file := api.Locator{Scheme: l.Scheme, Host: l.Host, Port: l.Port, Parts: append(slices.Clone(l.Parts), name)}
		s, e := Join(dir, name)
		if e != modelCheck(file) {
			t.Fatal(brief(dir), name, e)
		}
		if e != api.OK {
			continue
		}
		again, last, e := Split(s)
		is, f := Within(dir, s)
		if s != dir+name || e != api.OK || again != dir || last != name || f != api.OK || !is {
			t.Fatal(brief(dir), name, brief(s), brief(again), last, e, is, f)
		}
	}
}

func TestJoinOfSplit(t *testing.T) {
	for _, l := range someLocators(20000) {
		s := modelText(l)
		dir, name, e := Split(s)
		if l.Dir {
			if e != api.ErrArg || dir != "" || name != "" {
				t.Fatal(brief(s), dir, name, e)
			}
			continue
		}
		again, f := Join(dir, name)
		is, g := Within(dir, s)
		if e != api.OK || f != api.OK || again != s || !is || g != api.OK {
			t.Fatal(brief(s), dir, name, e, brief(again), f, is, g)
		}
	}
}

// TestPartialOrder holds containing directories against the laws of a partial order.
func TestPartialOrder(t *testing.T) {
	dirs := slices.DeleteFunc(near(), func(s string) bool {
		l, is := modelParse(s)
		return !is || !l.Dir
	})
	in := func(a, b string) bool {
		is, e := Within(a, b)
		if e != api.OK {
			t.Fatal(a, b, e)
		}
		return is
	}
	for _, a := range dirs {
		if !in(a, a) {
			t.Error(a)
		}
		for _, b := range dirs {
			if in(a, b) && in(b, a) && a != b {
				t.Error(a, b)
			}
			for _, c := range dirs {
				if in(a, b) && in(b, c) && !in(a, c) {
					t.Error(a, b, c)
				}
			}
		}
	}
}

// R2

func TestOnlyRead(t *testing.T) {
	for n := range 14 {
		room := slices.Repeat([]string{"a"}, n+3)
		room[n] = "behind"
		for _, dir := range []bool{false, true} {
			l := api.Locator{Scheme: 1, Host: "h", Parts: room[:n], Dir: dir}
			before := slices.Clone(room)
			Check(l)
			Text(l)
			if !slices.Equal(room, before) {
				t.Error(n, dir, room)
			}
		}
	}
}

func TestNothingShared(t *testing.T) {
	s := "rsync://h/a/b"
	k, _ := Parse(s)
	l, _ := Parse(s)
	for i := range k.Parts[:cap(k.Parts)] {
		k.Parts[:cap(k.Parts)][i] = "spoiled"
	}
	m, _ := Parse(s)
	if want, _ := modelParse(s); !same(l, want) || !same(m, want) {
		t.Error(l, m)
	}
}
