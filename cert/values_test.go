package cert

import (
	"math"
	"math/rand"
	"slices"
	"strings"

	"gatepath/api"
)

// minimal is the certificate of the chapter's example.
func minimal() api.Cert {
	return api.Cert{Serial: 1, Issuer: "a", Subject: "b", Valid: api.Window{To: 9}}
}

// authority is a certificate in which each field is set, but for Inherit and Sig.
func authority() api.Cert {
	last := api.Addr{High: math.MaxUint64, Low: math.MaxUint64}
	return api.Cert{
		Serial: 300, Issuer: "root", Subject: "net-1", Valid: api.Window{From: 1000, To: 2000}, Key: api.PublicKey{Root: counted(), Height: 2}, Ca: true,
		Res: api.Resources{
			V4: []api.Span{{From: api.Addr{Low: 10 << 24}, To: api.Addr{Low: 11<<24 - 1}}, {From: api.Addr{Low: 0xc0000200}, To: api.Addr{Low: 0xc00002ff}}},
			V6: []api.Span{{From: api.Addr{High: 0x20010db8 << 32}, To: api.Addr{High: 0x20010db9<<32 - 1, Low: math.MaxUint64}}, {From: last, To: last}},
			As: []api.AsSpan{{}, {From: 64500, To: 64511}, {From: math.MaxUint32, To: math.MaxUint32}},
		},
		Repo: "rsync://repo.example/net-1/", Manifest: "rsync://repo.example/net-1/net-1.mft", Notify: "https://repo.example/n.xml",
		Crl: "rsync://repo.example/root/root.crl", Parent: "rsync://repo.example/root.cer",
	}
}

// heir is a certificate with the resources of its issuer, and a signature.
func heir() api.Cert {
	c := authority()
	c.Ca, c.Inherit, c.Res, c.Sig = false, true, api.Resources{}, fitting(3, 6)
	return c
}

// manyAddrs returns a normal list of n spans of a family, of as many bytes each as they may have.
func manyAddrs(family uint8, n int) []api.Span {
	var list []api.Span
	for i := range uint64(n) {
		if family == api.Family4 {
			list = append(list, api.Span{From: api.Addr{Low: 1<<31 + 2*i}, To: api.Addr{Low: 1<<31 + 2*i}})
		} else {
			list = append(list, api.Span{From: api.Addr{High: 1<<63 + i, Low: math.MaxUint64 - 1}, To: api.Addr{High: 1<<63 + i, Low: math.MaxUint64 - 1}})
		}
	}
	return list
}

// manySystems returns a normal list of n spans of numbers of systems.
func manySystems(n int) []api.AsSpan {
	var list []api.AsSpan
	for i := range uint32(n) {
		list = append(list, api.AsSpan{From: 1<<31 + 3*i, To: 1<<31 + 3*i + 1})
	}
	return list
}

// placed returns the string of a locator of n bytes, of at least 100.
func placed(n int, begin, end string) string {
	part := strings.Repeat("x", 39)
	s := begin + strings.Repeat(part+"/", 5)
	return s[:n-len(end)-2] + "yz" + end
}

// full is a certificate whose encoding is as long as one can be.
func full() api.Cert {
	return api.Cert{
		Serial: math.MaxUint64, Issuer: strings.Repeat("Z", 40), Subject: strings.Repeat("-", 40), Valid: api.Window{From: api.MaxTime, To: api.MaxTime}, Key: api.PublicKey{Root: counted(), Height: 4}, Ca: true,
		Res:  api.Resources{V4: manyAddrs(api.Family4, 200), V6: manyAddrs(api.Family6, 200), As: manySystems(200)},
		Repo: placed(200, "https://repo.example:8443/", "/"), Manifest: placed(200, "rsync://repo.example/", ".mft"), Notify: placed(200, "https://repo.example/", ".xml"), Crl: placed(200, "https://repo.example/", ".crl"), Parent: placed(200, "rsync://repo.example/", ".cer"),
		Sig: fitting(4, 15),
	}
}

// edit changes a certificate, which may share its lists with others.
type edit func(c *api.Cert)

// changed returns a certificate with a change.
func changed(c api.Cert, change edit) api.Cert {
	c.Res = api.Resources{V4: slices.Clone(c.Res.V4), V6: slices.Clone(c.Res.V6), As: slices.Clone(c.Res.As)}
	c.Sig = api.KeySig{Index: c.Sig.Index, Chains: slices.Clone(c.Sig.Chains), Path: slices.Clone(c.Sig.Path)}
	change(&c)
	return c
}

// bodyEdits make other valid certificates with other bodies of authority, no two of them the same.
func bodyEdits() []edit {
	return []edit{
		func(c *api.Cert) { c.Serial = 1 },
		func(c *api.Cert) { c.Serial = 301 },
		func(c *api.Cert) { c.Serial = math.MaxUint64 },
		func(c *api.Cert) { c.Issuer = "Root" },
		func(c *api.Cert) { c.Issuer = strings.Repeat("r", 40) },
		func(c *api.Cert) { c.Subject = "n" },
		func(c *api.Cert) { c.Subject = strings.Repeat("_", 40) },
		func(c *api.Cert) { c.Issuer, c.Subject = c.Subject, c.Issuer },
		func(c *api.Cert) { c.Subject = c.Issuer },
		func(c *api.Cert) { c.Valid.From = 0 },
		func(c *api.Cert) { c.Valid.From = c.Valid.To },
		func(c *api.Cert) { c.Valid.To = c.Valid.From },
		func(c *api.Cert) { c.Valid.To = 1 << 40 },
		func(c *api.Cert) { c.Valid = api.Window{} },
		func(c *api.Cert) { c.Valid = api.Window{From: 1 << 40, To: 1 << 40} },
		func(c *api.Cert) { c.Key.Root = api.Short{} },
		func(c *api.Cert) { c.Key.Root[15] ^= 128 },
		func(c *api.Cert) { c.Key.Height = 0 },
		func(c *api.Cert) { c.Key.Height = 1 },
		func(c *api.Cert) { c.Key.Height = 3 },
		func(c *api.Cert) { c.Key.Height = 4 },
		func(c *api.Cert) { c.Ca = false },
		func(c *api.Cert) { c.Inherit, c.Res = true, api.Resources{} },
		func(c *api.Cert) { c.Ca, c.Inherit, c.Res = false, true, api.Resources{} },
		func(c *api.Cert) { c.Res = api.Resources{} },
		func(c *api.Cert) { c.Res.V4 = nil },
		func(c *api.Cert) { c.Res.V6 = []api.Span{} },
		func(c *api.Cert) { c.Res.As = nil },
		func(c *api.Cert) { c.Res.V4, c.Res.V6 = nil, c.Res.V4 },
		func(c *api.Cert) { c.Res.V4 = c.Res.V4[:1] },
		func(c *api.Cert) { c.Res.V4[1].To.Low++ },
		func(c *api.Cert) { c.Res.V4 = []api.Span{{To: api.Addr{Low: math.MaxUint32}}} },
		func(c *api.Cert) { c.Res.V4 = manyAddrs(api.Family4, 200) },
		func(c *api.Cert) { c.Res.V6[0].From.Low++ },
		func(c *api.Cert) { c.Res.V6[0].From.High++ },
		func(c *api.Cert) { c.Res.V6[0].To.High++ },
		func(c *api.Cert) { c.Res.V6 = []api.Span{{To: api.Addr{High: math.MaxUint64, Low: math.MaxUint64}}} },
		func(c *api.Cert) { c.Res.V6 = manyAddrs(api.Family6, 200) },
		func(c *api.Cert) { c.Res.As[1].From-- },
		func(c *api.Cert) { c.Res.As[1].To++ },
		func(c *api.Cert) { c.Res.As = []api.AsSpan{{To: math.MaxUint32}} },
		func(c *api.Cert) { c.Res.As = manySystems(200) },
		func(c *api.Cert) { c.Repo = "" },
		func(c *api.Cert) { c.Repo = "https://repo.example/" },
		func(c *api.Cert) { c.Repo = placed(200, "rsync://repo.example/", "/") },
		func(c *api.Cert) { c.Manifest = "" },
		func(c *api.Cert) { c.Manifest = "https://h:1/x" },
		func(c *api.Cert) { c.Manifest = placed(200, "rsync://repo.example/", ".mft") },
		func(c *api.Cert) { c.Notify = "" },
		func(c *api.Cert) { c.Notify = "https://h/x" },
		func(c *api.Cert) { c.Notify = placed(200, "https://repo.example/", ".xml") },
		func(c *api.Cert) { c.Crl = "" },
		func(c *api.Cert) { c.Crl = "https://h:65535/x" },
		func(c *api.Cert) { c.Crl = placed(200, "rsync://repo.example/", ".crl") },
		func(c *api.Cert) { c.Parent = "" },
		func(c *api.Cert) { c.Parent = "https://h/x/y" },
		func(c *api.Cert) { c.Parent = placed(200, "https://repo.example/", ".cer") },
		func(c *api.Cert) { c.Crl, c.Parent = c.Parent, c.Crl },
		func(c *api.Cert) { c.Manifest, c.Crl = c.Crl, c.Manifest },
		func(c *api.Cert) { c.Manifest, c.Notify = c.Notify, "" },
		func(c *api.Cert) { c.Notify, c.Crl = "", c.Notify },
	}
}

// sigEdits make other valid certificates of those without a signature, no two of them the same.
func sigEdits() []edit {
	var list []edit
	for height := range api.MaxHeight + 1 {
		for index := range 1 << height {
			list = append(list, func(c *api.Cert) { c.Sig = fitting(height, index) })
		}
		list = append(list, func(c *api.Cert) {
			c.Sig = api.KeySig{Chains: make([]api.Short, api.OneChains), Path: make([]api.Short, height)}
		})
	}
	return list
}

// badEdits make certificates that are not valid of authority, because of one field.
func badEdits() []edit {
	return slices.Concat(badFields(), badResources(), badPlaces(), badSigs())
}

func badFields() []edit {
	list := []edit{func(c *api.Cert) { c.Serial = 0 }}
	for _, s := range []string{"", " ", "a b", "a.b", "a/b", "\x00", "é", "a\n", "-\xff", strings.Repeat("a", 41), strings.Repeat("a", 100000)} {
		list = append(list, func(c *api.Cert) { c.Issuer = s }, func(c *api.Cert) { c.Subject = s })
	}
	for _, w := range []api.Window{{From: -1, To: 5}, {From: -1, To: -1}, {From: 6, To: 5}, {From: 1<<40 + 1, To: 1<<40 + 1}, {To: 1<<40 + 1}, {From: 1 << 40}, {From: math.MinInt64}, {To: math.MaxInt64}, {From: math.MaxInt64, To: math.MinInt64}} {
		list = append(list, func(c *api.Cert) { c.Valid = w })
	}
	for _, height := range []int{-1, 5, 6, 64, 255, 256, 1 << 32, 1<<32 + 1, math.MinInt, math.MaxInt} {
		list = append(list, func(c *api.Cert) { c.Key.Height = height })
	}
	return list
}

func badResources() []edit {
	return []edit{
		func(c *api.Cert) { c.Inherit = true },
		func(c *api.Cert) { c.Inherit, c.Res.V4, c.Res.V6 = true, nil, nil },
		func(c *api.Cert) { c.Inherit, c.Res.V4, c.Res.As = true, nil, nil },
		func(c *api.Cert) { c.Inherit, c.Res.V6, c.Res.As = true, nil, nil },
		func(c *api.Cert) { c.Res.V4[0], c.Res.V4[1] = c.Res.V4[1], c.Res.V4[0] },
		func(c *api.Cert) { c.Res.V4[1].From.Low = 11 << 24 },
		func(c *api.Cert) { c.Res.V4[1].From.Low = 11<<24 - 1 },
		func(c *api.Cert) { c.Res.V4[1] = c.Res.V4[0] },
		func(c *api.Cert) { c.Res.V4[0].To.Low = c.Res.V4[0].From.Low - 1 },
		func(c *api.Cert) { c.Res.V4[1].To.Low = 1 << 32 },
		func(c *api.Cert) { c.Res.V4[1].To.High = 1 },
		func(c *api.Cert) { c.Res.V4 = append(manyAddrs(api.Family4, 199), api.Span{}) },
		func(c *api.Cert) { c.Res.V6[0], c.Res.V6[1] = c.Res.V6[1], c.Res.V6[0] },
		func(c *api.Cert) { c.Res.V6[0].To = api.Addr{High: math.MaxUint64, Low: math.MaxUint64 - 1} },
		func(c *api.Cert) { c.Res.V6[1].To.Low-- },
		func(c *api.Cert) { c.Res.V6 = append(manyAddrs(api.Family6, 199), api.Span{}) },
		func(c *api.Cert) { c.Res.As[1].From = 1 },
		func(c *api.Cert) { c.Res.As[2].From = 64512 },
		func(c *api.Cert) { c.Res.As[1].To = 64499 },
		func(c *api.Cert) { c.Res.As = append(manySystems(199), api.AsSpan{}) },
	}
}

func badPlaces() []edit {
	var list []edit
	const rsyncDir, httpsDir, rsyncFile, httpsFile = "rsync://h/d/", "https://h/", "rsync://h/f", "https://h/d/f"
	none := []string{"/", " ", "h", "rsync:", "rsync://", "https://h", "rsync://H/f", "rsync://h//f", "rsync://h/../f", "https://h:443/f", "http://h/f", " https://h/f", "https://h/f ", "https://h/f\n", placed(201, "https://h/", ".cer"), placed(201, "https://h/", "/"), "https://h/" + strings.Repeat("x", 100000)}
	for _, s := range append(none, rsyncFile, httpsFile) {
		list = append(list, func(c *api.Cert) { c.Repo = s })
	}
	for _, s := range append(none, rsyncDir, httpsDir) {
		list = append(list, func(c *api.Cert) { c.Manifest = s }, func(c *api.Cert) { c.Crl = s }, func(c *api.Cert) { c.Parent = s })
	}
	for _, s := range append(none, rsyncDir, httpsDir, rsyncFile) {
		list = append(list, func(c *api.Cert) { c.Notify = s })
	}
	return list
}

func badSigs() []edit {
	list := []edit{
		func(c *api.Cert) { c.Sig.Index = 1 },
		func(c *api.Cert) { c.Sig.Index = -1 },
		func(c *api.Cert) { c.Sig.Path = make([]api.Short, 1) },
		func(c *api.Cert) { c.Sig.Chains = make([]api.Short, 1) },
		func(c *api.Cert) { c.Sig.Path = make([]api.Short, 35) },
		func(c *api.Cert) { c.Sig = fitting(5, 0) },
		func(c *api.Cert) { c.Sig = fitting(5, 31) },
		func(c *api.Cert) { c.Sig = fitting(35, 0) },
		func(c *api.Cert) { c.Sig = fitting(1000, 0) },
	}
	for height := range api.MaxHeight + 1 {
		for _, n := range []int{0, 1, 34, 36, 70, 1000} {
			list = append(list, func(c *api.Cert) {
				c.Sig = fitting(height, 0)
				c.Sig.Chains = slices.Repeat(c.Sig.Chains, 30)[:n]
				c.Sig.Index = 1<<height - 1
				if n == 0 && height == 0 {
					c.Sig.Index = 1 // without it, the signature is empty
				}
			})
		}
		for _, index := range []int{-1, -2, 1 << height, 1<<height + 1, 16, 31, 256, 1 << 32, 1<<32 + 1, math.MinInt, math.MaxInt} {
			list = append(list, func(c *api.Cert) { c.Sig = fitting(height, index) })
		}
	}
	return list
}

// manyEdits make certificates with too many spans, some of which are not valid otherwise either, of any.
func manyEdits() []edit {
	return []edit{
		func(c *api.Cert) { c.Res.V4 = manyAddrs(api.Family4, 201) },
		func(c *api.Cert) { c.Res.V6 = manyAddrs(api.Family6, 201) },
		func(c *api.Cert) { c.Res.As = manySystems(201) },
		func(c *api.Cert) { c.Res.V4 = make([]api.Span, 201) },
		func(c *api.Cert) { c.Res.V6 = make([]api.Span, 1000) },
		func(c *api.Cert) { c.Res.As = make([]api.AsSpan, 100000) },
		func(c *api.Cert) { *c = api.Cert{Inherit: true, Res: api.Resources{As: manySystems(201)}} },
	}
}

// validCerts are valid certificates of all kinds.
func validCerts() []api.Cert {
	list := []api.Cert{minimal(), authority(), heir(), full()}
	for _, change := range bodyEdits() {
		list = append(list, changed(authority(), change))
	}
	for _, change := range sigEdits() {
		list = append(list, changed(authority(), change), changed(minimal(), change))
	}
	r := rand.New(rand.NewSource(1))
	for range 100 {
		list = append(list, random(r))
	}
	return list
}

// wrongCerts are certificates that are not valid.
func wrongCerts() []api.Cert {
	list := []api.Cert{{}}
	for _, change := range slices.Concat(badEdits(), manyEdits()) {
		list = append(list, changed(authority(), change))
	}
	for _, many := range manyEdits() {
		for _, bad := range badFields() {
			list = append(list, changed(changed(authority(), bad), many))
		}
	}
	return list
}

// random returns a valid certificate.
func random(r *rand.Rand) api.Cert {
	pick := func(list ...string) string { return list[r.Intn(len(list))] }
	height := r.Intn(5)
	c := api.Cert{
		Serial: 1 + r.Uint64()>>r.Intn(64)>>1, Issuer: pick("a", "root", "A_b-9"), Subject: pick("a", "x", strings.Repeat("0", 40)), Valid: api.Window{From: r.Int63n(1 << r.Intn(40)), To: 1<<40 - r.Int63n(1<<r.Intn(39))},
		Key: api.PublicKey{Root: someShort(r), Height: r.Intn(5)}, Ca: r.Intn(2) == 0, Inherit: r.Intn(4) == 0,
		Repo: pick("", "rsync://h/", "https://h:80/a/b/"), Manifest: pick("", "rsync://h/f", "https://h/d/f.mft"), Notify: pick("", "https://h/f", "https://h:80/d/f"), Crl: pick("", "rsync://h/f", "https://h/d/f.crl"), Parent: pick("", "rsync://h/f", "https://h/d/f.cer"),
	}
	if r.Intn(3) > 0 {
		c.Sig = fitting(height, r.Intn(1<<height))
	}
	if c.Inherit {
		return c
	}
	for n, at := r.Intn(4), uint64(0); n > 0; n-- {
		at += 2 + r.Uint64()>>r.Intn(16)>>36
		c.Res.V4 = append(c.Res.V4, api.Span{From: api.Addr{Low: at}, To: api.Addr{Low: at + uint64(n)}})
		c.Res.V6 = append(c.Res.V6, api.Span{From: api.Addr{High: at << 20, Low: r.Uint64()}, To: api.Addr{High: at<<20 + 5, Low: r.Uint64()}})
		c.Res.As = append(c.Res.As, api.AsSpan{From: uint32(at), To: uint32(at) + uint32(n)})
		at += uint64(n)
	}
	return c
}
