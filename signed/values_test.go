package signed

import (
	"math"
	"math/rand"
	"slices"
	"strings"

	"gatepath/api"
)

// example is the object of the chapter's example.
func example() api.SignedObj {
	return api.SignedObj{Kind: api.ObjRoute, Content: []byte{7, 8}, Ee: api.Cert{Serial: 1, Issuer: "a", Subject: "b", Valid: api.Window{To: 9}}}
}

// plain is a valid object with nothing that it need not have.
func plain() api.SignedObj {
	return api.SignedObj{Kind: api.ObjManifest, Ee: api.Cert{Serial: 9, Issuer: "_", Subject: "-"}}
}

// usual is an object of which the certificate is as it is usually, but for its key, and signed by nobody; the object is not signed either.
func usual() api.SignedObj {
	return api.SignedObj{Kind: api.ObjProvider, Content: []byte("content"), Ee: api.Cert{
		Serial: 70000, Issuer: "net-1", Subject: "Object_17", Valid: api.Window{From: 50, To: 1 << 40}, Key: api.PublicKey{Root: counted(), Height: 2}, Inherit: true,
		Crl: "rsync://repo.example/net-1/net-1.crl", Parent: "rsync://repo.example/root/net-1.cer",
	}}
}

// signedUsual is usual with signatures of both, of other heights than that of the key.
func signedUsual() api.SignedObj {
	o := usual()
	o.Ee.Sig, o.Sig = fitting(3, 6), fitting(1, 1)
	return o
}

// fullCert is a certificate whose encoding is as long as one can be.
func fullCert() api.Cert {
	place := func(begin, end string) string {
		s := begin + strings.Repeat(strings.Repeat("x", 39)+"/", 5)
		return s[:198-len(end)] + "yz" + end
	}
	c := api.Cert{
		Serial: math.MaxUint64, Issuer: strings.Repeat("Z", 40), Subject: strings.Repeat("-", 40), Valid: api.Window{From: 1 << 40, To: 1 << 40}, Key: api.PublicKey{Root: counted(), Height: 4}, Ca: true,
		Repo: place("https://repo.example:8443/", "/"), Manifest: place("rsync://repo.example/", ".mft"), Notify: place("https://repo.example/", ".xml"), Crl: place("https://repo.example/", ".crl"), Parent: place("rsync://repo.example/", ".cer"),
		Sig: fitting(4, 15),
	}
	c.Res = manySpans(200)
	return c
}

// manySpans returns resources of n spans in each list, of as many bytes each as they may have.
func manySpans(n int) api.Resources {
	var res api.Resources
	for i := range uint64(n) {
		v4, v6 := api.Addr{Low: 1<<31 + 2*i}, api.Addr{High: 1<<63 + i, Low: math.MaxUint64 - 1}
		res.V4 = append(res.V4, api.Span{From: v4, To: v4})
		res.V6 = append(res.V6, api.Span{From: v6, To: v6})
		res.As = append(res.As, api.AsSpan{From: uint32(1<<31 + 3*i), To: uint32(1<<31 + 3*i + 1)})
	}
	return res
}

// content returns n bytes, of all kinds if there are many.
func content(n int) []byte {
	b := make([]byte, n)
	for i := range b {
		b[i] = byte(i*i + i/251)
	}
	return b
}

// full is an object whose encoding is as long as one can be.
func full() api.SignedObj {
	return api.SignedObj{Kind: api.ObjProvider, Content: content(32768), Ee: fullCert(), Sig: fitting(4, 15)}
}

// edit changes an object, which may share its lists with others.
type edit func(o *api.SignedObj)

// changed returns an object with changes, one after the other.
func changed(o api.SignedObj, changes ...edit) api.SignedObj {
	res := o.Ee.Res
	o.Content = slices.Clone(o.Content)
	o.Ee.Res = api.Resources{V4: slices.Clone(res.V4), V6: slices.Clone(res.V6), As: slices.Clone(res.As)}
	for _, sig := range []*api.KeySig{&o.Ee.Sig, &o.Sig} {
		sig.Chains, sig.Path = slices.Clone(sig.Chains), slices.Clone(sig.Path)
	}
	for _, change := range changes {
		change(&o)
	}
	return o
}

// bodyEdits make other valid objects with other bodies of usual, no two of them the same.
func bodyEdits() []edit {
	list := []edit{
		func(o *api.SignedObj) { o.Kind = 1 },
		func(o *api.SignedObj) { o.Kind = 2 },
		func(o *api.SignedObj) { o.Content[0]++ },
		func(o *api.SignedObj) { o.Content[6] ^= 128 },
		func(o *api.SignedObj) { o.Content = o.Content[:6] },
		func(o *api.SignedObj) { o.Content = o.Content[1:] },
		func(o *api.SignedObj) { o.Content = append(o.Content, 0) },
		func(o *api.SignedObj) { slices.Reverse(o.Content) },
		func(o *api.SignedObj) { o.Ee.Serial = 1 },
		func(o *api.SignedObj) { o.Ee.Serial = 69999 },
		func(o *api.SignedObj) { o.Ee.Serial = 70000 << 8 },
		func(o *api.SignedObj) { o.Ee.Serial = math.MaxUint64 },
		func(o *api.SignedObj) { o.Ee.Issuer = "net-2" },
		func(o *api.SignedObj) { o.Ee.Issuer = "net-" },
		func(o *api.SignedObj) { o.Ee.Issuer = strings.Repeat("n", 40) },
		func(o *api.SignedObj) { o.Ee.Subject = "object_17" },
		func(o *api.SignedObj) { o.Ee.Subject = "O" },
		func(o *api.SignedObj) { o.Ee.Subject = strings.Repeat("0", 40) },
		func(o *api.SignedObj) { o.Ee.Subject = o.Ee.Issuer },
		func(o *api.SignedObj) { o.Ee.Issuer, o.Ee.Subject = o.Ee.Subject, o.Ee.Issuer },
	}
	for _, n := range []int{0, 1, 5, 127, 128, 255, 256, 300, 32767, 32768} {
		list = append(list, func(o *api.SignedObj) { o.Content = content(n) })
	}
	return list
}

// eeEdits make other valid objects of usual and the like, whose certificates differ in what is not in the body, and not the key; no two of them the same.
func eeEdits() []edit {
	list := []edit{
		func(o *api.SignedObj) { o.Ee.Valid = api.Window{} },
		func(o *api.SignedObj) { o.Ee.Valid.From-- },
		func(o *api.SignedObj) { o.Ee.Ca = true },
		func(o *api.SignedObj) { o.Ee.Inherit = false },
		func(o *api.SignedObj) { o.Ee.Inherit, o.Ee.Res = false, manySpans(200) },
		func(o *api.SignedObj) { o.Ee.Inherit, o.Ee.Res.As = false, []api.AsSpan{{To: 5}} },
		func(o *api.SignedObj) { o.Ee.Repo = "https://repo.example/" },
		func(o *api.SignedObj) { o.Ee.Manifest = "rsync://h/x" },
		func(o *api.SignedObj) { o.Ee.Notify = "https://h/x" },
		func(o *api.SignedObj) { o.Ee.Crl = "" },
		func(o *api.SignedObj) { o.Ee.Parent = "" },
	}
	for height := range 5 {
		list = append(list,
			func(o *api.SignedObj) { o.Ee.Sig = fitting(height, 0) },
			func(o *api.SignedObj) { o.Ee.Sig = fitting(height, 1<<height-1); o.Ee.Sig.Chains[0] = api.Short{} })
	}
	return list
}

// keyEdits make other valid objects of usual and the like, whose certificates have other keys.
func keyEdits() []edit {
	list := []edit{
		func(o *api.SignedObj) { o.Ee.Key = api.PublicKey{} },
		func(o *api.SignedObj) { o.Ee.Key.Root[0] ^= 1 },
		func(o *api.SignedObj) { o.Ee.Key.Root[15] ^= 128 },
	}
	for _, height := range []int{0, 1, 3, 4} {
		list = append(list, func(o *api.SignedObj) { o.Ee.Key.Height = height })
	}
	return list
}

// sigEdits make other valid objects of those without a signature, no two of them the same.
func sigEdits() []edit {
	var list []edit
	for height := range 5 {
		for index := range 1 << height {
			list = append(list, func(o *api.SignedObj) { o.Sig = fitting(height, index) })
		}
		list = append(list, func(o *api.SignedObj) {
			o.Sig = api.KeySig{Chains: make([]api.Short, 35), Path: make([]api.Short, height)}
		})
	}
	return list
}

// badKinds make objects with kinds that there are not, of any.
func badKinds() []edit {
	var list []edit
	for _, kind := range []uint8{0, 4, 5, 129, 130, 131, 255} {
		list = append(list, func(o *api.SignedObj) { o.Kind = kind })
	}
	return list
}

// badCerts make objects with certificates that are not valid of usual and the like.
func badCerts() []edit {
	list := []edit{
		func(o *api.SignedObj) { o.Ee = api.Cert{} },
		func(o *api.SignedObj) { o.Ee.Serial = 0 },
		func(o *api.SignedObj) { o.Ee.Issuer = "" },
		func(o *api.SignedObj) { o.Ee.Issuer = "a b" },
		func(o *api.SignedObj) { o.Ee.Subject = "" },
		func(o *api.SignedObj) { o.Ee.Subject = strings.Repeat("s", 41) },
		func(o *api.SignedObj) { o.Ee.Valid.From = 1<<40 + 1 },
		func(o *api.SignedObj) { o.Ee.Valid.From = -1 },
		func(o *api.SignedObj) { o.Ee.Key.Height = -1 },
		func(o *api.SignedObj) { o.Ee.Key.Height = 5 },
		func(o *api.SignedObj) { o.Ee.Res.As = []api.AsSpan{{}} },
		func(o *api.SignedObj) { o.Ee.Inherit, o.Ee.Res.V4 = false, make([]api.Span, 2) },
		func(o *api.SignedObj) { o.Ee.Repo = "rsync://h/f" },
		func(o *api.SignedObj) { o.Ee.Manifest = "/" },
		func(o *api.SignedObj) { o.Ee.Notify = "rsync://h/f" },
		func(o *api.SignedObj) { o.Ee.Crl = "https://h/" },
		func(o *api.SignedObj) { o.Ee.Parent = " " },
	}
	for _, sig := range wrongSigs() {
		list = append(list, func(o *api.SignedObj) { o.Ee.Sig = sig })
	}
	return list
}

// badSigs make objects whose signature is not well-formed, of any.
func badSigs() []edit {
	var list []edit
	for _, sig := range wrongSigs() {
		list = append(list, func(o *api.SignedObj) { o.Sig = sig })
	}
	return list
}

// wrongSigs are signatures that are not well-formed.
func wrongSigs() []api.KeySig {
	sigs := []api.KeySig{
		{Index: 1}, {Index: -1}, {Index: math.MinInt},
		{Chains: make([]api.Short, 1)}, {Path: make([]api.Short, 1)}, {Path: make([]api.Short, 4)}, {Path: make([]api.Short, 35)},
		fitting(5, 0), fitting(5, 31), fitting(35, 0), fitting(1000, 1),
	}
	for height := range 5 {
		for _, n := range []int{1, 34, 36, 70, 1000} {
			sig := fitting(height, 1<<height-1)
			sig.Chains = slices.Repeat(sig.Chains, 30)[:n]
			sigs = append(sigs, sig)
		}
		for _, index := range []int{-1, 1 << height, 1<<height + 1, 16, 256, 1 << 32, math.MinInt, math.MaxInt} {
			sigs = append(sigs, fitting(height, index))
		}
	}
	return sigs
}

// badEdits make objects that are not valid of usual and the like, because of one field.
func badEdits() []edit {
	return slices.Concat(badKinds(), badCerts(), badSigs())
}

// manyBytes make objects with too much content, of any.
func manyBytes() []edit {
	var list []edit
	for _, n := range []int{32769, 32770, 65536, 100000} {
		list = append(list, func(o *api.SignedObj) { o.Content = content(n) })
	}
	return list
}

// manyParts make objects whose certificates have too many spans, of any.
func manyParts() []edit {
	return []edit{
		func(o *api.SignedObj) { o.Ee.Res = manySpans(201) },
		func(o *api.SignedObj) { o.Ee.Res.V4 = make([]api.Span, 201) },
		func(o *api.SignedObj) { o.Ee.Res.V6 = make([]api.Span, 1000) },
		func(o *api.SignedObj) { o.Ee = api.Cert{Res: api.Resources{As: make([]api.AsSpan, 201)}} },
	}
}

// validObjects are valid objects of all kinds.
func validObjects() []api.SignedObj {
	list := []api.SignedObj{example(), plain(), usual(), signedUsual(), full()}
	for _, change := range slices.Concat(bodyEdits(), eeEdits(), keyEdits(), sigEdits()) {
		list = append(list, changed(usual(), change))
	}
	for i, change := range sigEdits() {
		list = append(list, changed(example(), change), changed(usual(), bodyEdits()[i%20], eeEdits()[i%21], change))
	}
	r := rand.New(rand.NewSource(1))
	for range 100 {
		list = append(list, random(r))
	}
	return list
}

// wrongObjects are objects that are not valid.
func wrongObjects() []api.SignedObj {
	list := []api.SignedObj{{}}
	for i, change := range slices.Concat(badEdits(), manyBytes(), manyParts()) {
		list = append(list, changed(usual(), change), changed(signedUsual(), change, badEdits()[i%7]), changed(usual(), change, manyBytes()[i%4]))
	}
	return list
}

// random returns a valid object.
func random(r *rand.Rand) api.SignedObj {
	pick := func(list ...string) string { return list[r.Intn(len(list))] }
	o := usual()
	o.Kind = uint8(1 + r.Intn(3))
	o.Content = content(r.Intn(1 << r.Intn(16)))
	o.Ee.Serial = 1 + r.Uint64()>>r.Intn(64)>>1
	o.Ee.Issuer, o.Ee.Subject = pick("a", "root", "A_b-9"), pick("a", "x", strings.Repeat("0", 40))
	o.Ee.Crl = pick("", "rsync://h/f", "https://h/d/f.crl")
	if r.Intn(2) == 0 {
		o.Ee.Inherit, o.Ee.Res = false, manySpans(r.Intn(9))
	}
	for _, sig := range []*api.KeySig{&o.Ee.Sig, &o.Sig} {
		if height := r.Intn(5); r.Intn(3) > 0 {
			*sig = fitting(height, r.Intn(1<<height))
		}
	}
	return o
}
