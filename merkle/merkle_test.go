package merkle

import (
	"math/rand"
	"slices"
	"testing"

	"gatepath/api"
	"gatepath/onetime"
)

// P7.1: what is known was computed with another program, from the chapter.

func TestKnownKeys(t *testing.T) {
	for seed, roots := range map[string][]string{
		"00000000000000000000000000000000": {"1f45c74e75e9d43000ca6d84118892db", "2f8e24e757159851a26f1af8555f85af", "26fa4b7988b8b4451439b91a2ff3d816", "de5359e56bd08bc4bc942fbfc4a7e931", "9d3db7a1722af07c39bcdfdd3d013e88"},
		"ffffffffffffffffffffffffffffffff": {"b8200222263c7d99035b0b395618e2aa", "7fd84750f2d203194754cbe9ecc9e8d6", "f85c964c4b7c6dc05d8fbe86fa2d5ba2", "85e9a66c90e9e2b259ed06e22c7d0369", "0bbfddb2f0064bfd649c918da0e928da"},
		"000102030405060708090a0b0c0d0e0f": {"ca199c258f80f5a176909ef1b82ccb2b", "066be89ecbc16a23d3ed4858aa071a56", "c700be600aa809c52cdabe6de9032bb6", "f81c40d72b2b031332dce57819467ab9", "8f4490fb3739940c62675209f3c75b8b"},
		"6761746570617468206f6e652d74696d": {"5077b1f1cf569ca84f24c503e03b3935", "c9e00917c43391f4d15bb5b1bf4ed90e", "9f1579684b51554ce4fd4a4e69f4bbf0", "b550c4a6ee36027f9b58863d4998a051", "43aafe6efee0ea7ece670949090d4fec"},
	} {
		for height, root := range roots {
			key, e := Key(fromHex(t, seed), height)
			if e != api.OK || key != (api.PublicKey{Root: fromHex(t, root), Height: height}) {
				t.Error(seed, height, key, e)
			}
		}
	}
}

func TestKnownSignatures(t *testing.T) {
	for _, c := range []struct {
		height, index        int
		message, first, last string
		path                 []string
	}{
		{0, 0, "", "4961ef7d715dea26422760dafe55950d", "d5df5e469fc780473b9149d874efcca1", nil},
		{2, 2, "abc", "a1373799b66e6530c68f9c03851f9973", "2b3be0a2dee2fa9c82088076144a1117", []string{"f4e299c82bb9d26c70009197d9e60113", "066be89ecbc16a23d3ed4858aa071a56"}},
		{4, 13, "gatepath", "907b55edf7f8c4d862983f0476c15950", "d7d857b82f037245fa1300e247d1f40d", []string{"e206b6139da4cb3adac7ec735c9f2e0d", "84f1173072a5d6b90d164761eac02960", "775131bd7bc21d88c04424569ce6eac7", "f81c40d72b2b031332dce57819467ab9"}},
	} {
		sig := signed(t, counted(), c.height, c.index, []byte(c.message))
		if sig.Index != c.index || len(sig.Chains) != api.OneChains || len(sig.Path) != len(c.path) {
			t.Fatal(c, sig)
		}
		if sig.Chains[0] != fromHex(t, c.first) || sig.Chains[34] != fromHex(t, c.last) {
			t.Error(c, sig.Chains)
		}
		for level, p := range c.path {
			if sig.Path[level] != fromHex(t, p) {
				t.Error(c, level, sig.Path)
			}
		}
	}
}

func TestKey(t *testing.T) {
	seen := map[api.Short]bool{}
	for _, seed := range seeds() {
		for height := range api.MaxHeight + 1 {
			key := public(t, seed, height)
			if key.Root != modelNode(seed, height, 0) || key.Height != height || seen[key.Root] {
				t.Error(seed, height, key)
			}
			seen[key.Root] = true
		}
	}
}

func TestKeyOfWrongHeight(t *testing.T) {
	for _, seed := range seeds() {
		for _, height := range wrongHeights() {
			if key, e := Key(seed, height); e != api.ErrArg || key != (api.PublicKey{}) {
				t.Error(seed, height, key, e)
			}
		}
	}
}

func TestSign(t *testing.T) {
	list := messages()
	for i, seed := range seeds() {
		for height := range api.MaxHeight + 1 {
			tree := modelTree(seed, height)
			for index := range 1 << height {
				m := list[(i+index)%len(list)]
				want := api.KeySig{Index: index, Chains: onetime.Sign(modelSeed(seed, index), m), Path: modelPath(tree, index)}
				if sig := signed(t, seed, height, index, m); !equal(sig, want) {
					t.Fatal(seed, height, index, len(m), sig)
				}
			}
		}
	}
}

func TestSignEveryMessage(t *testing.T) {
	for _, m := range append(messages(), []byte{}) {
		sig := signed(t, counted(), 1, 1, m)
		if !slices.Equal(sig.Chains, onetime.Sign(modelSeed(counted(), 1), m)) || !slices.Equal(sig.Path, []api.Short{modelNode(counted(), 0, 0)}) {
			t.Error(len(m), sig)
		}
	}
}

func TestSignWrong(t *testing.T) {
	check := func(height, index int) {
		for _, m := range [][]byte{nil, []byte("abc")} {
			if sig, e := Sign(counted(), height, index, m); e != api.ErrArg || !isZero(sig) {
				t.Error(height, index, sig, e)
			}
		}
	}
	for _, height := range wrongHeights() {
		for _, index := range []int{0, 1, 15, 16, -1, height} {
			check(height, index)
		}
	}
	for height := range api.MaxHeight + 1 {
		for _, index := range wrongIndices(height) {
			check(height, index)
		}
	}
}

// P7.2

func TestKnownRoots(t *testing.T) {
	var chains, path []api.Short
	for i := range api.OneChains {
		chains = append(chains, same(byte(i)))
	}
	for i := range api.MaxHeight {
		path = append(path, same(byte(200+i)))
	}
	for _, c := range []struct {
		height, index int
		root          string
	}{
		{0, 0, "a309218f099b2a903b88e43dd45f93eb"},
		{1, 0, "aef6d045bf4671b01c98afb7f10dafbc"},
		{1, 1, "8d8dd9ee2ccb062151be25db92c4468e"},
		{3, 5, "d88af6b0a80a20f73067c35896f99af7"},
		{4, 0, "2545eb82e696f5a09ebe70401e4cd0d8"},
		{4, 6, "e3a39302b0ddbd84494b80cc7df8beaf"},
		{4, 15, "ceaf806cc48ac6ad73fddf1c88e0621c"},
	} {
		root, e := Root(c.height, []byte("abc"), api.KeySig{Index: c.index, Chains: chains, Path: path[:c.height]})
		if e != api.OK || root != fromHex(t, c.root) {
			t.Error(c, root, e)
		}
	}
}

// TestRootOfAnything follows paths that belong to no tree.
func TestRootOfAnything(t *testing.T) {
	r := rand.New(rand.NewSource(3))
	for _, m := range messages() {
		for height := range api.MaxHeight + 1 {
			for index := range 1 << height {
				sig := api.KeySig{Index: index, Chains: someShorts(r, api.OneChains), Path: someShorts(r, height)}
				x, _ := onetime.Recover(m, sig.Chains)
				want := modelRoot(x, index, sig.Path)
				root, e := Root(height, m, sig)
				if e != api.OK || root != want || Check(height, sig) != api.OK {
					t.Fatal(len(m), height, index, root, e)
				}
				other := api.PublicKey{Root: someShort(r), Height: height}
				if !Verify(api.PublicKey{Root: want, Height: height}, m, sig) || Verify(other, m, sig) {
					t.Fatal(len(m), height, index)
				}
			}
		}
	}
}

// refused reports whether Check and Root return an error, and Verify false, whatever the root is.
func refused(height int, sig api.KeySig, want api.Errno) bool {
	root, e := Root(height, []byte("abc"), sig)
	ok := e == want && root == (api.Short{}) && Check(height, sig) == want
	x, _ := onetime.Recover([]byte("abc"), sig.Chains)
	for _, root := range []api.Short{{}, x, modelRoot(x, max(sig.Index, 0), sig.Path), modelNode(counted(), 1, 0)} {
		ok = ok && !Verify(api.PublicKey{Root: root, Height: height}, []byte("abc"), sig)
	}
	return ok
}

func TestWrongHeights(t *testing.T) {
	list := []api.KeySig{{}, {Index: -1}, {Chains: make([]api.Short, api.OneChains)}, {Chains: make([]api.Short, api.OneChains), Path: make([]api.Short, 5)}}
	for height := range api.MaxHeight + 1 {
		list = append(list, signed(t, counted(), height, 1<<height-1, []byte("abc")))
	}
	for _, height := range wrongHeights() {
		if height > 0 && height < 100 {
			list = append(list, api.KeySig{Chains: make([]api.Short, api.OneChains), Path: make([]api.Short, height)})
		}
		for _, sig := range list {
			if !refused(height, sig, api.ErrArg) {
				t.Error(height, sig)
			}
		}
	}
}

func TestWrongIndices(t *testing.T) {
	for height := range api.MaxHeight + 1 {
		sig := signed(t, counted(), height, 0, []byte("abc"))
		for _, index := range wrongIndices(height) {
			sig.Index = index
			if !refused(height, sig, api.ErrForm) {
				t.Error(height, index)
			}
		}
		for index := range 1 << height {
			sig.Index = index
			if Check(height, sig) != api.OK {
				t.Error(height, index)
			}
		}
	}
}

func TestWrongNumbersOfChains(t *testing.T) {
	for height := range api.MaxHeight + 1 {
		sig := signed(t, counted(), height, 0, []byte("abc"))
		all := slices.Concat(sig.Chains, sig.Chains, sig.Chains)
		for n := range len(all) + 1 {
			sig.Chains = all[:n]
			if n == api.OneChains {
				if Check(height, sig) != api.OK {
					t.Error(height)
				}
			} else if !refused(height, sig, api.ErrForm) {
				t.Error(height, n)
			}
		}
		sig.Chains = nil
		if !refused(height, sig, api.ErrForm) {
			t.Error(height)
		}
	}
}

func TestWrongPaths(t *testing.T) {
	for height := range api.MaxHeight + 1 {
		sig := signed(t, counted(), height, 0, []byte("abc"))
		all := slices.Concat(sig.Path, make([]api.Short, 40))
		for n := range len(all) + 1 {
			sig.Path = all[:n]
			if n == height {
				if Check(height, sig) != api.OK {
					t.Error(height)
				}
			} else if !refused(height, sig, api.ErrForm) {
				t.Error(height, n)
			}
		}
	}
}

func TestEmptyPaths(t *testing.T) {
	sig := signed(t, counted(), 0, 0, []byte("abc"))
	key := public(t, counted(), 0)
	for _, path := range [][]api.Short{nil, {}} {
		sig.Path = path
		if root, e := Root(0, []byte("abc"), sig); e != api.OK || root != key.Root || Check(0, sig) != api.OK || !Verify(key, []byte("abc"), sig) {
			t.Error(root, e)
		}
	}
}

// P7.3

func TestVerifyEverySignature(t *testing.T) {
	list := messages()
	for i, seed := range seeds() {
		for height := range api.MaxHeight + 1 {
			key := public(t, seed, height)
			for index := range 1 << height {
				m := list[(i+index)%len(list)]
				sig := signed(t, seed, height, index, m)
				root, e := Root(height, m, sig)
				if e != api.OK || root != key.Root || Check(height, sig) != api.OK || !Verify(key, m, sig) {
					t.Fatal(seed, height, index, len(m), root, e)
				}
				if Verify(key, append([]byte{7}, m...), sig) || Verify(key, append(slices.Clone(m), 0), sig) {
					t.Fatal(seed, height, index, len(m), "another message")
				}
			}
		}
	}
}

// TestKeyAndPathDetermineRoot signs several messages by one one-time key: the root that follows is the same, along any path.
func TestKeyAndPathDetermineRoot(t *testing.T) {
	r := rand.New(rand.NewSource(4))
	for height := range api.MaxHeight + 1 {
		for index := range 1 << height {
			path := someShorts(r, height)
			want := modelRoot(onetime.Public(modelSeed(counted(), index)), index, path)
			for _, m := range messages()[:6] {
				sig := api.KeySig{Index: index, Chains: onetime.Sign(modelSeed(counted(), index), m), Path: path}
				if root, e := Root(height, m, sig); e != api.OK || root != want {
					t.Fatal(height, index, m, root, e)
				}
			}
		}
	}
}

func TestNoOtherRoot(t *testing.T) {
	m := []byte("abc")
	for height := range api.MaxHeight + 1 {
		key, sig := public(t, counted(), height), signed(t, counted(), height, 1<<height/2, m)
		for bit := range 128 {
			other := key
			other.Root[bit/8] ^= 1 << (bit % 8)
			if Verify(other, m, sig) {
				t.Fatal(height, bit)
			}
		}
		for h := -2; h < 8; h++ {
			if Verify(api.PublicKey{Root: key.Root, Height: h}, m, sig) != (h == height) {
				t.Error(height, h)
			}
		}
		for _, seed := range seeds() {
			if Verify(public(t, seed, height), m, sig) != (seed == counted()) {
				t.Error(height, seed)
			}
		}
	}
}

func TestSpoiltSignatures(t *testing.T) {
	r := rand.New(rand.NewSource(5))
	m := []byte("abc")
	for height := range api.MaxHeight + 1 {
		key := public(t, counted(), height)
		for index := range 1 << height {
			sig := signed(t, counted(), height, index, m)
			for other := range 1 << height {
				spoilt := cloned(sig)
				spoilt.Index = other
				if Verify(key, m, spoilt) != (other == index) {
					t.Fatal(height, index, other)
				}
			}
			for level := range height {
				spoilt := cloned(sig)
				spoilt.Path[level][r.Intn(16)] ^= 1 << r.Intn(8)
				swapped := cloned(sig)
				next := (level + 1) % height
				swapped.Path[level], swapped.Path[next] = sig.Path[next], sig.Path[level]
				if Verify(key, m, spoilt) || Verify(key, m, swapped) != (next == level) {
					t.Fatal(height, index, level)
				}
			}
			spoilt := cloned(sig)
			spoilt.Chains[r.Intn(api.OneChains)][r.Intn(16)] ^= 1 << r.Intn(8)
			if Verify(key, m, spoilt) {
				t.Fatal(height, index)
			}
		}
	}
}

// Arguments are only read, with the memory behind them; results share no memory, and nothing is kept (R2).

func TestOnlyRead(t *testing.T) {
	r := rand.New(rand.NewSource(6))
	memory, shared := someBytes(r, 100), someShorts(r, 200)
	before, kept := slices.Clone(memory), slices.Clone(shared)
	for height := range api.MaxHeight + 1 {
		for n := range 40 {
			sig := api.KeySig{Index: n % (1 << height), Chains: shared[n : n+api.OneChains], Path: shared[100+n : 100+n+height]}
			x, _ := onetime.Recover(memory[:n], sig.Chains)
			root, e := Root(height, memory[:n], sig)
			if e != api.OK || root != modelRoot(x, sig.Index, sig.Path) {
				t.Fatal(height, n, root, e)
			}
			Verify(api.PublicKey{Root: root, Height: height}, memory[:n], sig)
			Check(height, sig)
			Check(height+1, sig)
		}
		signed(t, shared[0], height, 0, memory[:50])
	}
	if !slices.Equal(memory, before) || !slices.Equal(shared, kept) {
		t.Error("changed")
	}
}

func TestSignaturesShareNothing(t *testing.T) {
	m := []byte("abc")
	for height := range api.MaxHeight + 1 {
		sig := signed(t, counted(), height, 0, m)
		want := cloned(sig)
		clear(sig.Chains[:cap(sig.Chains)])
		if !slices.Equal(sig.Path, want.Path) {
			t.Error(height, "the chains share memory with the path")
		}
		clear(sig.Path[:cap(sig.Path)])
		again := signed(t, counted(), height, 0, m)
		third := signed(t, counted(), height, 0, m)
		clear(third.Path[:cap(third.Path)])
		clear(third.Chains[:cap(third.Chains)])
		if !equal(again, want) || !Verify(public(t, counted(), height), m, again) {
			t.Error(height)
		}
	}
}

// The chapter's examples.

func TestExamples(t *testing.T) {
	if key := public(t, counted(), 0); key.Root != onetime.Public(modelSeed(counted(), 0)) {
		t.Error(key)
	}
	sig := signed(t, counted(), 2, 2, nil)
	if !slices.Equal(sig.Path, []api.Short{modelNode(counted(), 0, 3), modelNode(counted(), 1, 0)}) {
		t.Error(sig.Path)
	}
}
