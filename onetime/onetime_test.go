package onetime

import (
	"encoding/hex"
	"math/rand"
	"slices"
	"strings"
	"testing"

	"gatepath/api"
)

// modelStep returns what a step from x leads to.
func modelStep(x api.Short, chain, height int) api.Short {
	return modelShort(x[:], []byte{byte(chain), byte(height)})
}

// modelChain returns what a chain of a seed has at the heights from 0 to OneSteps.
func modelChain(seed api.Short, chain int) []api.Short {
	list := []api.Short{modelShort(seed[:], []byte{byte(chain), 255})}
	for height := range api.OneSteps {
		list = append(list, modelStep(list[height], chain, height))
	}
	return list
}

// modelEnd returns what a chain has at the height OneSteps, if it has x at a height.
func modelEnd(x api.Short, chain, height int) api.Short {
	if height == api.OneSteps {
		return x
	}
	return modelEnd(modelStep(x, chain, height), chain, height+1)
}

// modelKey returns the short digest of ends.
func modelKey(ends []api.Short) api.Short {
	var parts [][]byte
	for _, x := range ends {
		parts = append(parts, slices.Clone(x[:]))
	}
	return modelShort(parts...)
}

func modelPublic(seed api.Short) api.Short {
	var ends []api.Short
	for chain := range api.OneChains {
		ends = append(ends, modelChain(seed, chain)[api.OneSteps])
	}
	return modelKey(ends)
}

func modelSign(seed api.Short, message []byte) []api.Short {
	var sig []api.Short
	for chain, height := range modelDigits(modelShort(message)) {
		sig = append(sig, modelChain(seed, chain)[height])
	}
	return sig
}

func modelRecover(message []byte, chains []api.Short) api.Short {
	var ends []api.Short
	for chain, height := range modelDigits(modelShort(message)) {
		ends = append(ends, modelEnd(chains[chain], chain, height))
	}
	return modelKey(ends)
}

// seeds are those of equal bytes, and others.
func seeds() []api.Short {
	list := []api.Short{same(0), same(1), same(128), same(254), same(255), {15: 1}, {1}}
	r := rand.New(rand.NewSource(4))
	for range 20 {
		list = append(list, someShort(r))
	}
	return list
}

func someShorts(r *rand.Rand, n int) []api.Short {
	list := make([]api.Short, n)
	for i := range list {
		list[i] = someShort(r)
	}
	return list
}

func fromHex(t *testing.T, s string) api.Short {
	t.Helper()
	b, err := hex.DecodeString(s)
	if err != nil || len(b) != 16 {
		t.Fatal(s, err)
	}
	return api.Short(b)
}

// counted is the seed of the bytes 0 to 15.
func counted() api.Short {
	var x api.Short
	for i := range x {
		x[i] = byte(i)
	}
	return x
}

// P6.1: what is known was computed with another program, from the chapter.

func TestKnownKeys(t *testing.T) {
	for seed, want := range map[string]string{
		"00000000000000000000000000000000": "336c9bac7ae0a6797447f014bb2be9e3",
		"ffffffffffffffffffffffffffffffff": "6e33218b8c1f75d745e93c8df63ec40b",
		"000102030405060708090a0b0c0d0e0f": "b88ea8c77c76585f2d5667d8ed739469",
		"6761746570617468206f6e652d74696d": "e25f26d29473f345390137c05c294280",
	} {
		if key := Public(fromHex(t, seed)); key != fromHex(t, want) {
			t.Error(seed, key)
		}
	}
}

func TestKnownSignatures(t *testing.T) {
	for _, c := range []struct{ message, first, middle, last string }{
		{"", "010e045e4beacdfde430c1cc35c314f7", "5bac19c8a0a65113d118937be1a564c3", "0dc249f113e21778266aea92de7b04ad"},
		{"abc", "0051fac6990834e46e948a4a11e7bc01", "a7c929edbfe3bff14217f3fc2a70e8de", "b64e9f9b38b7e3dfa1923c5af472ddfe"},
	} {
		sig := Sign(counted(), []byte(c.message))
		if len(sig) != api.OneChains {
			t.Fatal(c, sig)
		}
		if sig[0] != fromHex(t, c.first) || sig[17] != fromHex(t, c.middle) || sig[34] != fromHex(t, c.last) {
			t.Error(c, sig)
		}
	}
}

func TestPublic(t *testing.T) {
	seen := map[api.Short]bool{}
	for _, seed := range seeds() {
		key := Public(seed)
		if key != modelPublic(seed) || seen[key] {
			t.Error(seed, key)
		}
		seen[key] = true
	}
}

func TestSign(t *testing.T) {
	list := seeds()
	for i, m := range messages() {
		seed := list[i%len(list)]
		if sig := Sign(seed, m); !slices.Equal(sig, modelSign(seed, m)) {
			t.Fatal(seed, len(m), sig)
		}
	}
}

func TestSignNothing(t *testing.T) {
	for _, seed := range seeds() {
		want := modelSign(seed, nil)
		if sig := Sign(seed, nil); !slices.Equal(sig, want) {
			t.Error(seed, sig)
		}
		if sig := Sign(seed, []byte{}); !slices.Equal(sig, want) {
			t.Error(seed, sig)
		}
	}
}

// TestSignAtEveryHeight holds chains against the model, those of the short digest at all heights.
func TestSignAtEveryHeight(t *testing.T) {
	seed := counted()
	seen := map[[2]int]bool{}
	for n := range 400 {
		m := []byte("message " + strings.Repeat("!", n))
		digits := modelDigits(modelShort(m))
		for chain, x := range Sign(seed, m) {
			if x != modelChain(seed, chain)[digits[chain]] {
				t.Fatal(n, chain, digits[chain], x)
			}
			if chain < 32 {
				seen[[2]int{chain, digits[chain]}] = true
			}
		}
	}
	if len(seen) != 32*16 {
		t.Error("too few heights", len(seen))
	}
}

// P6.2

func TestKnownRecovered(t *testing.T) {
	key, e := Recover(nil, make([]api.Short, api.OneChains))
	if e != api.OK || key != fromHex(t, "221f4fbea6e52aca3e9d9c4e7e4217cd") {
		t.Error(key, e)
	}
	var chains []api.Short
	for i := range api.OneChains {
		chains = append(chains, same(byte(i)))
	}
	key, e = Recover([]byte("abc"), chains)
	if e != api.OK || key != fromHex(t, "a309218f099b2a903b88e43dd45f93eb") {
		t.Error(key, e)
	}
}

func TestRecover(t *testing.T) {
	r := rand.New(rand.NewSource(5))
	for _, m := range messages() {
		for _, chains := range [][]api.Short{someShorts(r, api.OneChains), make([]api.Short, api.OneChains)} {
			key, e := Recover(m, chains)
			if e != api.OK || key != modelRecover(m, chains) {
				t.Fatal(len(m), chains, key, e)
			}
		}
	}
}

func TestRecoverFromOtherNumbersOfChains(t *testing.T) {
	r := rand.New(rand.NewSource(6))
	lists := [][]api.Short{nil, {}, someShorts(r, 70)[:34], someShorts(r, 1000)}
	for n := range 100 {
		if n != api.OneChains {
			lists = append(lists, someShorts(r, n), make([]api.Short, n))
		}
	}
	for _, m := range [][]byte{nil, []byte("abc"), make([]byte, api.MaxBytes+1)} {
		sig := Sign(counted(), m)
		for _, chains := range append(lists, sig[:34], sig[1:], append(slices.Clone(sig), api.Short{}), append(slices.Clone(sig), sig...)) {
			key, e := Recover(m, chains)
			if e != api.ErrForm || key != (api.Short{}) {
				t.Error(len(m), len(chains), key, e)
			}
		}
	}
}

// P6.3

func TestRecoverFromSignatures(t *testing.T) {
	for i, seed := range seeds() {
		want := Public(seed)
		for j, m := range messages() {
			if j%5 != i%5 && len(m) > 10 {
				continue
			}
			key, e := Recover(m, Sign(seed, m))
			if e != api.OK || key != want {
				t.Fatal(seed, len(m), key, e)
			}
		}
	}
}

func TestSpoiltSignatures(t *testing.T) {
	r := rand.New(rand.NewSource(7))
	for _, seed := range seeds() {
		m := someBytes(r, r.Intn(50))
		want, sig := Public(seed), Sign(seed, m)
		for chain := range api.OneChains {
			for _, other := range []int{r.Intn(api.OneChains), (chain + 1) % api.OneChains} {
				swapped := slices.Clone(sig)
				swapped[chain], swapped[other] = sig[other], sig[chain]
				if key, e := Recover(m, swapped); e != api.OK || (key == want) != (other == chain) {
					t.Fatal(seed, m, chain, other, key, e)
				}
			}
			spoilt := slices.Clone(sig)
			spoilt[chain][r.Intn(16)] ^= 1 << r.Intn(8)
			if key, e := Recover(m, spoilt); e != api.OK || key == want {
				t.Fatal(seed, m, chain, key, e)
			}
		}
		for _, other := range [][]byte{append(slices.Clone(m), 0), append([]byte{1}, m...), nil} {
			if key, e := Recover(other, sig); e != api.OK || (key == want) != (len(other) == len(m)) {
				t.Fatal(seed, m, other, key, e)
			}
		}
	}
}

func TestChainsLeadToOtherSignatures(t *testing.T) {
	r := rand.New(rand.NewSource(8))
	met := 0
	for _, seed := range seeds() {
		for range 20 {
			m, n := someBytes(r, r.Intn(50)), someBytes(r, r.Intn(50))
			sig, other := Sign(seed, m), Sign(seed, n)
			from, to := Digits(m), Digits(n)
			for chain, x := range sig {
				if to[chain] < from[chain] {
					continue
				}
				for height := from[chain]; height < to[chain]; height++ {
					x = modelStep(x, chain, height)
				}
				if x != other[chain] {
					t.Fatal(seed, m, n, chain)
				}
				met++
			}
		}
	}
	if met < 1000 {
		t.Error("too few chains", met)
	}
}

// Arguments are only read, with the memory behind them; results share no memory, and nothing is kept (R2).

func TestOnlyRead(t *testing.T) {
	r := rand.New(rand.NewSource(9))
	memory, shared := someBytes(r, 200), someShorts(r, 100)
	before, kept := slices.Clone(memory), slices.Clone(shared)
	for n := range 60 {
		chains := shared[n : n+api.OneChains]
		Sign(shared[n], memory[:n])
		if key, e := Recover(memory[:n], chains); e != api.OK || key != modelRecover(memory[:n], chains) {
			t.Error(n, key, e)
		}
		Recover(memory[:n], shared[:n])
	}
	if !slices.Equal(memory, before) || !slices.Equal(shared, kept) {
		t.Error("changed")
	}
}

func TestSignaturesShareNothing(t *testing.T) {
	m := []byte("gatepath")
	sig := Sign(counted(), m)
	clear(sig[:cap(sig)])
	again := Sign(counted(), m)
	if !slices.Equal(again, modelSign(counted(), m)) {
		t.Error(again)
	}
	third := Sign(counted(), m)
	clear(third[:cap(third)])
	if key, e := Recover(m, again); e != api.OK || key != Public(counted()) {
		t.Error(key, e)
	}
}

// The chapter's examples.

func TestExamples(t *testing.T) {
	if d := Digits([]byte("abc")); d[0] != 11 || d[1] != 10 {
		t.Error(d)
	}
	if d := digitsOf(api.Short{}); slices.Max(d[:32]) != 0 || !slices.Equal(d[32:], []int{1, 14, 0}) {
		t.Error(d)
	}
}
