package merkle

import (
	"gatepath/api"
	"gatepath/digest"
	"gatepath/onetime"
)

const (
	// seedMark stands behind the index of a one-time key whose seed is made; the zero behind it makes these bytes more than those of any step of a chain.
	seedMark = 254
	// nodeMark stands before the two nodes of which one is made.
	nodeMark = 1
)

func isHeight(height int) bool {
	return height >= 0 && height <= api.MaxHeight
}

// isIndex reports whether a tree of this height has a one-time key with this index.
func isIndex(index, height int) bool {
	return index >= 0 && index < 1<<height
}

// seedOf returns the seed of the one-time key with an index.
func seedOf(seed api.Short, index int) api.Short {
	return digest.Short(append(seed[:], byte(index), seedMark, 0))
}

// keys returns the nodes of a tree at the level 0.
func keys(seed api.Short, height int) []api.Short {
	out := make([]api.Short, 1<<height)
	for k := range 1 << height {
		out[k] = onetime.Public(seedOf(seed, k))
	}
	return out
}

// above returns the nodes of the level above that with these nodes.
func above(level []api.Short) []api.Short {
	out := make([]api.Short, len(level)/2)
	for k := range out {
		out[k] = node(level[2*k], level[2*k+1])
	}
	return out
}

// node returns the node above two nodes.
func node(left, right api.Short) api.Short {
	b := append([]byte{nodeMark}, left[:]...)
	return digest.Short(append(b, right[:]...))
}

// path returns, for each level but the last one, the neighbour of the node on the way up from the key with an index.
func path(level []api.Short, index int) []api.Short {
	var out []api.Short
	for len(level) > 1 {
		out = append(out, level[index^1])
		level, index = above(level), index/2
	}
	return out
}
