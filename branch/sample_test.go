package branch_test

import (
	"math/rand"

	"clevis/api"
	"clevis/bound"
)

const (
	full    = 1<<64 - 1
	highest = 1 << 63
	least   = -1 << 63
	most    = 1<<63 - 1
	short   = 1<<32 - 1
)

// conditions are api's, all of them.
var conditions = []int{
	api.Jeq, api.Jgt, api.Jge, api.Jset, api.Jne, api.Jsgt, api.Jsge, api.Jlt, api.Jle, api.Jslt, api.Jsle,
}

// pairs are conditions and their opposites, one way round.
var pairs = [][2]int{{api.Jeq, api.Jne}, {api.Jgt, api.Jle}, {api.Jge, api.Jlt}, {api.Jsgt, api.Jsle}, {api.Jsge, api.Jslt}}

var both = []bool{true, false}

// edges are the numbers at which a condition is most likely to go wrong: where signs change, where 32 bits end, where there is none beyond.
var edges = []uint64{
	0, 1, 2, 5, 8, 1<<31 - 1, 1 << 31, 1<<31 + 1, 1<<32 - 1, 1 << 32, 1<<32 + 1,
	most - 1, most, highest, highest + 1, 1<<64 - 1<<32, 1<<64 - 1<<31, full - 1, full,
}

// some answers a number near an edge, of few bits, or any.
func some(chance *rand.Rand) uint64 {
	switch chance.Intn(3) {
	case 0:
		return edges[chance.Intn(len(edges))] + uint64(chance.Intn(9)) - 4
	case 1:
		return chance.Uint64() >> chance.Intn(64)
	}
	return edges[chance.Intn(len(edges))]
}

// other answers a number that x's bound may end at: not far from x, or any.
func other(chance *rand.Rand, x uint64) uint64 {
	if chance.Intn(2) == 0 {
		return some(chance)
	}
	return x + chance.Uint64()>>chance.Intn(64)*uint64(1-2*chance.Intn(2))
}

// around answers a bound in which x is: that number alone, or with parts of which some say much, some nothing; not tidy, half of the time.
func around(chance *rand.Rand, x uint64) api.Bound {
	if chance.Intn(5) == 0 {
		return bound.Const(x)
	}
	b := bound.Any()
	if chance.Intn(4) > 0 {
		y := other(chance, x)
		b.Umin, b.Umax = min(x, y), max(x, y)
	}
	if chance.Intn(4) > 0 {
		y := int64(other(chance, x))
		b.Smin, b.Smax = min(int64(x), y), max(int64(x), y)
	}
	if chance.Intn(4) > 0 {
		b.Bits.Mask = some(chance) | some(chance)
		b.Bits.Value = x &^ b.Bits.Mask
	}
	if t, ok := bound.Tidy(b); ok && chance.Intn(2) == 0 {
		return t
	}
	return b
}

// small answers a bound of numbers of few bits, not tidy: it may be empty.
func small(chance *rand.Rand) api.Bound {
	b := bound.Any()
	x, y := chance.Uint64()%64, chance.Uint64()%64
	b.Umin, b.Umax = min(x, y), max(x, y)
	b.Bits.Mask = chance.Uint64() % 64
	b.Bits.Value = chance.Uint64() % 64 &^ b.Bits.Mask
	return b
}

// anything answers a bound as it comes: it may be empty, or may not be at all.
func anything(chance *rand.Rand) api.Bound {
	b := api.Bound{Umin: some(chance), Umax: some(chance), Smin: int64(some(chance)), Smax: int64(some(chance))}
	b.Bits = api.Tnum{Value: some(chance), Mask: some(chance)}
	if chance.Intn(4) > 0 {
		b.Umin, b.Umax = min(b.Umin, b.Umax), max(b.Umin, b.Umax)
		b.Smin, b.Smax = min(b.Smin, b.Smax), max(b.Smin, b.Smax)
		b.Bits.Value &^= b.Bits.Mask
	}
	if chance.Intn(4) == 0 {
		b.Umin = b.Umax
	}
	return b
}
