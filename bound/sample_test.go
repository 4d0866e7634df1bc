package bound_test

import (
	"math/rand"

	"clevis/api"
)

const (
	full    = 1<<64 - 1
	highest = 1 << 63
	least   = -1 << 63
	most    = 1<<63 - 1
)

// edges are the numbers at which a bound is most likely to go wrong: where signs change, where 32 bits end.
var edges = []uint64{
	0, 1, 2, 5, 8, 255, 256, 65535, 1<<31 - 1, 1 << 31, 1<<32 - 2, 1<<32 - 1, 1 << 32, 1<<32 + 1,
	most - 1, most, highest, highest + 1, 1<<64 - 1<<32, 1<<64 - 1<<31, full - 4, full - 1, full,
}

// some answers a number at an edge, near one, of a few bits, or any.
func some(chance *rand.Rand) uint64 {
	switch chance.Intn(4) {
	case 0:
		return edges[chance.Intn(len(edges))]
	case 1:
		return edges[chance.Intn(len(edges))] + uint64(chance.Intn(16)) - 8
	case 2:
		return chance.Uint64() >> chance.Intn(64)
	}
	return chance.Uint64()
}

// someBits answers known bits that may be: of one number, of all, or with some unknown.
func someBits(chance *rand.Rand) api.Tnum {
	mask := uint64(0)
	switch chance.Intn(5) {
	case 0:
		mask = full
	case 1:
		mask = 1<<chance.Intn(65) - 1
	case 2:
		mask = some(chance)
	case 3:
		mask = chance.Uint64() | chance.Uint64()
	}
	return api.Tnum{Value: some(chance) &^ mask, Mask: mask}
}

// anything are bounds as they come: most of them are empty, many may not be at all.
func anything(chance *rand.Rand, n int) []api.Bound {
	l := []api.Bound{{}, {Umax: full}, {Smin: least, Smax: most}, {Umin: 1}, {Smin: 1}, {Bits: api.Tnum{Mask: full}}}
	for range n {
		b := api.Bound{Umin: some(chance), Umax: some(chance), Smin: int64(some(chance)), Smax: int64(some(chance))}
		b.Bits = api.Tnum{Value: some(chance), Mask: some(chance)}
		if chance.Intn(3) > 0 {
			b.Bits = someBits(chance)
		}
		l = append(l, b)
	}
	return l
}

// around answers a bound in which x is: some of its parts say much, some nothing.
func around(chance *rand.Rand, x uint64) api.Bound {
	b := api.Bound{Umax: full, Smin: least, Smax: most, Bits: api.Tnum{Mask: full}}
	if chance.Intn(4) > 0 {
		b.Umin, b.Umax = min(x, some(chance)), max(x, some(chance))
	}
	if chance.Intn(4) > 0 {
		b.Smin, b.Smax = min(int64(x), int64(some(chance))), max(int64(x), int64(some(chance)))
	}
	if chance.Intn(4) > 0 {
		mask := someBits(chance).Mask
		b.Bits = api.Tnum{Value: x &^ mask, Mask: mask}
	}
	return b
}

// right are bounds that have a number each, and this.
func right(chance *rand.Rand, n int) ([]api.Bound, []uint64) {
	var l []api.Bound
	var in []uint64
	for range n {
		x := some(chance)
		l, in = append(l, around(chance, x)), append(in, x)
	}
	return l, in
}
