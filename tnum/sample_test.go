package tnum_test

import (
	"math/rand"
	"slices"

	"clevis/api"
)

// edges are the numbers at which a reckoning is most likely to go wrong.
var edges = []uint64{
	0, 1, 2, 3, 4, 6, 7, 8, 255, 256, 0x5555,
	1<<31 - 1, 1 << 31, 1<<32 - 1, 1 << 32, 1<<32 + 1, 0x0123456789abcdef, 0xaaaaaaaaaaaaaaaa,
	1<<63 - 1, 1 << 63, 1<<63 + 1, 1<<64 - 1<<32, 1<<64 - 2, 1<<64 - 1,
}

// counts are the numbers to shift by: at both ends of 0 to 63, beyond them, and below 0.
var counts = []int{
	-1 << 63, -1<<63 + 1, -1 << 32, -129, -128, -65, -64, -63, -33, -32, -2, -1, 0, 1, 2, 31, 32, 33, 62, 63, 64, 65,
	127, 128, 1 << 32, 1<<32 + 5, 1<<63 - 1,
}

// anything are Value and Mask as they come: of edges, all with all, and by chance; most of them may not be.
func anything(chance *rand.Rand, n int) []api.Tnum {
	var l []api.Tnum
	for _, value := range edges {
		for _, mask := range edges {
			l = append(l, api.Tnum{Value: value, Mask: mask})
		}
	}
	for range n {
		l = append(l, api.Tnum{Value: some(chance), Mask: some(chance)})
	}
	return l
}

// right are those of anything that may be.
func right(chance *rand.Rand, n int) []api.Tnum {
	l := slices.DeleteFunc(anything(chance, 0), func(t api.Tnum) bool { return t.Value&t.Mask != 0 })
	for range n {
		mask := some(chance)
		l = append(l, api.Tnum{Value: some(chance) &^ mask, Mask: mask})
	}
	return l
}

// some answers a number with few bits, with many, with half of them, or with those of one row.
func some(chance *rand.Rand) uint64 {
	x := chance.Uint64()
	switch chance.Intn(5) {
	case 0:
		return x & chance.Uint64() & chance.Uint64()
	case 1:
		return x | chance.Uint64() | chance.Uint64()
	case 2:
		return (1<<chance.Intn(65) - 1) << chance.Intn(64)
	case 3:
		return x >> chance.Intn(64)
	}
	return x
}

// all answers, of known bits with few that are unknown, all numbers that are in.
func all(t api.Tnum) []uint64 {
	l := []uint64{t.Value}
	for i := range 64 {
		if t.Mask>>i&1 == 1 {
			for _, x := range l {
				l = append(l, x|1<<i)
			}
		}
	}
	return l
}

// small are all known bits of n bits that may be.
func small(n int) []api.Tnum {
	var l []api.Tnum
	for value := range uint64(1) << n {
		for mask := range uint64(1) << n {
			if value&mask == 0 {
				l = append(l, api.Tnum{Value: value, Mask: mask})
			}
		}
	}
	return l
}

// raised are known bits laid n bits up, with noughts and with ones below them.
func raised(l []api.Tnum, n int) []api.Tnum {
	var out []api.Tnum
	for _, t := range l {
		up := api.Tnum{Value: t.Value << n, Mask: t.Mask << n}
		out = append(out, up)
		if n > 0 {
			up.Value |= 1<<n - 1
			out = append(out, up)
		}
	}
	return out
}

// member answers a number that is in, by chance.
func member(chance *rand.Rand, t api.Tnum) uint64 { return t.Value | some(chance)&t.Mask }

// tightest are the known bits of some numbers: those that all have alike.
func tightest(l []uint64) api.Tnum {
	and, or := ^uint64(0), uint64(0)
	for _, x := range l {
		and &= x
		or |= x
	}
	return api.Tnum{Value: and, Mask: and ^ or}
}
