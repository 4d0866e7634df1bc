package state_test

import (
	"testing"

	"clevis/api"
	"clevis/bound"
	"clevis/state"
)

func TestHolds(t *testing.T) {
	small := bound.Join(bound.Const(2), bound.Const(9)) // 2 to 9, or more of few bits
	back := api.Bound{Umax: full, Smin: -8, Smax: 8, Bits: api.Tnum{Mask: full}}
	for _, c := range []struct {
		k    api.Known
		x    uint64
		want bool
	}{
		{unset, 0, true}, {unset, 7, true}, {unset, full, true},
		{five, 5, true}, {five, 4, false}, {five, 6, false}, {five, 1<<32 + 5, false}, {five, 5 << 32, false},
		{all, 0, true}, {all, full, true},
		{few, 0, true}, {few, 255, true}, {few, 256, false}, {few, full, false},
		{number(small), 1, false}, {number(small), 2, true}, {number(small), 9, true}, {number(small), 10, false},
		{number(back), full - 7, true}, {number(back), full - 8, false}, {number(back), 8, true}, {number(back), 9, false},
		{number(api.Bound{Umax: 8, Smax: 8, Bits: api.Tnum{Mask: 14}}), 6, true},
		{number(api.Bound{Umax: 8, Smax: 8, Bits: api.Tnum{Mask: 14}}), 7, false}, // by its bits
		{place(1, bound.Const(0)), 1 << 32, true}, {place(1, bound.Const(0)), 0, false}, {place(1, bound.Const(0)), 1<<32 + 1, false},
		{place(1, bound.Const(0)), 2 << 32, false}, {place(1, bound.Const(0)), 1<<32 - 1, false}, {place(1, bound.Const(0)), 1, false},
		{place(2, bound.Const(512)), 2<<32 + 512, true}, {place(2, bound.Const(512)), 512, false}, {place(2, bound.Const(512)), 3<<32 + 512, false},
		{place(10, small), 10<<32 + 2, true}, {place(10, small), 10<<32 + 9, true}, {place(10, small), 10<<32 + 1, false}, {place(10, small), 10<<32 + 10, false},
		{place(3, back), 3<<32 - 8, true}, {place(3, back), 3<<32 - 9, false}, {place(3, back), 3<<32 + 8, true}, {place(3, back), 3<<32 + 9, false},
		{place(3, bound.Const(full)), 3<<32 - 1, true},
		{place(3, bound.Const(full-3<<32+1)), 0, true}, // it comes round
		{place(3, bound.Const(full-3<<32)), full, true},
		{place(3, bound.Const(1<<32)), 4 << 32, true}, {place(3, bound.Any()), 0, true}, {place(3, bound.Any()), full, true},
		{number(empty), 5, false}, {place(1, empty), 1<<32 + 5, false},
	} {
		if got := state.Holds(c.k, c.x); got != c.want {
			t.Errorf("Holds(%v, %#x) = %v", c.k, c.x, got)
		}
	}
}

// TestHoldsOfWhatMayNotBe: the words are asked as they stand.
func TestHoldsOfWhatMayNotBe(t *testing.T) {
	n := bound.Const(5)
	for _, c := range []struct {
		k    api.Known
		x    uint64
		want bool
	}{
		{api.Known{Num: n}, 7, true}, {api.Known{Region: 3}, 7, true}, {api.Known{Num: none}, 0, true},
		{api.Known{Kind: 3, Num: n}, 7, true}, {api.Known{Kind: -1, Num: n, Region: 3}, 7, true},
		{api.Known{Kind: 1 << 32, Num: n}, 7, true}, {api.Known{Kind: 1<<32 + 1, Num: n}, 7, true}, {api.Known{Kind: least, Num: none}, full, true},
		{api.Known{Kind: most, Num: n}, 7, true}, {api.Known{Kind: 4, Num: n}, 7, true},
		{api.Known{Kind: 1, Num: n, Region: 3}, 5, true}, {api.Known{Kind: 1, Num: n, Region: 3}, 3<<32 + 5, false},
		{number(none), 0, false}, {number(none), 1, false}, {number(signs), 3, false}, {number(bits), 0, false},
		{place(0, n), 5, true}, {place(0, n), 6, false},
		{place(-1, n), full - 1<<32 + 6, true}, {place(-1, n), 5, false},
		{place(11, n), 11<<32 + 5, true}, {place(11, n), 10<<32 + 5, false},
		{place(1<<32, n), 5, true}, {place(1<<32+2, n), 2<<32 + 5, true}, // modulo 2^64
		{place(least, n), 5, true}, {place(most, n), full - 1<<32 + 6, true},
		{place(1, none), 1<<32 + 1, false},
	} {
		if got := state.Holds(c.k, c.x); got != c.want {
			t.Errorf("Holds(%v, %#x) = %v", c.k, c.x, got)
		}
	}
}
