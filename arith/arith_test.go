package arith_test

import (
	"testing"

	"clevis/api"
	"clevis/arith"
	"clevis/bound"
)

// The numbers that tests reckon with.
var (
	all   = api.Bound{Umax: full, Smin: least, Smax: most, Bits: api.Tnum{Mask: full}}
	four  = to(0, 1<<32-1, 0, 1<<32-1)
	five  = to(5, 9, 0, 15)
	below = api.Bound{Umin: full - 8, Umax: full - 4, Smin: -9, Smax: -5, Bits: api.Tnum{Value: full - 15, Mask: 15}}
	minus = api.Bound{Umin: highest, Umax: full, Smin: least, Smax: -1, Bits: api.Tnum{Value: highest, Mask: most}}
	n     = bound.Const
)

// to answers the numbers from low to high, below 2^63, that have such bits.
func to(low, high, value, mask uint64) api.Bound {
	return api.Bound{Umin: low, Umax: high, Smin: int64(low), Smax: int64(high), Bits: api.Tnum{Value: value, Mask: mask}}
}

// signs answers numbers of which it is known alone from where to where they are with signs.
func signs(low, high int64) api.Bound {
	return with(all, func(b *api.Bound) { b.Smin, b.Smax = low, high })
}

// with answers a bound with one part changed.
func with(b api.Bound, change func(b *api.Bound)) api.Bound {
	change(&b)
	return b
}

type example struct{ a, b, want api.Bound }

func check(t *testing.T, op int, wide bool, l []example) {
	t.Helper()
	for _, c := range l {
		if got, ok := arith.Alu(op, c.a, c.b, wide); got != c.want || !ok {
			t.Errorf("Alu(%#x, %#x, %#x, %v) = %#x, %v; want %#x", op, c.a, c.b, wide, got, ok, c.want)
		}
	}
}

func TestWideAdd(t *testing.T) {
	check(t, api.Add, true, []example{
		{to(1, 3, 0, 3), to(10, 20, 0, 31), to(11, 23, 0, 31)},
		{n(5), n(6), n(11)},
		{n(full), n(2), n(1)}, // it wraps round without signs, not with them
		{n(highest), n(highest), n(0)},
		// The sum of both Umax is just below 2^64; is it.
		{api.Bound{Umin: highest, Umax: full - 2, Smin: least, Smax: -3, Bits: minus.Bits}, to(1, 2, 0, 3),
			api.Bound{Umin: highest + 1, Umax: full, Smin: least + 1, Smax: -1, Bits: minus.Bits}},
		{with(all, func(b *api.Bound) { b.Umin, b.Umax = 5, full-1 }), n(1), with(all, func(b *api.Bound) { b.Umin = 6 })},
		{with(all, func(b *api.Bound) { b.Umin = 5 }), n(1), all},
		{api.Bound{Umin: highest, Umax: full - 1, Smin: least, Smax: -2, Bits: minus.Bits}, to(1, 2, 0, 3), signs(least+1, 0)},
		// The sum of both Smax is just 2^63 - 1; is above.
		{signs(-4, most-1), n(1), signs(-3, most)},
		{signs(-4, most), n(1), all},
		{to(1, most, 0, most), n(1), with(all, func(b *api.Bound) { b.Umin, b.Umax = 2, highest })},
		// The sum of both Smin is just -2^63; is below.
		{signs(least+1, 4), n(full), signs(least, 3)},
		{signs(least, 4), n(full), all},
		{with(all, func(b *api.Bound) { b.Bits = api.Tnum{Value: 4, Mask: full - 7} }), n(1), with(all, func(b *api.Bound) {
			b.Umin, b.Umax, b.Smin, b.Smax, b.Bits = 5, full-2, least+5, most-2, api.Tnum{Value: 5, Mask: full - 7}
		})},
	})
}

func TestWideSub(t *testing.T) {
	check(t, api.Sub, true, []example{
		{to(10, 20, 0, 31), to(1, 3, 0, 3), to(7, 19, 0, 31)},
		{n(5), n(6), n(full)},
		{n(0), n(highest), n(highest)},
		{to(10, 20, 0, 31), to(10, 12, 8, 7), signs(-2, 10)}, // a's Umin is below b's Umax
		{to(12, 20, 0, 31), to(10, 12, 8, 7), to(0, 10, 0, 15)},
		{with(all, func(b *api.Bound) { b.Umin = 1 }), n(1), with(all, func(b *api.Bound) { b.Umax = full - 1 })},
		{with(all, func(b *api.Bound) { b.Umin = 1 }), n(2), all},
		{with(all, func(b *api.Bound) { b.Umin = highest }), n(1), with(all, func(b *api.Bound) { b.Umin, b.Umax = most, full-1 })},
		// a's Smax less b's Smin is just 2^63 - 1; is above.
		{signs(-5, 0), n(highest + 1), to(most-5, most, most-7, 7)},
		{signs(-5, 0), n(highest), all},
		// a's Smin less b's Smax is just -2^63; is below.
		{signs(least+1, 0), n(1), minus},
		{signs(least, 0), n(1), all},
		{to(0, 5, 0, 7), n(highest), api.Bound{Umin: highest, Umax: highest + 7, Smin: least, Smax: least + 7, Bits: api.Tnum{Value: highest, Mask: 7}}},
	})
}

func TestWideNeg(t *testing.T) {
	check(t, api.Neg, true, []example{
		{n(0), all, n(0)},
		{n(5), all, n(full - 4)},
		{n(full), five, n(1)},
		{n(highest), all, n(highest)},
		{to(1, 3, 0, 3), all, api.Bound{Umin: full - 2, Umax: full, Smin: -3, Smax: -1, Bits: api.Tnum{Value: full - 3, Mask: 3}}},
		{to(0, 3, 0, 3), n(7), signs(-3, 0)},
		{signs(least+1, 7), all, signs(-7, most)},
		{signs(least, 7), all, all},
	})
}

func TestWideMul(t *testing.T) {
	check(t, api.Mul, true, []example{
		{to(2, 3, 2, 1), to(4, 5, 4, 1), to(8, 15, 8, 7)},
		{to(5, 6, 4, 3), to(5, 6, 4, 3), to(25, 36, 0, 63)},
		{n(6), n(7), n(42)},
		{n(full), n(full), n(1)},
		{n(1 << 32), n(1 << 32), n(0)},
		{four, four, with(all, func(b *api.Bound) { b.Umax = 1<<64 - 1<<33 + 1 })},
		// Umax is just 2^32 - 1, of either; is above: then there are the bits alone.
		{four, n(1), four},
		{n(1), four, four},
		{to(0, 1<<32, 0, 1<<33-1), n(1), to(0, 1<<33-1, 0, 1<<33-1)},
		{n(1), to(0, 1<<32, 0, 1<<33-1), to(0, 1<<33-1, 0, 1<<33-1)},
		{all, n(8), with(all, func(b *api.Bound) { b.Umax, b.Smax, b.Bits.Mask = full-7, most-7, full-7 })},
	})
}

func TestWideDiv(t *testing.T) {
	tens := to(10, 29, 0, 31)
	check(t, api.Div, true, []example{
		{tens, n(10), to(1, 2, 0, 3)},
		{tens, n(30), n(0)},
		{n(full), n(full), n(1)},
		{all, n(1), all},
		{all, n(2), to(0, most, 0, most)},
		{all, n(full), to(0, 1, 0, 1)},
		{tens, n(0), to(0, 29, 0, 31)},
		{tens, to(1, 2, 0, 3), to(0, 29, 0, 31)},
		{tens, to(5, 6, 4, 3), to(0, 29, 0, 31)},
		{tens, all, to(0, 29, 0, 31)},
		{below, n(2), to(most-4, most-2, most-7, 7)}, // without signs
	})
}

func TestWideMod(t *testing.T) {
	tens := to(10, 29, 0, 31)
	check(t, api.Mod, true, []example{
		{all, n(8), to(0, 7, 0, 7)},
		{all, to(1, 8, 0, 15), to(0, 7, 0, 7)},
		{all, to(0, 8, 0, 15), all},
		{tens, to(1, 8, 0, 15), to(0, 7, 0, 7)},
		{tens, to(1, 30, 0, 31), to(0, 29, 0, 31)},
		{tens, to(1, 31, 0, 31), to(0, 29, 0, 31)},
		{tens, all, to(0, 29, 0, 31)},
		{tens, n(0), to(0, 29, 0, 31)},
		{n(9), n(1), n(0)},
		{n(9), n(4), to(0, 3, 0, 3)},
		{all, n(full), with(all, func(b *api.Bound) { b.Umax-- })},
	})
}

func TestWideBits(t *testing.T) {
	loose := with(all, func(b *api.Bound) { b.Umax = 9 })
	check(t, api.And, true, []example{
		{all, n(7), to(0, 7, 0, 7)},
		{n(7), all, to(0, 7, 0, 7)},
		{to(12, 13, 12, 1), to(4, 6, 4, 3), to(4, 5, 4, 1)},
		{loose, all, to(0, 9, 0, 15)},
		{all, loose, to(0, 9, 0, 15)},
		{all, all, all},
		{minus, minus, minus},
		{minus, n(full - 7), api.Bound{Umin: highest, Umax: full - 7, Smin: least, Smax: -8, Bits: api.Tnum{Value: highest, Mask: most - 7}}},
	})
	check(t, api.Or, true, []example{
		{to(1, 2, 0, 3), to(8, 9, 8, 1), to(8, 11, 8, 3)},
		{n(5), n(10), n(15)},
		{all, five, with(all, func(b *api.Bound) { b.Umin = 5 })},
		{five, all, with(all, func(b *api.Bound) { b.Umin = 5 })},
		{five, to(6, 7, 6, 1), to(6, 15, 6, 9)},
		{all, minus, minus},
	})
	check(t, api.Xor, true, []example{
		{to(1, 2, 0, 3), to(8, 9, 8, 1), to(8, 11, 8, 3)},
		{n(5), n(5), n(0)},
		{five, five, to(0, 15, 0, 15)},
		{minus, minus, to(0, most, 0, most)},
		{all, five, all},
	})
}

func TestWideLsh(t *testing.T) {
	check(t, api.Lsh, true, []example{
		{to(1, 3, 0, 3), n(4), to(16, 48, 0, 48)},
		{to(1, 3, 0, 3), n(68), to(16, 48, 0, 48)},
		{to(1, 3, 0, 3), n(1<<32 + 4), to(16, 48, 0, 48)},
		{five, n(0), five},
		{five, n(64), five},
		{five, n(32), to(5<<32, 9<<32, 0, 15<<32)},
		{n(3), n(63), n(highest)},
		// Umax, shifted, is just at most 2^64 - 1; is above.
		{to(3, 7, 0, 7), n(61), api.Bound{Umin: 3 << 61, Umax: 7 << 61, Smin: least, Smax: 3 << 61, Bits: api.Tnum{Mask: 7 << 61}}},
		{to(3, 8, 0, 15), n(61), api.Bound{Umin: 0, Umax: 7 << 61, Smin: least, Smax: 3 << 61, Bits: api.Tnum{Mask: 7 << 61}}},
		{with(all, func(b *api.Bound) { b.Umin = 1 }), n(0), with(all, func(b *api.Bound) { b.Umin = 1 })},
		{five, to(1, 2, 0, 3), all},
		{n(0), all, all},
	})
}

func TestWideRsh(t *testing.T) {
	check(t, api.Rsh, true, []example{
		{to(16, 48, 0, 63), n(4), to(1, 3, 0, 3)},
		{to(16, 48, 0, 63), n(68), to(1, 3, 0, 3)},
		{five, n(64), five},
		{five, n(32), n(0)},
		{all, n(63), to(0, 1, 0, 1)},
		{n(full), n(1), n(most)},
		{with(all, func(b *api.Bound) { b.Bits.Mask = full - 15 }), n(2), to(0, 1<<62-4, 0, 1<<62-4)},
		{five, all, to(0, 9, 0, 15)},
		{five, to(1, 2, 0, 3), to(0, 9, 0, 15)},
		{all, all, all},
		{below, all, with(all, func(b *api.Bound) { b.Umax = full - 4 })},
	})
}

func TestWideArsh(t *testing.T) {
	check(t, api.Arsh, true, []example{
		{n(full), n(4), n(full)},
		{n(highest), n(63), n(full)},
		{below, n(2), api.Bound{Umin: full - 2, Umax: full - 1, Smin: -3, Smax: -2, Bits: api.Tnum{Value: full - 3, Mask: 3}}},
		{below, n(66), api.Bound{Umin: full - 2, Umax: full - 1, Smin: -3, Smax: -2, Bits: api.Tnum{Value: full - 3, Mask: 3}}},
		{below, n(64), below},
		{five, n(2), to(1, 2, 0, 3)},
		{five, n(32), n(0)},
		{all, n(63), signs(-1, 0)},
		{signs(-8, 7), n(2), signs(-2, 1)},
		{to(1<<31, 1<<32, 0, 1<<33-1), n(31), to(1, 2, 0, 3)},
		{five, all, all},
		{n(0), to(1, 2, 0, 3), all},
	})
}

func TestWideMov(t *testing.T) {
	check(t, api.Mov, true, []example{
		{all, five, five},
		{five, all, all},
		{n(1), n(full), n(full)},
		{all, api.Bound{Umax: 5, Smin: -3, Smax: 9, Bits: api.Tnum{Mask: full}}, to(0, 5, 0, 7)}, // tidy
	})
}

func TestNotWideSums(t *testing.T) {
	check(t, api.Add, false, []example{
		{to(1, 3, 0, 3), to(10, 20, 0, 31), to(11, 23, 0, 31)},
		{n(1<<32 - 1), n(1), n(0)},
		{n(full), n(full), n(1<<32 - 2)},
		{to(1<<32-2, 1<<32-1, 1<<32-2, 1), n(1), four},
		{to(1<<32+1, 1<<32+3, 1<<32, 3), n(10), to(10, 13, 8, 7)}, // of its lowest 32 bits it is known that they are from 0 to 3
		{n(1 << 40), five, five},
		{all, all, four},
	})
	check(t, api.Sub, false, []example{
		{n(0), n(1), n(1<<32 - 1)},
		{n(1 << 32), n(1), n(1<<32 - 1)},
		{to(10, 20, 0, 31), to(1, 3, 0, 3), to(7, 19, 0, 31)},
		{to(10, 20, 0, 31), to(10, 12, 8, 7), four},
	})
	check(t, api.Neg, false, []example{
		{n(1), all, n(1<<32 - 1)},
		{n(1<<32 + 1), all, n(1<<32 - 1)},
		{n(1 << 31), all, n(1 << 31)},
		{n(1 << 32), all, n(0)},
		{to(1, 3, 0, 3), all, to(1<<32-4, 1<<32-1, 1<<32-4, 3)},
	})
}

func TestNotWideProducts(t *testing.T) {
	check(t, api.Mul, false, []example{
		{n(1 << 31), n(2), n(0)},
		{n(1<<32 + 6), n(1<<40 + 7), n(42)},
		{to(2, 3, 2, 1), to(4, 5, 4, 1), to(8, 15, 8, 7)},
		{four, four, four},
		{to(0, 1<<32, 0, 1<<33-1), n(1), four},
	})
	check(t, api.Div, false, []example{
		{all, n(1<<32 + 2), to(0, 1<<31-1, 0, 1<<31-1)},
		{all, n(1 << 32), four}, // it is 0
		{n(1<<32 + 9), n(2), n(4)},
		{five, all, to(0, 9, 0, 15)},
	})
	check(t, api.Mod, false, []example{
		{all, n(1<<32 + 8), to(0, 7, 0, 7)},
		{five, n(1 << 32), to(0, 9, 0, 15)},
		{n(1<<32 + 3), all, to(0, 3, 0, 3)},
		{all, all, four},
	})
}

func TestNotWideBits(t *testing.T) {
	check(t, api.And, false, []example{
		{all, n(full), four},
		{n(full), n(1<<32 + 6), n(6)},
	})
	check(t, api.Or, false, []example{
		{all, n(1<<32 + 4), to(4, 1<<32-1, 4, 1<<32-5)},
		{all, five, to(5, 1<<32-1, 0, 1<<32-1)},
		{n(1 << 40), n(1), n(1)},
	})
	check(t, api.Xor, false, []example{
		{n(full), n(0), n(1<<32 - 1)},
		{all, all, four},
		{five, five, to(0, 15, 0, 15)},
	})
	check(t, api.Mov, false, []example{
		{five, n(full), n(1<<32 - 1)},
		{five, all, four},
		{all, five, five},
		{five, n(1 << 32), n(0)},
		{all, api.Bound{Umax: 5, Smin: -3, Smax: 9, Bits: api.Tnum{Mask: full}}, to(0, 5, 0, 7)},
	})
}

// three tells nothing from 0 to 63 but, of its lowest 32 bits, that they are 3.
var three = with(all, func(b *api.Bound) { b.Bits = api.Tnum{Value: 3, Mask: 1<<64 - 1<<32} })

func TestNotWideShifts(t *testing.T) {
	check(t, api.Lsh, false, []example{
		{n(1), n(31), n(1 << 31)},
		{n(2), n(31), n(0)},
		{n(5), n(32), n(5)},
		{n(5), n(33), n(10)},
		{n(1<<32 + 1), n(63), n(1 << 31)},
		{n(1), n(1<<32 + 1), n(2)},
		{n(1), three, n(8)},
		{to(0, 1<<31, 0, 1<<32-1), n(1), to(0, 1<<32-2, 0, 1<<32-2)},
		{n(1), to(1, 2, 0, 3), four},
		{n(0), all, four},
	})
	check(t, api.Rsh, false, []example{
		{n(full), n(4), n(1<<28 - 1)},
		{n(full), n(32), n(1<<32 - 1)},
		{n(5), n(33), n(2)},
		{n(64), three, n(8)},
		{five, all, to(0, 9, 0, 15)},
		{all, all, four},
		{to(16, 48, 0, 63), n(36), to(1, 3, 0, 3)},
	})
	check(t, api.Arsh, false, []example{
		{n(1<<31 - 1), n(4), n(1<<27 - 1)},
		{n(1 << 31), n(4), four},
		{n(1 << 31), n(0), four},
		{n(full), n(32), four},
		{to(0, 1<<31-1, 0, 1<<31-1), n(30), to(0, 1, 0, 1)},
		{to(0, 1<<31, 0, 1<<32-1), n(30), four},
		{n(1<<32 + 8), n(1), n(4)},
		{n(8), n(33), n(4)},
		{n(64), three, n(8)},
		{n(8), n(32), n(8)},
		{five, to(1, 2, 0, 3), four}, // without a Value it is not as Rsh
		{n(0), all, four},
	})
}

// few are numbers of which two times of narrowing leave 24 and 25, with the bits of 24 alone, and a third time leaves 24.
var few = with(all, func(b *api.Bound) { b.Umin, b.Umax, b.Bits = 16, 25, api.Tnum{Value: 8, Mask: 22} })

// shiftedFew are few times two.
var shiftedFew = with(all, func(b *api.Bound) { b.Umin, b.Umax, b.Bits = 32, 50, api.Tnum{Value: 16, Mask: 44} })

// TestWideIsTidiedOnce: a third time might make it narrower still, but it is not Tidied again.
func TestWideIsTidiedOnce(t *testing.T) {
	b := with(all, func(b *api.Bound) { b.Umin, b.Umax, b.Bits = 2, 4, api.Tnum{Value: 1, Mask: 10} })
	check(t, api.Mov, true, []example{
		{all, b, to(2, 3, 3, 0)},
		{all, few, to(24, 25, 24, 0)},
		{n(0), shiftedFew, to(48, 50, 48, 0)},
	})
	check(t, api.Add, true, []example{{few, n(0), to(24, 25, 24, 0)}, {n(0), few, to(24, 25, 24, 0)}})
	check(t, api.Sub, true, []example{{few, n(0), to(24, 25, 24, 0)}})
	check(t, api.Lsh, true, []example{{few, n(0), to(24, 25, 24, 0)}, {few, n(1), to(48, 50, 48, 0)}})
}

// TestNotWideIsTidiedBehindLow: Low leaves what is tidy as it is, and then it is made tidy as all that follows is.
func TestNotWideIsTidiedBehindLow(t *testing.T) {
	b := with(all, func(b *api.Bound) { b.Umin, b.Umax, b.Bits = 2, 4, api.Tnum{Value: 1, Mask: 10} })
	check(t, api.Mov, false, []example{{all, b, n(3)}, {all, few, n(24)}, {few, few, n(24)}, {n(0), shiftedFew, n(48)}})
	check(t, api.Add, false, []example{{few, n(0), n(24)}, {n(0), few, n(24)}, {few, n(1 << 32), n(24)}})
	check(t, api.Sub, false, []example{{few, n(0), n(24)}})
	check(t, api.Lsh, false, []example{{few, n(32), n(24)}, {few, n(1), n(48)}})
	check(t, api.Rsh, false, []example{{few, n(0), n(24)}, {shiftedFew, n(1), n(24)}})
	check(t, api.Arsh, false, []example{{few, n(0), n(24)}, {shiftedFew, n(33), n(24)}})
}

// empty are bounds that may be, but no number is in.
var empty = []api.Bound{
	with(five, func(b *api.Bound) { b.Bits.Value = 16 }),
	with(five, func(b *api.Bound) { b.Smin, b.Smax = 10, 14 }),
	with(five, func(b *api.Bound) { b.Smin, b.Smax = -9, -5 }),
}

func TestWhatIsEmptyIsAny(t *testing.T) {
	for _, b := range empty {
		check(t, api.Mov, true, []example{{five, b, all}})
		check(t, api.Mov, false, []example{{five, b, four}})
		check(t, api.Add, true, []example{{n(0), b, all}})
		check(t, api.Sub, false, []example{{b, n(0), four}})
	}
}

func TestNoOperation(t *testing.T) {
	bad := with(five, func(b *api.Bound) { b.Umax = 4 })
	for _, op := range []int{
		least, -0x10, -1, 1, 7, api.ByReg, api.Add | api.ByReg, api.Mov | api.ByReg, 0x0f, 0x11, 0x1f, 0xbf, 0xc1, 0xc8,
		0xd0, 0xe0, 0xf0, 0x100, 0x1b0, 1 << 32, 1<<32 + 0xb0, most,
	} {
		for _, b := range []api.Bound{n(1), five, all, bad, empty[0], {}} {
			for _, wide := range []bool{true, false} {
				for _, of := range [][2]api.Bound{{b, five}, {five, b}} {
					if got, ok := arith.Alu(op, of[0], of[1], wide); got != all || ok {
						t.Fatalf("Alu(%#x, %#x, %#x, %v) = %#x, %v", op, of[0], of[1], wide, got, ok)
					}
				}
			}
		}
	}
	for op := range 1 << 9 {
		if _, ok := arith.Alu(op, five, five, true); ok != (op%16 == 0 && op <= 0xc0) {
			t.Errorf("is %#x an operation? %v", op, ok)
		}
	}
}

// TestBoundsThatMayNotBe: whether it is wide, or needs that operand, makes no difference.
func TestBoundsThatMayNotBe(t *testing.T) {
	for _, bad := range []api.Bound{
		with(five, func(b *api.Bound) { b.Umax = 4 }),
		with(five, func(b *api.Bound) { b.Smax = 4 }),
		with(five, func(b *api.Bound) { b.Bits.Value = 8 }),
		{Umin: full, Smin: most, Smax: least, Bits: api.Tnum{Value: full, Mask: full}},
	} {
		for _, op := range operations {
			for _, wide := range []bool{true, false} {
				check(t, op, wide, []example{{bad, n(1), all}, {n(1), bad, all}, {bad, bad, all}})
			}
		}
	}
}
