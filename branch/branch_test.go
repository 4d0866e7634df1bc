package branch_test

import (
	"testing"

	"clevis/api"
	"clevis/bound"
	"clevis/branch"
	"clevis/word"
)

// The numbers that tests ask about.
var (
	all   = api.Bound{Umax: full, Smin: least, Smax: most, Bits: api.Tnum{Mask: full}}
	none  = api.Bound{Umin: 1} // a mark, since the zero Bound, which stands beside false, is Const(0), too
	five  = to(5, 9, 0, 15)
	below = api.Bound{Umin: full - 8, Umax: full - 4, Smin: -9, Smax: -5, Bits: api.Tnum{Value: full - 15, Mask: 15}}
	minus = api.Bound{Umin: highest, Umax: full, Smin: least, Smax: -1, Bits: api.Tnum{Value: highest, Mask: most}}
	plus  = to(0, most, 0, most)
	n     = bound.Const
)

// to answers the numbers from low to high, below 2^63, that have such bits.
func to(low, high, value, mask uint64) api.Bound {
	return api.Bound{Umin: low, Umax: high, Smin: int64(low), Smax: int64(high), Bits: api.Tnum{Value: value, Mask: mask}}
}

// plain answers numbers of which it is known alone from where to where they are without signs.
func plain(low, high uint64) api.Bound {
	return with(all, func(b *api.Bound) { b.Umin, b.Umax = low, high })
}

// signs answers numbers of which it is known alone from where to where they are with signs.
func signs(low, high int64) api.Bound {
	return with(all, func(b *api.Bound) { b.Smin, b.Smax = low, high })
}

// having answers numbers of which the bits alone are known.
func having(value, mask uint64) api.Bound {
	return with(all, func(b *api.Bound) { b.Bits = api.Tnum{Value: value, Mask: mask} })
}

// with answers a bound with one part changed.
func with(b api.Bound, change func(b *api.Bound)) api.Bound {
	change(&b)
	return b
}

// example says what is known behind a condition of a and b; of what cannot be, left is none.
type example struct{ a, b, left, right api.Bound }

// check asks for wide numbers.
func check(t *testing.T, op int, holds bool, l []example) {
	t.Helper()
	for _, c := range l {
		ask(t, op, c, true, holds)
	}
}

func ask(t *testing.T, op int, c example, wide, holds bool) {
	t.Helper()
	can := c.left != none
	if !can {
		c.left, c.right = api.Bound{}, api.Bound{}
	}
	if left, right, ok := branch.Refine(op, c.a, c.b, wide, holds); left != c.left || right != c.right || ok != can {
		t.Errorf("Refine(%#x, %#x, %#x, %v, %v) = %#x, %#x, %v; want %#x, %#x, %v", op, c.a, c.b, wide, holds, left, right, ok, c.left, c.right, can)
	}
}

func TestOpposite(t *testing.T) {
	opposite := map[int]int{}
	for _, p := range pairs {
		opposite[p[0]], opposite[p[1]] = p[1], p[0]
	}
	l := []int{least, -0x110, 1 << 32, 1<<32 + api.Jeq, 1<<62 + api.Jgt, most}
	for op := range 1 << 10 {
		l = append(l, op, -op)
	}
	for _, op := range l {
		want, ok := opposite[op]
		if !ok {
			want = -1 // of Jset, too
		}
		if got := branch.Opposite(op); got != want {
			t.Errorf("Opposite(%#x) = %#x; want %#x", op, got, want)
		}
	}
}

// TestOppositeHoldsIfAndOnlyIfItDoesNot asks layer 1.
func TestOppositeHoldsIfAndOnlyIfItDoesNot(t *testing.T) {
	for _, op := range conditions {
		other := branch.Opposite(op)
		if op == api.Jset {
			continue
		}
		for _, x := range edges {
			for _, y := range edges {
				for _, wide := range both {
					one, _ := word.Cond(op, x, y, wide)
					if second, ok := word.Cond(other, x, y, wide); second == one || !ok {
						t.Fatalf("%#x and %#x of %#x and %#x (wide %v): %v both", op, other, x, y, wide, one)
					}
				}
			}
		}
	}
}

func TestTheChaptersExamples(t *testing.T) {
	check(t, api.Jlt, true, []example{{bound.Any(), n(10), to(0, 9, 0, 15), n(10)}})
	check(t, api.Jgt, true, []example{{n(1), n(1), none, none}})
}

func TestKnownNumbers(t *testing.T) {
	for _, op := range conditions {
		for _, x := range edges {
			for _, y := range edges {
				for _, wide := range both {
					met, _ := word.Cond(op, x, y, wide)
					ask(t, op, example{n(x), n(y), n(x), n(y)}, wide, met)
					ask(t, op, example{n(x), n(y), none, none}, wide, !met)
				}
			}
		}
	}
}

// TestKnownNumbersStay: what has a Value stays, and is not made tidy, though that would be empty.
func TestKnownNumbersStay(t *testing.T) {
	loose := plain(7, 7)
	odd := with(loose, func(b *api.Bound) { b.Smin, b.Smax = 8, 9 })
	wrong := with(loose, func(b *api.Bound) { b.Bits = api.Tnum{Value: 8} })
	for _, a := range []api.Bound{loose, odd, wrong, {Umin: 7, Umax: 7}} {
		for _, wide := range both {
			ask(t, api.Jeq, example{a, n(7), a, n(7)}, wide, true)
			ask(t, api.Jeq, example{n(7), a, none, none}, wide, false)
			ask(t, api.Jgt, example{n(8), a, n(8), a}, wide, true)
			ask(t, api.Jset, example{a, a, a, a}, wide, true)
			ask(t, api.Jset, example{a, n(8), a, n(8)}, wide, false)
			ask(t, api.Jset, example{a, n(8), none, none}, wide, true)
		}
	}
	// Of 32 bits these are the same.
	ask(t, api.Jeq, example{n(7), n(1<<32 + 7), n(7), n(1<<32 + 7)}, false, true)
	ask(t, api.Jeq, example{n(7), n(1<<32 + 7), none, none}, true, true)
	ask(t, api.Jslt, example{n(short), n(1), n(short), n(1)}, false, true)
	ask(t, api.Jslt, example{n(short), n(1), none, none}, true, true)
}

func TestEqual(t *testing.T) {
	for _, op := range []int{api.Jeq, api.Jne} {
		check(t, op, op == api.Jeq, []example{
			{all, n(7), n(7), n(7)},
			{n(7), all, n(7), n(7)},
			{five, to(8, 12, 8, 7), to(8, 9, 8, 1), to(8, 9, 8, 1)},
			{five, to(9, 12, 8, 7), n(9), n(9)},
			{five, to(10, 12, 8, 7), none, none},
			{five, n(4), none, none},
			{below, plus, none, none},
			{minus, signs(-3, 5), api.Bound{Umin: full - 2, Umax: full, Smin: -3, Smax: -1, Bits: api.Tnum{Value: full - 3, Mask: 3}}, api.Bound{Umin: full - 2, Umax: full, Smin: -3, Smax: -1, Bits: api.Tnum{Value: full - 3, Mask: 3}}},
			{having(1, full-1), having(0, full-1), none, none}, // an odd number is no even one
			{having(1, full-1), five, to(5, 9, 1, 14), to(5, 9, 1, 14)},
			{all, all, all, all},
		})
	}
}

// few are numbers of which two times of narrowing leave 24 and 25, with the bits of 24 alone, and a third time leaves 24.
var few = with(all, func(b *api.Bound) { b.Umin, b.Umax, b.Bits = 16, 25, api.Tnum{Value: 8, Mask: 22} })

// TestEqualIsTidiedBehindMeet: Meet makes tidy, and then both are made tidy once more, as all is; what else is narrowed is made tidy once.
func TestEqualIsTidiedBehindMeet(t *testing.T) {
	check(t, api.Jeq, true, []example{{few, all, n(24), n(24)}, {all, few, n(24), n(24)}})
	check(t, api.Jne, false, []example{{few, all, n(24), n(24)}})
	check(t, api.Jle, true, []example{{few, all, to(24, 25, 24, 0), with(all, func(b *api.Bound) { b.Umin = 16 })}})
	ask(t, api.Jeq, example{few, to(0, short, 0, short), n(24), n(24)}, false, true)
}

func TestUnequal(t *testing.T) {
	l := []example{
		{all, n(0), with(all, func(b *api.Bound) { b.Umin = 1 }), n(0)},
		{all, n(full), with(all, func(b *api.Bound) { b.Umax = full - 1 }), n(full)},
		{all, n(most), with(all, func(b *api.Bound) { b.Smax = most - 1 }), n(most)},
		{all, n(highest), with(all, func(b *api.Bound) { b.Smin = least + 1 }), n(highest)},
		{all, n(7), all, n(7)},
		{five, n(5), to(6, 9, 0, 15), n(5)},
		{five, n(9), to(5, 8, 0, 15), n(9)},
		{five, n(6), five, n(6)},
		{five, n(4), five, n(4)},
		{to(5, 6, 4, 3), n(5), n(6), n(5)},
		{to(5, 6, 4, 3), n(6), n(5), n(6)},
		{below, n(full - 8), api.Bound{Umin: full - 7, Umax: full - 4, Smin: -8, Smax: -5, Bits: api.Tnum{Value: full - 7, Mask: 3}}, n(full - 8)},
		{below, n(full - 4), api.Bound{Umin: full - 8, Umax: full - 5, Smin: -9, Smax: -6, Bits: below.Bits}, n(full - 4)},
		{minus, n(highest), api.Bound{Umin: highest + 1, Umax: full, Smin: least + 1, Smax: -1, Bits: minus.Bits}, n(highest)},
		{plus, n(most), to(0, most-1, 0, most), n(most)},
		{minus, n(full), api.Bound{Umin: highest, Umax: full - 1, Smin: least, Smax: -2, Bits: minus.Bits}, n(full)},
		{signs(-3, 5), n(full - 2), signs(-2, 5), n(full - 2)},
		{signs(-3, 5), n(5), signs(-3, 4), n(5)},
		{signs(-3, 5), n(0), with(signs(-3, 5), func(b *api.Bound) { b.Umin = 1 }), n(0)},
		{plain(5, full), n(5), plain(6, full), n(5)},
		// An end beyond which there is no number stays, and with the other one gone it is empty; so is what is one number with signs.
		{with(all, func(b *api.Bound) { b.Smin = most }), n(most), none, none},
		{with(all, func(b *api.Bound) { b.Smax = least }), n(highest), none, none},
		{with(all, func(b *api.Bound) { b.Smin, b.Smax = 3, 3 }), n(3), none, none},
		{to(5, 9, 5, 8), n(5), to(6, 9, 5, 8), n(5)}, // by its bits it is 13, which making tidy does not see
		// Nothing is known of two numbers that are not known, but both are made tidy.
		{five, five, five, five},
		{plain(0, 9), five, to(0, 9, 0, 15), five},
	}
	for _, op := range []int{api.Jne, api.Jeq} {
		check(t, op, op == api.Jne, l)
		for _, c := range l {
			ask(t, op, c.turned(), true, op == api.Jne)
		}
	}
}

// turned is the example seen from b.
func (c example) turned() example { return example{c.b, c.a, c.right, c.left} }

// byOrder asks for l of less, and for the same told in other words: of the opposite that does not hold, and of what stands the other way round.
func byOrder(t *testing.T, less, more int, l []example) {
	t.Helper()
	opposite := map[int]int{api.Jlt: api.Jge, api.Jgt: api.Jle, api.Jle: api.Jgt, api.Jge: api.Jlt, api.Jslt: api.Jsge, api.Jsgt: api.Jsle, api.Jsle: api.Jsgt, api.Jsge: api.Jslt}
	for _, c := range l {
		ask(t, less, c, true, true)
		ask(t, opposite[less], c, true, false)
		ask(t, more, c.turned(), true, true)
		ask(t, opposite[more], c.turned(), true, false)
	}
}

func TestLess(t *testing.T) {
	byOrder(t, api.Jlt, api.Jgt, []example{
		{all, n(10), to(0, 9, 0, 15), n(10)},
		{n(10), all, n(10), plain(11, full)},
		{all, all, plain(0, full-1), plain(1, full)},
		{all, n(1), n(0), n(1)},
		{all, n(0), none, none},
		{n(full), all, none, none},
		{n(full - 1), all, n(full - 1), n(full)},
		{all, plain(0, 5), to(0, 4, 0, 7), to(1, 5, 0, 7)},
		{five, five, to(5, 8, 0, 15), to(6, 9, 0, 15)},
		{five, n(5), none, none},
		{five, n(6), n(5), n(6)},
		{five, n(9), to(5, 8, 0, 15), n(9)},
		{five, n(10), five, n(10)},
		{n(9), five, none, none},
		{n(8), five, n(8), n(9)},
		{n(4), five, n(4), five},
		{below, five, none, none}, // without signs it is greater
		{five, below, five, below},
		{all, n(highest), plus, n(highest)},
		{n(most), all, n(most), minus},
		{plain(3, 9), plain(20, 30), to(3, 9, 0, 15), to(20, 30, 16, 15)}, // nothing but tidy
	})
}

func TestAtMost(t *testing.T) {
	byOrder(t, api.Jle, api.Jge, []example{
		{all, n(10), to(0, 10, 0, 15), n(10)},
		{n(10), all, n(10), plain(10, full)},
		{all, all, all, all},
		{all, n(0), n(0), n(0)},
		{n(full), all, n(full), n(full)},
		{n(0), all, n(0), all},
		{all, n(full), all, n(full)},
		{all, plain(0, 5), to(0, 5, 0, 7), to(0, 5, 0, 7)},
		{five, to(2, 6, 0, 7), to(5, 6, 4, 3), to(5, 6, 4, 3)},
		{five, n(5), n(5), n(5)},
		{five, n(4), none, none},
		{n(9), five, n(9), n(9)},
		{n(10), five, none, none},
		{below, five, none, none},
		{five, below, five, below},
		{all, n(most), plus, n(most)},
		{n(highest), all, n(highest), minus},
	})
}

func TestLessWithSigns(t *testing.T) {
	byOrder(t, api.Jslt, api.Jsgt, []example{
		{all, n(10), signs(least, 9), n(10)},
		{n(10), all, n(10), to(11, most, 0, most)},
		{all, all, signs(least, most-1), signs(least+1, most)},
		{all, n(0), minus, n(0)},
		{all, n(highest + 1), n(highest), n(highest + 1)},
		{all, n(highest), none, none},
		{n(most), all, none, none},
		{signs(most, most), signs(least, least), none, none}, // neither has a Value, not being tidy
		{signs(most, most), all, none, none},
		{all, signs(least, least), none, none},
		{n(most - 1), all, n(most - 1), n(most)},
		{n(full), all, n(full), plus},
		{plus, all, to(0, most-1, 0, most), to(1, most, 0, most)},
		{all, minus, api.Bound{Umin: highest, Umax: full - 1, Smin: least, Smax: -2, Bits: minus.Bits}, api.Bound{Umin: highest + 1, Umax: full, Smin: least + 1, Smax: -1, Bits: minus.Bits}},
		{five, five, to(5, 8, 0, 15), to(6, 9, 0, 15)},
		{five, n(5), none, none},
		{below, five, below, five},
		{five, below, none, none}, // with signs it is less
		{signs(-3, 5), signs(-7, 2), signs(-3, 1), signs(-2, 2)},
	})
}

func TestAtMostWithSigns(t *testing.T) {
	byOrder(t, api.Jsle, api.Jsge, []example{
		{all, n(10), signs(least, 10), n(10)},
		{n(10), all, n(10), to(10, most, 0, most)},
		{all, all, all, all},
		{all, n(full), minus, n(full)},
		{all, n(highest), n(highest), n(highest)},
		{n(most), all, n(most), n(most)},
		{all, n(most), all, n(most)},
		{n(highest), all, n(highest), all},
		{n(0), all, n(0), plus},
		{five, n(5), n(5), n(5)},
		{five, n(4), none, none},
		{below, five, below, five},
		{five, below, none, none},
		{signs(-3, 5), signs(-7, 2), signs(-3, 2), signs(-3, 2)},
	})
}

func TestABitInCommon(t *testing.T) {
	check(t, api.Jset, true, []example{
		{all, n(8), with(having(8, full-8), func(b *api.Bound) { b.Umin, b.Smin = 8, least+8 }), n(8)},
		{all, n(1), with(having(1, full-1), func(b *api.Bound) { b.Umin, b.Smin = 1, least+1 }), n(1)},
		{all, n(highest), minus, n(highest)},
		{plus, n(highest), none, none},
		{five, n(8), to(8, 9, 8, 1), n(8)},
		{five, n(16), none, none},
		{n(7), to(8, 9, 8, 1), n(7), to(8, 9, 8, 1)}, // of b nothing is learned
		{n(8), all, n(8), all},
		// b is no power of two: nothing, though it cannot be.
		{five, n(0), five, n(0)},
		{five, n(9), five, n(9)},
		{five, n(48), five, n(48)},
		{all, n(full), all, n(full)},
		{all, n(highest + 1), all, n(highest + 1)},
		{all, to(8, 9, 8, 1), all, to(8, 9, 8, 1)},
		{all, having(8, 0), all, n(8)},             // its bits are known, but it has no Value till it is tidy
		{plain(0, 9), n(0), to(0, 9, 0, 15), n(0)}, // but both are made tidy
	})
}

func TestNoBitInCommon(t *testing.T) {
	check(t, api.Jset, false, []example{
		{all, n(7), api.Bound{Umax: full - 7, Smin: least, Smax: most - 7, Bits: api.Tnum{Mask: full - 7}}, n(7)},
		{all, n(highest), plus, n(highest)},
		{all, n(full - 7), to(0, 7, 0, 7), n(full - 7)},
		{all, n(full), n(0), n(full)},
		{five, n(0), five, n(0)},
		{five, n(8), to(5, 7, 4, 3), n(8)},
		{five, n(7), to(5, 8, 0, 8), n(7)}, // what is least goes by the bits that are known as one alone
		{minus, n(highest), none, none},
		{minus, n(highest + 1), none, none},
		{to(8, 9, 8, 1), n(12), none, none},
		{five, n(15), none, none},                    // the bits agree, but there is no such number
		{n(7), to(8, 9, 8, 1), n(7), to(8, 9, 8, 1)}, // of b nothing is learned
		{all, to(8, 9, 8, 1), all, to(8, 9, 8, 1)},
		{n(full), all, n(full), all},
		{plain(0, 9), all, to(0, 9, 0, 15), all}, // but both are made tidy
	})
}

// TestNotWide: Umax alone says whether anything is learned; else both stay, and are not made tidy.
func TestNotWide(t *testing.T) {
	at, over := plain(3, short), plain(3, short+1)
	tidy := to(3, short, 0, short)
	for _, c := range []struct {
		op    int
		right api.Bound // of tidy and what is from 0 to 9
	}{
		{api.Jlt, to(4, 9, 0, 15)}, {api.Jle, to(3, 9, 0, 15)}, {api.Jgt, to(0, 9, 0, 15)}, {api.Jge, to(0, 9, 0, 15)},
		{api.Jne, to(0, 9, 0, 15)}, {api.Jset, to(0, 9, 0, 15)},
	} {
		_, right, ok := branch.Refine(c.op, at, plain(0, 9), false, true)
		if right != c.right || !ok {
			t.Errorf("Refine(%#x, %#x, from 0 to 9, false, true): %#x, %v; want %#x", c.op, at, right, ok, c.right)
		}
	}
	ask(t, api.Jlt, example{at, n(10), to(3, 9, 0, 15), n(10)}, false, true)
	ask(t, api.Jlt, example{at, n(10), to(10, short, 0, short), n(10)}, false, false)
	ask(t, api.Jeq, example{at, tidy, tidy, tidy}, false, true)
	ask(t, api.Jne, example{at, n(3), to(4, short, 0, short), n(3)}, false, true)
	ask(t, api.Jset, example{at, n(1 << 31), to(1<<31, short, 1<<31, 1<<31-1), n(1 << 31)}, false, true)
	ask(t, api.Jset, example{at, n(1 << 31), to(3, 1<<31-1, 0, 1<<31-1), n(1 << 31)}, false, false)
	for _, op := range conditions {
		for _, holds := range both {
			for _, b := range []api.Bound{n(10), n(0), all, five, n(1 << 32), at} {
				ask(t, op, example{over, b, over, b}, false, holds)
				ask(t, op, example{b, over, b, over}, false, holds)
			}
			ask(t, op, example{all, all, all, all}, false, holds)
			ask(t, op, example{below, n(8), below, n(8)}, false, holds)
			ask(t, op, example{five, n(1 << 32), five, n(1 << 32)}, false, holds)
			ask(t, op, example{few, n(full), few, n(full)}, false, holds)
		}
	}
}

func TestNotWideWithSigns(t *testing.T) {
	at, over := plain(3, 1<<31-1), plain(3, 1<<31)
	tidy := to(3, 1<<31-1, 0, 1<<31-1)
	ask(t, api.Jslt, example{at, n(10), to(3, 9, 0, 15), n(10)}, false, true)
	ask(t, api.Jslt, example{at, n(10), to(10, 1<<31-1, 0, 1<<31-1), n(10)}, false, false)
	ask(t, api.Jsle, example{at, n(10), to(3, 10, 0, 15), n(10)}, false, true)
	ask(t, api.Jsgt, example{at, n(10), to(11, 1<<31-1, 0, 1<<31-1), n(10)}, false, true)
	ask(t, api.Jsge, example{at, n(1<<31 - 1), n(1<<31 - 1), n(1<<31 - 1)}, false, true)
	ask(t, api.Jsge, example{at, n(3), tidy, n(3)}, false, true)
	for _, op := range []int{api.Jslt, api.Jsle, api.Jsgt, api.Jsge} {
		for _, holds := range both {
			for _, b := range []api.Bound{n(10), five, n(1 << 31), at, n(short)} {
				ask(t, op, example{over, b, over, b}, false, holds)
				ask(t, op, example{b, over, b, over}, false, holds)
			}
			ask(t, op, example{five, n(1 << 31), five, n(1 << 31)}, false, holds)
		}
	}
	// Without signs these are short enough.
	ask(t, api.Jlt, example{over, n(10), to(3, 9, 0, 15), n(10)}, false, true)
	ask(t, api.Jlt, example{five, n(1 << 31), five, n(1 << 31)}, false, true)
	ask(t, api.Jge, example{five, n(1 << 31), none, none}, false, true)
}

// TestEmptyBounds: what may be, but has no number, cannot be.
func TestEmptyBounds(t *testing.T) {
	for _, b := range []api.Bound{
		with(five, func(b *api.Bound) { b.Bits.Value = 16 }),
		with(five, func(b *api.Bound) { b.Smin, b.Smax = 10, 14 }),
		with(five, func(b *api.Bound) { b.Smin, b.Smax = -9, -5 }),
	} {
		for _, op := range conditions {
			for _, wide := range both {
				for _, holds := range both {
					ask(t, op, example{b, n(7), none, none}, wide, holds)
					ask(t, op, example{n(7), b, none, none}, wide, holds)
					ask(t, op, example{to(0, 99, 0, 127), b, none, none}, wide, holds)
				}
			}
		}
	}
}

func TestNoCondition(t *testing.T) {
	bad := with(five, func(b *api.Bound) { b.Umax = 4 })
	is := map[int]bool{}
	for _, op := range conditions {
		is[op] = true
	}
	l := []int{least, -0x10, -1, 1 << 32, 1<<32 + api.Jeq, most}
	for op := range 1 << 9 {
		l = append(l, op, -op)
	}
	for _, op := range l {
		if is[op] {
			continue
		}
		for _, b := range []api.Bound{n(1), five, all, bad, few, {}, plain(3, 5)} {
			for _, wide := range both {
				for _, holds := range both {
					stays(t, op, five, b, wide, holds)
					stays(t, op, b, n(7), wide, holds)
				}
			}
		}
	}
}

// stays fails if a and b are not answered as they are.
func stays(t *testing.T, op int, a, b api.Bound, wide, holds bool) {
	t.Helper()
	if left, right, ok := branch.Refine(op, a, b, wide, holds); left != a || right != b || !ok {
		t.Errorf("Refine(%#x, %#x, %#x, %v, %v) = %#x, %#x, %v; want them as they are", op, a, b, wide, holds, left, right, ok)
	}
}

// TestBoundsThatMayNotBe: with a Value, or not, they stay, and so does the other one.
func TestBoundsThatMayNotBe(t *testing.T) {
	for _, bad := range []api.Bound{
		with(five, func(b *api.Bound) { b.Umax = 4 }),
		with(five, func(b *api.Bound) { b.Smax = 4 }),
		with(five, func(b *api.Bound) { b.Bits.Value = 8 }),
		with(n(7), func(b *api.Bound) { b.Smax = 6 }),
		with(n(7), func(b *api.Bound) { b.Bits.Mask = 1 }),
		{Umin: full, Smin: most, Smax: least, Bits: api.Tnum{Value: full, Mask: full}},
	} {
		for _, op := range conditions {
			for _, wide := range both {
				for _, holds := range both {
					stays(t, op, bad, n(1), wide, holds)
					stays(t, op, n(7), bad, wide, holds)
					stays(t, op, bad, bad, wide, holds)
					stays(t, op, plain(0, 9), bad, wide, holds)
				}
			}
		}
	}
}
