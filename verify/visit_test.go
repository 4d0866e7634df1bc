package verify_test

import (
	"testing"

	"clevis/api"
)

// TestWaysThatMeet: what was said by a visit that has ended is not visited again.
func TestWaysThatMeet(t *testing.T) {
	either := ins(0x1d, 0, 0, 0, 0) // r0 == r0: both ways to the next one, as it is
	accepts(t, row(mov(0, 5), either, exit), 3, nil)
	accepts(t, row(mov(0, 5), either, either, either, exit), 5, nil)
	// the second way is another one
	accepts(t, row(byteAt(0, 1, 0), above(0, 9, 0), exit), 4, map[int]api.Fact{0: seen(1, 0, 0)})
	// what comes second says more than what came first, or less
	accepts(t, row(byteAt(0, 1, 0), above(0, 9, 1), byteAt(0, 1, 0), exit), 4, map[int]api.Fact{0: seen(1, 0, 0), 2: seen(1, 0, 0)})
	accepts(t, row(byteAt(0, 1, 0), above(0, 9, 1), mov(0, 100), exit), 5, map[int]api.Fact{0: seen(1, 0, 0)})
	// of what comes first nothing is known of r2, and any r0
	accepts(t, row(byteAt(0, 1, 0), copied(2, 0), mov(0, 1), above(2, 9, 1), call(1), exit), 6, map[int]api.Fact{0: seen(1, 0, 0)})
	accepts(t, row(byteAt(0, 1, 0), copied(2, 0), mov(0, 1), above(2, 9, 2), call(1), ja(1), call(1), exit), 8, map[int]api.Fact{0: seen(1, 0, 0)})
}

// TestWhatLiesOnTheStackCounts: two ways that differ there alone.
func TestWhatLiesOnTheStackCounts(t *testing.T) {
	first := row(byteAt(0, 1, 0), copied(2, 0), mov(0, 1))
	again := map[int]api.Fact{0: seen(1, 0, 0), 4: seen(2, 504, 504)}
	last := row(mov(2, 0), exit)
	// the second way has no bytes set, or others: the first does not say that
	accepts(t, row(first, above(2, 9, 1), putNumber(10, -8, 7), last), 4+1+2+2, again)
	// nothing is set on the first way
	accepts(t, row(first, above(2, 9, 2), putNumber(10, -8, 7), ja(1), putNumber(10, -16, 7), last), 4+2+2+1+2, map[int]api.Fact{0: seen(1, 0, 0), 4: seen(2, 504, 504), 6: seen(2, 496, 496)})
	// the same bytes, of which the first way knows the number, or does not
	accepts(t, row(first, above(2, 9, 2), putNumber(10, -8, 7), ja(1), putNumber(10, -8, 8), last), 4+2+2+1+2, map[int]api.Fact{0: seen(1, 0, 0), 4: seen(2, 504, 504), 6: seen(2, 504, 504)})
	accepts(t, row(first, above(2, 9, 2), putNumber(10, -8, 7), ja(1), putNumber(10, -8, 7), last), 4+2+2+1+1, map[int]api.Fact{0: seen(1, 0, 0), 4: seen(2, 504, 504), 6: seen(2, 504, 504)})
	accepts(t, row(first, above(2, 9, 2), putEight(10, -8, 0), ja(1), putEight(10, -8, 1), last), 4+2+2+1+2, map[int]api.Fact{0: seen(1, 0, 0), 4: seen(2, 504, 504), 6: seen(2, 504, 504)})
	// single bytes: the second way sets one more, which may stay unsaid, or one less
	one, two := putByte(10, -1, 0), putByte(10, -2, 0)
	accepts(t, row(first, above(2, 9, 2), one, ja(2), one, two, last), 4+2+2+2+1, map[int]api.Fact{0: seen(1, 0, 0), 4: seen(2, 511, 511), 6: seen(2, 511, 511), 7: seen(2, 510, 510)})
	accepts(t, row(first, above(2, 9, 3), one, two, ja(1), one, last), 4+3+2+1+2, map[int]api.Fact{0: seen(1, 0, 0), 4: seen(2, 511, 511), 5: seen(2, 510, 510), 7: seen(2, 511, 511)})
}

func TestRounds(t *testing.T) {
	for _, n := range []int{1, 2, 15, 16, 17, 31, 33, 300, 5000} {
		accepts(t, row(mov(0, 0), add(0, 1), below(0, n, -2), exit), 2*n+2, nil)
		accepts(t, row(mov(0, n), add(0, -1), ins(0x55, 0, 0, -2, 0), exit), 2*n+2, nil) // down, until it is 0
	}
	// a counter on the stack
	p := row(putNumber(10, -8, 0), eightAt(0, 10, -8), add(0, 1), putEight(10, -8, 0), below(0, 100, -4), exit)
	accepts(t, p, 1+4*100+1, map[int]api.Fact{0: seen(2, 504, 504), 1: seen(2, 504, 504), 3: seen(2, 504, 504)})
	// rounds within rounds
	nest := row(mov(0, 0), mov(2, 0), add(2, 1), below(2, 20, -2), add(0, 1), below(0, 30, -5), exit)
	accepts(t, nest, 1+30*(1+2*20+2)+1, nil)
	// of a number of rounds that is not known
	upTo := row(byteAt(2, 1, 0), mov(0, 0), ins(0x3d, 0, 2, 2, 0), add(0, 1), ja(-3), exit)
	accepts(t, upTo, 2+3*255+1+256, map[int]api.Fact{0: seen(1, 0, 0)})
}

// TestLoops: what leads to what it has not ended, though there may be a way out.
func TestLoops(t *testing.T) {
	refuses(t, row(mov(0, 5), ja(-1)), 99, api.ErrLoop, 1, 2)
	refuses(t, row(mov(0, 5), ja(-2)), 99, api.ErrLoop, 0, 2) // the second time r0 is set, the first time it need not be
	refuses(t, row(mov(0, 5), mov(0, 5), ja(-2), exit), 99, api.ErrLoop, 1, 3)
	refuses(t, row(byteAt(0, 1, 0), and(0, 15), ja(-2)), 99, api.ErrLoop, 1, 3) // from 0 to 15 is said from 0 to 255
	refuses(t, row(byteAt(0, 1, 0), ja(0), ja(-2)), 99, api.ErrLoop, 1, 3)
	refuses(t, row(mov(0, 1), byteAt(2, 1, 0), equal(2, 7, -2), exit), 99, api.ErrLoop, 1, 4)
	// around once, since less is known
	refuses(t, row(mov(0, 5), mov(2, 5), byteAt(0, 1, 0), ja(-2)), 99, api.ErrLoop, 3, 5)
	refuses(t, row(mov(0, 1), ins(0xa7, 0, 0, 0, 1), ja(-2)), 99, api.ErrLoop, 1, 5) // 1, 0, 1
	// it ends by what lies in the context, as long as that stays as it is
	refuses(t, row(mov(0, 1), eightAt(2, 1, 0), ins(0x55, 2, 0, -2, 0), exit), 99, api.ErrLoop, 1, 4)
}

// TestALoopIsToldAheadOfTheBudget: what is no visit needs none that is left.
func TestALoopIsToldAheadOfTheBudget(t *testing.T) {
	refuses(t, row(ja(-1)), 1, api.ErrLoop, 0, 1)
	refuses(t, row(mov(0, 5), mov(0, 5), ja(-2), exit), 3, api.ErrLoop, 1, 3)
	refuses(t, row(mov(0, 5), mov(0, 5), ja(-2), exit), 2, api.ErrVisits, 2, 2)
	refuses(t, row(mov(0, 0), add(0, 1), ja(-2)), 9, api.ErrVisits, 1, 9)
	refuses(t, row(mov(0, 0), add(0, 1), ja(-2)), 10, api.ErrVisits, 2, 10)
	refuses(t, row(mov(0, 0), add(0, 1), exit), 2, api.ErrVisits, 2, 2)
}

// TestWhatHasEndedIsAskedFirst: where a visit that has ended says it, one that has not ended does not matter.
func TestWhatHasEndedIsAskedFirst(t *testing.T) {
	p := row(
		byteAt(2, 1, 0),
		mov(0, 5),
		equal(2, 0, 1),
		ja(1), // to the seventh with 5, which has ended when ..
		byteAt(0, 1, 0),
		mov(2, 0),
		equal(0, 5, 2), // .. it comes with any byte, and then with 5 once more
		mov(0, 5),
		ja(-3),
		exit,
	)
	accepts(t, p, 7+5, map[int]api.Fact{0: seen(1, 0, 0), 4: seen(1, 0, 0)})
	// the other way round there is none that has ended
	p[1], p[4] = byteAt(0, 1, 0), mov(0, 5)
	refuses(t, p, 99, api.ErrLoop, 6, 8)
}

// TestTheFirstFault: the next one is gone to ahead of the target, all that follows ahead of what stands beside.
func TestTheFirstFault(t *testing.T) {
	harm := byteAt(0, 9, 0)
	refuses(t, row(byteAt(0, 1, 0), above(0, 9, 1), harm, harm), 99, api.ErrForm, 3, 0) // no way on
	refuses(t, row(byteAt(0, 1, 0), above(0, 9, 1), harm, harm, exit), 99, api.ErrUnsafe, 2, 3)
	refuses(t, row(byteAt(0, 1, 0), above(0, 9, 1), exit, harm, exit), 99, api.ErrUnsafe, 3, 4)
	refuses(t, row(byteAt(0, 1, 0), above(0, 9, 1), ja(-1), harm, exit), 99, api.ErrLoop, 2, 3)
	refuses(t, row(byteAt(0, 1, 0), above(0, 9, 1), harm, ja(-1), exit), 99, api.ErrUnsafe, 2, 3)
	refuses(t, row(byteAt(0, 1, 0), above(0, 9, 1), exit, ja(-1), exit), 99, api.ErrLoop, 3, 4)
	refuses(t, row(byteAt(0, 1, 0), above(0, 9, 2), add(0, 1), ja(-2), harm, exit), 99, api.ErrVisits, 3, 99)
	refuses(t, row(byteAt(0, 1, 0), above(0, 9, 3), ja(0), ja(0), exit, harm, exit), 99, api.ErrUnsafe, 5, 6)
	// a way that cannot be is not gone
	accepts(t, row(mov(0, 5), above(0, 9, 1), exit, harm, exit), 3, nil)
	accepts(t, row(mov(0, 15), above(0, 9, 2), harm, harm, exit), 3, nil)
}

// TestAProgramThatDoesSomething: rounds, an access at a bounded place of a map, and a helper.
func TestAProgramThatDoesSomething(t *testing.T) {
	p := row(
		copied(6, 1),
		mov(7, 0),
		wideMap(8, 0),
		byteAt(2, 6, 3), // 4
		and(2, 15),
		ins(0x0f, 2, 8, 0, 0),
		byteAt(3, 2, 4), // 7
		add(3, 1),
		putByte(2, 4, 3), // 9
		copied(1, 8),
		mov(2, 20),
		call(3),
		add(7, 1),
		below(7, 10, -11),
		mov(0, 0),
		exit,
	)
	accepts(t, p, 3+10*11+2, map[int]api.Fact{4: seen(1, 3, 3), 7: seen(3, 4, 19), 9: seen(3, 4, 19)})
}
