package verify_test

import (
	"math"
	"testing"

	"clevis/api"
	"clevis/verify"
)

func TestExamples(t *testing.T) {
	accepts(t, row(mov(0, 5), exit), 2, nil)
	refuses(t, row(ja(-1)), 1000000, api.ErrLoop, 0, 1)
}

func TestWhatMayNotBe(t *testing.T) {
	good, bad, odd := row(mov(0, 5), exit), row(mov(0, 5), exit, mov(10, 1)), api.Layout{Context: api.Area{Size: -1}}
	long := make([]api.Ins, 4097)
	for i := range long {
		long[i] = exit
	}
	for _, c := range []struct {
		l      api.Layout
		p      []api.Ins
		budget int
		code   api.Errno
		at     int
	}{
		{odd, good, 10, api.ErrLayout, 0},
		{odd, bad, 0, api.ErrLayout, 0},
		{odd, nil, 10, api.ErrLayout, 0},
		{api.Layout{Context: api.Area{Size: 4097}}, good, 10, api.ErrLayout, 0},
		{api.Layout{Maps: make([]api.Area, 9)}, good, 10, api.ErrLayout, 0},
		{api.Layout{Maps: []api.Area{{}}}, bad, 10, api.ErrLayout, 0},
		{sample, nil, 10, api.ErrForm, 0},
		{sample, []api.Ins{}, 0, api.ErrForm, 0},
		{sample, bad, 10, api.ErrForm, 2},
		{sample, bad, 0, api.ErrForm, 2},
		{sample, row(exit, mov(0, 1)), 10, api.ErrForm, 1},
		{sample, row(wide(0, 7), ja(-2), exit), 10, api.ErrForm, 2},
		{sample, long, 10, api.ErrLong, 0},
		{sample, long, -1, api.ErrLong, 0},
		{sample, good, 0, api.ErrArg, 0},
		{sample, good, -1, api.ErrArg, 0},
		{sample, good, 1000001, api.ErrArg, 0},
		{sample, good, math.MinInt, api.ErrArg, 0},
		{sample, good, math.MaxInt, api.ErrArg, 0},
		{sample, good, 1<<32 + 5, api.ErrArg, 0},
		{sample, row(exit), 0, api.ErrArg, 0}, // it may do harm, but nothing is visited
	} {
		got, want := verify.Verify(c.l, c.p, c.budget), api.Verdict{Code: c.code, At: c.at}
		if !same(got, want) {
			t.Errorf("Verify(%v, %d slots, %d) = %v; want %v", c.l, len(c.p), c.budget, got, want)
		}
	}
	for _, p := range [][]api.Ins{good, append(good, long[:4094]...)} {
		for _, budget := range []int{2, 3, 999999, 1000000} {
			if got := verify.Verify(api.Layout{}, p, budget); !same(got, api.Verdict{Visits: 2, Facts: make([]api.Fact, len(p))}) {
				t.Errorf("Verify(%v, %d) = %v", p, budget, got)
			}
		}
	}
}

func TestVisits(t *testing.T) {
	refuses(t, row(exit), 10, api.ErrUnsafe, 0, 1)
	refuses(t, row(exit), 1, api.ErrUnsafe, 0, 1)
	refuses(t, row(mov(0, 5), exit), 1, api.ErrVisits, 1, 1)
	refuses(t, row(mov(0, 5), mov(0, 5), exit), 2, api.ErrVisits, 2, 2)
	refuses(t, row(mov(1, 5), exit), 2, api.ErrUnsafe, 1, 2)
	refuses(t, row(mov(1, 5), exit), 1, api.ErrVisits, 1, 1)
	accepts(t, row(mov(0, 5), exit, mov(5, 5), exit), 2, nil) // nobody comes to the second half
	accepts(t, row(mov(0, 5), exit, byteAt(9, 9, 0), exit), 2, nil)
	accepts(t, row(wide(0, 5), exit), 2, nil)
	refuses(t, row(wide(2, 5), exit), 9, api.ErrUnsafe, 2, 2)
	refuses(t, row(wideMap(0, 3), exit), 9, api.ErrUnsafe, 0, 1)
	refuses(t, row(mov(0, 1), putEight(10, 0, 0), exit), 9, api.ErrUnsafe, 1, 2)
	refuses(t, row(mov(0, 1), putEight(1, 0, 0), exit), 9, api.ErrUnsafe, 1, 2)
	refuses(t, row(call(1), mov(0, 1), copied(0, 1), exit), 9, api.ErrUnsafe, 2, 3)
	refuses(t, row(mov(0, 1), call(2), exit), 9, api.ErrUnsafe, 1, 2)
}

func TestFacts(t *testing.T) {
	accepts(t, row(byteAt(0, 1, 15), exit), 2, map[int]api.Fact{0: seen(1, 15, 15)})
	accepts(t, row(wideMap(2, 0), mov(0, 7), putEight(2, 12, 0), exit), 4, map[int]api.Fact{3: seen(3, 12, 12)})
	accepts(t, row(putNumber(10, -8, 7), byteAt(0, 10, -3), exit, byteAt(0, 1, 0), exit), 3, map[int]api.Fact{0: seen(2, 504, 504), 1: seen(2, 509, 509)})
	accepts(t, row(copied(6, 1), mov(0, 5), call(1), byteAt(0, 6, 3), exit), 5, map[int]api.Fact{3: seen(1, 3, 3)})
	// a byte at a place that a byte says
	bounded := row(byteAt(2, 1, 0), and(2, 7), wideMap(3, 0), ins(0x0f, 3, 2, 0, 0), byteAt(0, 3, 2), exit)
	accepts(t, bounded, 6, map[int]api.Fact{0: seen(1, 0, 0), 5: seen(3, 2, 9)})
}

// TestFactsOfSeveralVisits: at one access, from several places.
func TestFactsOfSeveralVisits(t *testing.T) {
	// the access lies by eights further on each round
	rounds := row(copied(2, 10), mov(0, 0), add(2, -8), putEight(2, 0, 0), add(0, 1), below(0, 4, -4), exit)
	accepts(t, rounds, 2+4*4+1, map[int]api.Fact{3: seen(2, 480, 504)})
	up := row(copied(2, 1), mov(0, 0), byteAt(3, 2, 1), add(2, 2), add(0, 1), below(0, 5, -4), exit)
	accepts(t, up, 2+5*4+1, map[int]api.Fact{2: seen(1, 1, 9)})
	// one way a map's address is known, the other way another's: there the region is none
	maps := row(byteAt(0, 1, 0), wideMap(2, 0), above(0, 9, 2), wideMap(2, 2), byteAt(3, 2, 5), exit)
	accepts(t, maps, 3+1+2+2, map[int]api.Fact{0: seen(1, 0, 0), 6: seen(0, 5, 5)})
	moved := row(byteAt(0, 1, 0), wideMap(2, 0), add(2, 3), above(0, 9, 2), wideMap(2, 2), byteAt(3, 2, 5), exit)
	accepts(t, moved, 4+1+2+2, map[int]api.Fact{0: seen(1, 0, 0), 7: seen(0, 5, 8)})
	// three ways, of which the first and the last lead with the same region
	three := row(byteAt(0, 1, 0), wideMap(2, 0), above(0, 9, 5), wideMap(2, 2), equal(0, 0, 2), wideMap(2, 0), byteAt(3, 2, 5), exit)
	accepts(t, three, 3+2+3+2+2, map[int]api.Fact{0: seen(1, 0, 0), 9: seen(0, 5, 5)})
}
