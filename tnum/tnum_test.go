package tnum_test

import (
	"math/rand"
	"testing"

	"clevis/api"
	"clevis/tnum"
)

const full = 1<<64 - 1

func TestConstAndAny(t *testing.T) {
	for _, x := range edges {
		c := tnum.Const(x)
		if c != (api.Tnum{Value: x}) || !tnum.Check(c) || !tnum.In(c, x) {
			t.Errorf("Const(%#x) = %#x", x, c)
		}
		for _, y := range edges {
			if tnum.In(c, y) != (x == y) {
				t.Errorf("In(Const(%#x), %#x) = %v", x, y, x != y)
			}
		}
		if !tnum.In(tnum.Any(), x) || !tnum.Within(tnum.Any(), c) || tnum.Within(c, tnum.Any()) {
			t.Errorf("Any has not %#x, or this has Any", x)
		}
	}
	if every := tnum.Any(); every != (api.Tnum{Mask: full}) || !tnum.Check(every) || !tnum.Within(every, every) {
		t.Errorf("Any() = %#x", every)
	}
}

func TestCheckInAndWithinExamples(t *testing.T) {
	for _, c := range []struct {
		t    api.Tnum
		want bool
	}{
		{api.Tnum{}, true},
		{api.Tnum{Value: 4, Mask: 3}, true},
		{api.Tnum{Value: 4, Mask: 4}, false},
		{api.Tnum{Value: 5, Mask: 3}, false},
		{api.Tnum{Value: full}, true},
		{api.Tnum{Value: full, Mask: 1}, false},
		{api.Tnum{Value: 1 << 63, Mask: 1<<63 - 1}, true},
		{api.Tnum{Value: 1 << 63, Mask: full}, false},
	} {
		if got := tnum.Check(c.t); got != c.want {
			t.Errorf("Check(%#x) = %v", c.t, got)
		}
	}
	for _, c := range []struct {
		t    api.Tnum
		x    uint64
		want bool
	}{
		{api.Tnum{Value: 4, Mask: 3}, 3, false},
		{api.Tnum{Value: 4, Mask: 3}, 4, true},
		{api.Tnum{Value: 4, Mask: 3}, 7, true},
		{api.Tnum{Value: 4, Mask: 3}, 8, false},
		{api.Tnum{Value: 4, Mask: 3}, 12, false},
		{api.Tnum{Mask: 1 << 63}, 1 << 63, true},
		{api.Tnum{Mask: 1 << 63}, 1<<63 + 1, false},
		{api.Tnum{Value: 4, Mask: 4}, 4, false}, // nothing is in what may not be
		{api.Tnum{Value: 4, Mask: 4}, 0, false},
	} {
		if got := tnum.In(c.t, c.x); got != c.want {
			t.Errorf("In(%#x, %#x) = %v", c.t, c.x, got)
		}
	}
	for _, c := range []struct {
		a, b api.Tnum
		want bool
	}{
		{api.Tnum{Value: 4, Mask: 3}, api.Tnum{Value: 4, Mask: 3}, true},
		{api.Tnum{Value: 4, Mask: 3}, api.Tnum{Value: 5, Mask: 2}, true},
		{api.Tnum{Value: 4, Mask: 3}, api.Tnum{Value: 6}, true},
		{api.Tnum{Value: 4, Mask: 3}, api.Tnum{Value: 8}, false},
		{api.Tnum{Value: 4, Mask: 3}, api.Tnum{Mask: 3}, false},
		{api.Tnum{Value: 4, Mask: 3}, api.Tnum{Mask: 7}, false},
		{api.Tnum{Value: 4, Mask: 3}, api.Tnum{Value: 4, Mask: 1<<63 + 3}, false},
		{api.Tnum{Value: 4}, api.Tnum{Value: 4, Mask: 4}, false},
		{api.Tnum{Mask: 4}, api.Tnum{Value: 4, Mask: 4}, true}, // the chapter's words, of what may not be
		{api.Tnum{Value: 4, Mask: 4}, api.Tnum{Value: 4, Mask: 4}, false},
	} {
		if got := tnum.Within(c.a, c.b); got != c.want {
			t.Errorf("Within(%#x, %#x) = %v", c.a, c.b, got)
		}
	}
}

func TestRangeExamples(t *testing.T) {
	for _, c := range []struct {
		low, high uint64
		want      api.Tnum
	}{
		{4, 6, api.Tnum{Value: 4, Mask: 3}},
		{0, 0, api.Tnum{}},
		{5, 5, api.Tnum{Value: 5}},
		{4, 5, api.Tnum{Value: 4, Mask: 1}},
		{3, 4, api.Tnum{Mask: 7}},
		{8, 9, api.Tnum{Value: 8, Mask: 1}},
		{0, 1, api.Tnum{Mask: 1}},
		{0, 255, api.Tnum{Mask: 255}},
		{1, 256, api.Tnum{Mask: 511}},
		{0, 1<<63 - 1, api.Tnum{Mask: 1<<63 - 1}},
		{1 << 63, full, api.Tnum{Value: 1 << 63, Mask: 1<<63 - 1}},
		{1<<63 - 1, 1 << 63, api.Tnum{Mask: full}},
		{0, full, api.Tnum{Mask: full}},
		{full, full, api.Tnum{Value: full}},
		{6, 4, api.Tnum{Value: 4, Mask: 3}}, // the wrong way round: the same bits
		{full, 0, api.Tnum{Mask: full}},
	} {
		if got := tnum.Range(c.low, c.high); got != c.want {
			t.Errorf("Range(%#x, %#x) = %#x; want %#x", c.low, c.high, got, c.want)
		}
	}
}

func TestRangeAgainstTheModel(t *testing.T) {
	chance := rand.New(rand.NewSource(1))
	l := edges
	for range 200 {
		l = append(l, some(chance))
	}
	for _, low := range l {
		for _, high := range l {
			got := tnum.Range(low, high)
			if want := modelRange(low, high); got != want {
				t.Fatalf("Range(%#x, %#x) = %#x; want %#x", low, high, got, want)
			}
			between := low
			if low < high {
				between += chance.Uint64() % (high - low)
			}
			if low <= high && !(tnum.In(got, low) && tnum.In(got, high) && tnum.In(got, between)) {
				t.Fatalf("Range(%#x, %#x) = %#x: it has not all, %#x", low, high, got, between)
			}
		}
	}
}

func TestRangeIsTheLeastThatHasAll(t *testing.T) {
	for low := range uint64(40) {
		l := []uint64{}
		for high := low; high < 40; high++ {
			l = append(l, high)
			if got := tnum.Range(low, high); got != tightest(l) {
				t.Errorf("Range(%d, %d) = %#x; want %#x", low, high, got, tightest(l))
			}
		}
	}
}

func TestMeetExamples(t *testing.T) {
	for _, c := range []struct {
		a, b, want api.Tnum
		ok         bool
	}{
		{api.Tnum{Mask: full}, api.Tnum{Mask: full}, api.Tnum{Mask: full}, true},
		{api.Tnum{Mask: full}, api.Tnum{Value: 5}, api.Tnum{Value: 5}, true},
		{api.Tnum{Value: 5}, api.Tnum{Value: 5}, api.Tnum{Value: 5}, true},
		{api.Tnum{Value: 4, Mask: 3}, api.Tnum{Value: 1, Mask: 6}, api.Tnum{Value: 5, Mask: 2}, true},
		{api.Tnum{Value: 4, Mask: 3}, api.Tnum{Value: 8, Mask: 7}, api.Tnum{}, false},
		{api.Tnum{Value: 5}, api.Tnum{Value: 6}, api.Tnum{}, false},
		{api.Tnum{Value: 1 << 63}, api.Tnum{Mask: 1<<63 - 1}, api.Tnum{}, false},
		{api.Tnum{}, api.Tnum{}, api.Tnum{}, true},
		{api.Tnum{Value: 6, Mask: 2}, api.Tnum{Value: 4, Mask: 3}, api.Tnum{Value: 4, Mask: 2}, true}, // a may not be
	} {
		for _, turned := range []bool{false, true} {
			a, b := c.a, c.b
			if turned {
				a, b = b, a
			}
			if got, ok := tnum.Meet(a, b); got != c.want || ok != c.ok {
				t.Errorf("Meet(%#x, %#x) = %#x, %v; want %#x, %v", a, b, got, ok, c.want, c.ok)
			}
		}
	}
}

func TestJoinAndLowExamples(t *testing.T) {
	for _, c := range []struct{ a, b, want api.Tnum }{
		{api.Tnum{Value: 5}, api.Tnum{Value: 5}, api.Tnum{Value: 5}},
		{api.Tnum{Value: 5}, api.Tnum{Value: 6}, api.Tnum{Value: 4, Mask: 3}},
		{api.Tnum{Value: 4, Mask: 3}, api.Tnum{Value: 4}, api.Tnum{Value: 4, Mask: 3}},
		{api.Tnum{Value: 4, Mask: 3}, api.Tnum{Value: 12}, api.Tnum{Value: 4, Mask: 11}},
		{api.Tnum{Value: 0}, api.Tnum{Value: full}, api.Tnum{Mask: full}},
		{api.Tnum{Mask: full}, api.Tnum{Value: 9}, api.Tnum{Mask: full}},
		{api.Tnum{Value: 6, Mask: 2}, api.Tnum{Value: 6}, api.Tnum{Value: 4, Mask: 2}}, // a may not be
	} {
		if got := tnum.Join(c.a, c.b); got != c.want {
			t.Errorf("Join(%#x, %#x) = %#x; want %#x", c.a, c.b, got, c.want)
		}
		if got := tnum.Join(c.b, c.a); got != c.want {
			t.Errorf("Join(%#x, %#x) = %#x; want %#x", c.b, c.a, got, c.want)
		}
	}
	for _, c := range []struct{ a, want api.Tnum }{
		{api.Tnum{Mask: full}, api.Tnum{Mask: 1<<32 - 1}},
		{api.Tnum{Value: full}, api.Tnum{Value: 1<<32 - 1}},
		{api.Tnum{Value: 1<<32 + 4, Mask: 1<<33 + 3}, api.Tnum{Value: 4, Mask: 3}},
		{api.Tnum{Value: 1 << 31, Mask: 1 << 32}, api.Tnum{Value: 1 << 31}},
		{api.Tnum{Value: 1 << 32, Mask: 1 << 31}, api.Tnum{Mask: 1 << 31}},
		{api.Tnum{Value: 1<<40 + 6, Mask: 1<<40 + 2}, api.Tnum{Value: 6, Mask: 2}}, // it may not be
	} {
		if got := tnum.Low(c.a); got != c.want {
			t.Errorf("Low(%#x) = %#x; want %#x", c.a, got, c.want)
		}
	}
}

func TestKnownBitsAgainstTheModel(t *testing.T) {
	chance := rand.New(rand.NewSource(2))
	l := anything(chance, 200)
	for _, a := range l {
		if tnum.Check(a) != modelCheck(a) {
			t.Fatalf("Check(%#x) = %v", a, tnum.Check(a))
		}
		if got := tnum.Low(a); got != modelLow(a) {
			t.Fatalf("Low(%#x) = %#x; want %#x", a, got, modelLow(a))
		}
		for _, x := range append(edges, some(chance), a.Value, a.Value|a.Mask, member(chance, a)) {
			if tnum.In(a, x) != modelIn(a, x) {
				t.Fatalf("In(%#x, %#x) = %v", a, x, tnum.In(a, x))
			}
		}
		for range 30 {
			pairAgainstTheModel(t, a, l[chance.Intn(len(l))])
			pairAgainstTheModel(t, a, part(chance, a))
		}
	}
}

// part answers what is within known bits that may be: some that were unknown are known.
func part(chance *rand.Rand, a api.Tnum) api.Tnum {
	known := some(chance) & a.Mask
	return api.Tnum{Value: a.Value | known&some(chance), Mask: a.Mask &^ known}
}

func pairAgainstTheModel(t *testing.T, a, b api.Tnum) {
	t.Helper()
	if tnum.Within(a, b) != modelWithin(a, b) {
		t.Fatalf("Within(%#x, %#x) = %v", a, b, tnum.Within(a, b))
	}
	met, ok := tnum.Meet(a, b)
	if want, is := modelMeet(a, b); met != want || ok != is {
		t.Fatalf("Meet(%#x, %#x) = %#x, %v; want %#x, %v", a, b, met, ok, want, is)
	}
	if got := tnum.Join(a, b); got != modelJoin(a, b) {
		t.Fatalf("Join(%#x, %#x) = %#x; want %#x", a, b, got, modelJoin(a, b))
	}
}

// inBoth are the numbers of one list that are in another.
func inBoth(l []uint64, b api.Tnum) []uint64 {
	var both []uint64
	for _, x := range l {
		if modelIn(b, x) {
			both = append(both, x)
		}
	}
	return both
}

func TestMeetAndJoinAreTheNumbersThatAreInBothAndInOne(t *testing.T) {
	for _, up := range []int{0, 30, 60} {
		l := raised(small(4), up)
		for _, a := range l {
			for _, b := range l {
				both := inBoth(all(a), b)
				met, ok := tnum.Meet(a, b)
				if ok != (len(both) > 0) || ok && met != tightest(both) {
					t.Fatalf("Meet(%#x, %#x) = %#x, %v; in both: %#x", a, b, met, ok, both)
				}
				one := append(all(a), all(b)...)
				if got := tnum.Join(a, b); got != tightest(one) {
					t.Fatalf("Join(%#x, %#x) = %#x; want %#x", a, b, got, tightest(one))
				}
				if got := tnum.Within(a, b); got != (len(both) == len(all(b))) {
					t.Fatalf("Within(%#x, %#x) = %v; in both: %#x", a, b, got, both)
				}
			}
		}
	}
}

func TestLowHasTheRestsOfAllNumbers(t *testing.T) {
	for _, up := range []int{0, 28, 30, 32, 60} {
		for _, a := range raised(small(4), up) {
			l := all(a)
			for i := range l {
				l[i] %= 1 << 32
			}
			if got := tnum.Low(a); got != tightest(l) {
				t.Errorf("Low(%#x) = %#x; want %#x", a, got, tightest(l))
			}
		}
	}
}
