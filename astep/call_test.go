package astep_test

import (
	"testing"

	"clevis/api"
	"clevis/bound"
	"clevis/state"
)

// called answers what another state is behind a call.
func called(s api.Abs) api.Abs {
	return put(s, regs{0: all, 1: unset, 2: unset, 3: unset, 4: unset, 5: unset})
}

// calls asks for a call with which all is well, and which leaves the stack alone.
func calls(t *testing.T, s api.Abs, h int) {
	t.Helper()
	goes(t, s, call(h), api.Fact{}, next(1, called(s)))
}

func TestCallsOfNumbers(t *testing.T) {
	s := keeping(having(regs{0: context, 4: five, 5: at(3, 0), 6: five, 9: at(4, 2), 10: top}), 16, five)
	calls(t, s, 1)
	calls(t, having(nil), 1)
	odd := number(api.Bound{Umin: 4, Umax: 7, Smin: -5, Smax: -2, Bits: api.Tnum{Value: 64}})
	for _, k := range []api.Known{five, all, few, odd} {
		calls(t, put(s, regs{1: k}), 2)
		calls(t, put(s, regs{1: k, 2: five, 3: all}), 5)
		calls(t, put(s, regs{1: all, 2: k, 3: five}), 5)
		calls(t, put(s, regs{1: five, 2: five, 3: k}), 5)
	}
	for _, k := range []api.Known{unset, context, top, at(3, 0), place(4, bound.Any())} {
		harms(t, put(s, regs{1: k}), call(2))
		harms(t, put(s, regs{1: k, 2: five, 3: all}), call(5))
		harms(t, put(s, regs{1: all, 2: k, 3: five}), call(5))
		harms(t, put(s, regs{1: five, 2: five, 3: k}), call(5))
		calls(t, put(s, regs{1: k}), 1)
		calls(t, put(s, regs{1: five, 2: k, 3: k}), 2)
	}
}

// TestCallsNeedPlaces, and sizes that are numbers.
func TestCallsNeedPlaces(t *testing.T) {
	s := filled(having(regs{6: five, 10: top}), 0, 512)
	for _, h := range []int{3, 4} {
		for _, k := range []api.Known{unset, five, all, n(3 << 32), n(2<<32 + 8)} {
			harms(t, put(s, regs{1: k, 2: five}), call(h))
		}
		for _, k := range []api.Known{unset, context, at(3, 5), place(2, bound.Const(5))} {
			harms(t, put(s, regs{1: at(3, 0), 2: k}), call(h))
			harms(t, put(s, regs{1: at(2, 0), 2: k}), call(h))
		}
		calls(t, put(s, regs{1: at(3, 0), 2: five, 3: at(9, 0), 4: unset}), h)
	}
}

func TestSizes(t *testing.T) {
	for _, c := range []struct {
		size api.Bound
		may  bool
	}{
		{bound.Const(0), false}, {bound.Const(1), true}, {bound.Const(64), true}, {bound.Const(65), false}, {bound.Const(full), false}, {bound.Const(1 << 63), false}, {bound.Const(1<<32 + 1), false},
		{to(1, 64), true}, {to(0, 64), false}, {to(1, 65), false}, {to(0, 1), false}, {to(64, 65), false}, {to(0, 0), false}, {bound.Any(), false}, {bound.Size(1), false},
		{signs(1, 64), false}, // without signs nothing is known, since it is not tidy
		{api.Bound{Umin: 1, Umax: 64, Smin: least, Smax: most, Bits: api.Tnum{Mask: full}}, true},
		{api.Bound{Umin: 1, Umax: 64, Smin: -9, Smax: -1, Bits: api.Tnum{Value: 128}}, true},
		{api.Bound{Umin: 1, Umax: full, Smin: 1, Smax: 5, Bits: api.Tnum{Mask: 5}}, false},
		{api.Bound{Umax: 5, Smin: 1, Smax: 5, Bits: api.Tnum{Mask: 5}}, false},
	} {
		s := having(regs{1: at(5, 20), 2: number(c.size)})
		if c.may {
			calls(t, s, 3)
			calls(t, s, 4)
		} else {
			harms(t, s, call(3))
			harms(t, s, call(4))
		}
	}
}

// TestWhereHelpersReadAndWrite: as many bytes as there may be at most lie in the region, wherever they begin.
func TestWhereHelpersReadAndWrite(t *testing.T) {
	for _, c := range []struct {
		region, low, high, least, most int
		read, write                    bool
	}{
		{1, 0, 0, 1, 16, true, false}, {1, 0, 0, 1, 17, false, false}, {1, 0, 0, 16, 17, false, false}, {1, 8, 8, 8, 8, true, false}, {1, 0, 8, 8, 8, true, false}, {1, 0, 9, 8, 8, false, false}, {1, -1, -1, 1, 1, false, false}, {1, 16, 16, 1, 1, false, false},
		{3, 0, 0, 20, 20, true, true}, {3, 0, 0, 1, 20, true, true}, {3, 0, 0, 1, 21, false, false}, {3, 1, 1, 20, 20, false, false}, {3, 0, 16, 1, 4, true, true}, {3, 0, 17, 1, 4, false, false}, {3, -1, 16, 1, 4, false, false},
		{4, 6, 6, 64, 64, true, false}, {4, 0, 6, 1, 64, true, false}, {4, 0, 7, 1, 64, false, false}, {6, 0, 0, 1, 1, true, true}, {6, 0, 0, 1, 2, false, false}, {6, 0, 1, 1, 1, false, false},
		{7, 0, 0, 1, 1, false, false}, {10, 0, 0, 1, 1, false, false}, {3, least, most, 1, 1, false, false}, {3, -reach, -reach, 1, 1, false, false}, {3, reach + 1, reach + 1, 1, 1, false, false}, {3, 1 << 32, 1 << 32, 1, 1, false, false},
	} {
		s := keeping(having(regs{1: place(c.region, signs(c.low, c.high)), 2: number(to(c.least, c.most)), 6: five}), 16, few)
		if c.read {
			calls(t, s, 3)
		} else {
			harms(t, s, call(3))
		}
		if c.write {
			calls(t, s, 4)
		} else {
			harms(t, s, call(4))
		}
	}
}

// TestWhatIsReadOnTheStackIsSet: all bytes that may be read.
func TestWhatIsReadOnTheStackIsSet(t *testing.T) {
	s := keeping(filled(having(nil), 100, 140), 104, five)
	for _, c := range []struct {
		low, high, least, most int
		may                    bool
	}{
		{100, 100, 40, 40, true}, {100, 100, 1, 40, true}, {100, 100, 1, 41, false}, {100, 100, 41, 41, false}, {99, 99, 1, 1, false}, {100, 132, 8, 8, true}, {100, 133, 8, 8, false}, {99, 132, 8, 8, false},
		{139, 139, 1, 1, true}, {140, 140, 1, 1, false}, {100, 139, 1, 1, true}, {100, 140, 1, 1, false}, {104, 104, 8, 8, true}, {0, 0, 1, 64, false}, {100, 448, 1, 64, false}, {448, 448, 64, 64, false},
	} {
		r := put(s, regs{1: place(2, signs(c.low, c.high)), 2: number(to(c.least, c.most))})
		if c.may {
			calls(t, r, 3)
		} else {
			harms(t, r, call(3))
		}
	}
	all := filled(having(nil), 0, 512)
	calls(t, put(all, regs{1: at(2, 448), 2: n(64)}), 3)
	harms(t, put(all, regs{1: at(2, 449), 2: n(64)}), call(3))
	calls(t, put(all, regs{1: place(2, signs(0, 448)), 2: n(64)}), 3)
	harms(t, put(all, regs{1: place(2, signs(0, 512)), 2: n(64)}), call(3))
	harms(t, put(all, regs{1: at(2, 512), 2: n(1)}), call(3))
}

// TestWhatIsWrittenOnTheStack: what surely is written is set, what may be written is no register any more.
func TestWhatIsWrittenOnTheStack(t *testing.T) {
	s := having(regs{6: five, 10: top})
	for off := 96; off < 144; off += 8 {
		s = keeping(s, off, five)
	}
	s = filled(s, 148, 150)
	for _, c := range []struct {
		low, high, least, most int
		set                    int // up to where bytes are, from low on
		from, to               int // where no register lies any more
	}{
		{100, 100, 4, 4, 104, 96, 104}, {100, 100, 5, 5, 105, 96, 112}, {96, 96, 8, 8, 104, 96, 104}, {96, 96, 1, 8, 97, 96, 104}, {96, 96, 1, 9, 97, 96, 112},
		{140, 140, 1, 64, 141, 136, 144}, {140, 140, 8, 12, 148, 136, 144}, {144, 144, 3, 9, 147, 0, 0}, {144, 144, 9, 9, 153, 0, 0}, {144, 144, 1, 4, 145, 0, 0}, {144, 144, 1, 1, 145, 0, 0}, {144, 144, 4, 5, 148, 0, 0},
		{0, 0, 64, 64, 64, 0, 0}, {0, 0, 1, 64, 1, 0, 0}, {448, 448, 64, 64, 512, 0, 0}, {448, 448, 63, 64, 511, 0, 0}, {511, 511, 1, 1, 512, 0, 0},
		{100, 101, 4, 4, 0, 96, 112}, {100, 101, 4, 6, 0, 96, 112}, {100, 101, 64, 64, 0, 96, 144}, {90, 95, 1, 1, 0, 0, 0}, {90, 96, 1, 1, 0, 96, 104}, {144, 160, 8, 8, 0, 0, 0}, {143, 160, 8, 8, 0, 136, 144}, {0, 448, 64, 64, 0, 96, 144},
	} {
		r := put(s, regs{1: place(2, signs(c.low, c.high)), 2: number(to(c.least, c.most))})
		want := with(filled(called(r), c.low, c.set), func(s *api.Abs) { clear(s.Saved[c.from/8 : c.to/8]) })
		goes(t, r, call(4), api.Fact{}, next(1, want))
	}
	for _, c := range [][4]int{{449, 449, 64, 64}, {449, 449, 1, 64}, {0, 449, 64, 64}, {-1, 0, 1, 1}, {512, 512, 1, 1}, {100, 512, 1, 1}} {
		harms(t, put(s, regs{1: place(2, signs(c[0], c[1])), 2: number(to(c[2], c[3]))}), call(4))
	}
}

// TestWhatWasSetStaysSet, though a helper may have written it, or not.
func TestWhatWasSetStaysSet(t *testing.T) {
	s := put(filled(state.Begin(), 0, 512), regs{1: at(2, 40), 2: number(to(3, 30))})
	goes(t, s, call(4), api.Fact{}, next(1, called(s)))
	goes(t, put(s, regs{1: place(2, to(40, 50))}), call(4), api.Fact{}, next(1, called(s)))
}
