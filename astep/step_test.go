package astep_test

import (
	"reflect"
	"testing"

	"clevis/api"
	"clevis/astep"
	"clevis/bound"
	"clevis/state"
)

func TestTheChaptersExamples(t *testing.T) {
	s := state.Begin()
	goes(t, s, ins(0x7b, 10, 10, -8, 0), api.Fact{Seen: true, Region: 2, Low: 504, High: 504}, next(1, keeping(s, 504, top)))
	goes(t, s, ins(0x7a, 10, 0, -8, 7), api.Fact{Seen: true, Region: 2, Low: 504, High: 504}, next(1, keeping(s, 504, n(7))))
	harms(t, s, ins(0x7b, 10, 10, 0, 0))
	harms(t, s, ins(0x7a, 10, 0, 0, 7))
}

// TestStepOfLayouts: one that may not be is told ahead of what may do harm.
func TestStepOfLayouts(t *testing.T) {
	area := api.Area{Size: 1, Write: true}
	maps := func(n int) []api.Area {
		var l []api.Area
		for range n {
			l = append(l, area)
		}
		return l
	}
	for _, l := range []api.Layout{
		{Context: api.Area{Size: -1}}, {Context: api.Area{Size: 4097}}, {Context: api.Area{Size: least}}, {Context: api.Area{Size: most}},
		{Maps: maps(9)}, {Maps: []api.Area{{}}}, {Maps: []api.Area{area, {Size: 4097}}}, {Maps: []api.Area{{Size: -1}, area}},
	} {
		refused(t, api.ErrArg, l, around(mov(2, 5)), here, state.Begin())
		refused(t, api.ErrArg, l, around(exit), here, state.Begin())
		refused(t, api.ErrArg, l, around(ins(0x05, 0, 0, 1, 0)), here, state.Begin())
	}
	for _, l := range []api.Layout{{}, {Context: api.Area{Size: 4096}}, {Maps: maps(8)}, {Maps: []api.Area{{Size: 4096}}}} {
		s := state.Begin()
		goesIn(t, l, s, mov(2, 5), api.Fact{}, next(1, put(s, regs{2: five})))
		harmsIn(t, l, s, exit)
	}
}

func TestStepOfPlaces(t *testing.T) {
	p, s := []api.Ins{mov(2, 5), mov(3, 5), exit}, state.Begin()
	for _, at := range []int{least, -1 << 32, -3, -2, -1, 3, 4, 1 << 32, 1<<32 + 1, most} {
		refused(t, api.ErrArg, sample, p, at, s)
	}
	for _, none := range [][]api.Ins{nil, {}, p[:0]} {
		refused(t, api.ErrArg, sample, none, 0, s)
		refused(t, api.ErrArg, sample, none, -1, s)
	}
	refused(t, api.ErrArg, sample, p[:1], 1, s) // what lies behind the list's end is nobody's
	for at := range 2 {
		want := []api.Next{{At: at + 1, Abs: put(s, regs{2 + at: five})}}
		if got, f, e := astep.Step(sample, p, at, s); e != api.OK || f != (api.Fact{}) || !alike(got, want) {
			t.Errorf("Step at %d = %s, %v, %d", at, brief(got, s), f, e)
		}
	}
	refused(t, api.ErrUnsafe, sample, p, 2, s)
}

// TestStepOfHoles: what stands in a hole counts for nothing, wide or not, and there each other one is one.
func TestStepOfHoles(t *testing.T) {
	s := having(regs{0: five})
	for _, x := range []api.Ins{{}, exit, mov(2, 5), call(1), wide(2, 5), ins(0x05, 0, 0, -1, 0), ins(0x79, 2, 10, -8, 0)} {
		refused(t, api.ErrArg, sample, []api.Ins{wide(1, 2), x, exit}, 1, s)
		refused(t, api.ErrArg, sample, []api.Ins{wide(1, 2), x}, 1, s)
		refused(t, api.ErrArg, sample, []api.Ins{{}, wideMap(1, 0), x, exit}, 2, s)
	}
	for first := range 4 {
		p := make([]api.Ins, first)
		for range 6 {
			p = append(p, wide(2, 5))
		}
		p = append(p, exit)
		for i := range 7 {
			got, f, e := astep.Step(sample, p, first+i, s)
			switch {
			case i%2 == 1:
				refused(t, api.ErrArg, sample, p, first+i, s)
			case i == 6 && (e != api.OK || len(got) != 0 || f != api.Fact{}):
				t.Errorf("exit behind %d and three wide ones: %v, %v, %d", first, got, f, e)
			case i < 6 && (e != api.OK || !alike(got, []api.Next{{At: first + i + 2, Abs: put(s, regs{2: five})}}) || f != api.Fact{}):
				t.Errorf("wide one %d behind %d: %v, %v, %d", i, first, got, f, e)
			}
		}
	}
}

// TestTheRestOfTheProgramIsNotAskedFor: neither what else stands there, nor whether one leaves it.
func TestTheRestOfTheProgramIsNotAskedFor(t *testing.T) {
	s := having(regs{2: all})
	wrong := api.Ins{Op: 6, Dst: 99}
	for _, c := range []struct {
		p    []api.Ins
		at   int
		want []api.Next
	}{
		{[]api.Ins{mov(2, 5)}, 0, []api.Next{{At: 1, Abs: put(s, regs{2: five})}}},
		{[]api.Ins{wrong, mov(2, 5), wrong}, 1, []api.Next{{At: 2, Abs: put(s, regs{2: five})}}},
		{[]api.Ins{wide(2, 5)}, 0, []api.Next{{At: 2, Abs: put(s, regs{2: five})}}},
		{[]api.Ins{wide(2, 5), wrong}, 0, []api.Next{{At: 2, Abs: put(s, regs{2: five})}}},
		{[]api.Ins{ins(0x05, 0, 0, -32768, 0)}, 0, []api.Next{{At: -32767, Abs: s}}},
		{[]api.Ins{ins(0x05, 0, 0, 32767, 0)}, 0, []api.Next{{At: 32768, Abs: s}}},
		{[]api.Ins{wide(2, 5), {}, ins(0x05, 0, 0, -2, 0)}, 2, []api.Next{{At: 1, Abs: s}}}, // into a hole
		{[]api.Ins{ins(0x45, 2, 0, -9, 3)}, 0, []api.Next{{At: 1, Abs: put(s, regs{2: number(byFour())})}, {At: -8, Abs: s}}},
	} {
		if got, f, e := astep.Step(sample, c.p, c.at, s); e != api.OK || f != (api.Fact{}) || !alike(got, c.want) {
			t.Errorf("Step(%v, %d) = %s, %v, %d; want %s", c.p, c.at, brief(got, s), f, e, brief(c.want, s))
		}
	}
}

// byFour answers the numbers of which the two lowest bits are nought.
func byFour() api.Bound {
	b := bound.Any()
	b.Umax, b.Smax, b.Bits = full-3, most-3, api.Tnum{Mask: full - 3}
	return b
}

func TestStepOfInstructionsThatMayNotBe(t *testing.T) {
	s := put(filled(state.Begin(), 0, 512), regs{0: five, 2: five, 3: five})
	for _, x := range []api.Ins{
		{}, {Op: -1}, {Op: 256}, {Op: 0x06}, {Op: 0x8f, Dst: 2}, {Op: 0xd7, Dst: 2}, {Op: 0x95 + 256}, {Op: 0x95, Dst: 1}, {Op: 0x95, Imm: 1},
		{Op: 0x9e}, {Op: 0x1d, Imm: 1}, {Op: 0x05, Imm: 1}, {Op: 0x05, Off: 32768}, {Op: 0x05, Off: most},
		call(0), call(6), call(-1), {Op: 0x85, Imm: 1, Src: 1}, {Op: 0x8d, Imm: 1},
		ins(0xb7, 10, 0, 0, 5), ins(0xb7, 11, 0, 0, 5), ins(0xb7, -1, 0, 0, 5), ins(0xb7, 2, 1, 0, 5), ins(0xb7, 2, 0, 1, 5),
		ins(0xb7, 2, 0, 0, 1<<31), ins(0xb7, 2, 0, 0, -1<<31-1), ins(0xbf, 2, 3, 0, 1), ins(0xbf, 2, 11, 0, 0), ins(0xbf, 2, -1, 0, 0),
		ins(0x67, 2, 0, 0, 64), ins(0x64, 2, 0, 0, 32), ins(0x87, 2, 0, 0, 1),
		ins(0x79, 10, 10, -8, 0), ins(0x79, 2, 10, -8, 1), ins(0x7a, 10, 1, -8, 0), ins(0x7b, 10, 1, -8, 1), ins(0x78, 2, 10, -8, 0),
		ins(0x7b, 10, 1, -32769, 0), ins(0x7b, 11, 1, -8, 0),
		{Op: 0x18, Dst: 10}, {Op: 0x18, Dst: 2, Imm: 1}, {Op: 0x18, Dst: 2, Src: 2}, {Op: 0x18, Dst: 2, Src: 1, Imm: 8, Wide: 8},
		{Op: 0x18, Dst: 2, Src: 1, Imm: -1, Wide: full}, {Op: 0x18, Dst: 2, Src: 1, Wide: 1}, {Op: 0x18, Dst: 2, Off: 1},
		{Op: 0xb7, Dst: 2, Wide: 5},
	} {
		refused(t, api.ErrArg, sample, around(x), here, s)
	}
}

func TestStepOfStatesThatMayNotBe(t *testing.T) {
	right := put(filled(state.Begin(), 0, 512), regs{0: five, 2: five})
	for i, s := range wrongStates(right) {
		if state.Check(s) {
			t.Fatalf("wrong state %d may be", i)
		}
		for _, x := range []api.Ins{mov(2, 5), exit, ins(0x05, 0, 0, 1, 0), ins(0x15, 2, 0, 1, 5), ins(0x79, 2, 10, -8, 0), ins(0x7a, 10, 0, -8, 0), call(1), wide(2, 5), ins(0x7a, 10, 0, 0, 0)} {
			refused(t, api.ErrArg, sample, around(x), here, s)
		}
	}
}

// wrongStates are states that may not be, near one that may.
func wrongStates(s api.Abs) []api.Abs {
	none := api.Bound{Umin: 1}
	return []api.Abs{
		{}, {Regs: s.Regs}, {Regs: s.Regs, Set: s.Set}, {Set: s.Set, Saved: s.Saved}, {Regs: s.Regs, Saved: s.Saved},
		{Regs: s.Regs[:10], Set: s.Set, Saved: s.Saved}, {Regs: append(s.Regs[:11:11], five), Set: s.Set, Saved: s.Saved},
		{Regs: s.Regs, Set: s.Set[:511], Saved: s.Saved}, {Regs: s.Regs, Set: append(s.Set[:512:512], true), Saved: s.Saved},
		{Regs: s.Regs, Set: s.Set, Saved: s.Saved[:63]}, {Regs: s.Regs, Set: s.Set, Saved: append(s.Saved[:64:64], unset)},
		put(s, regs{9: number(none)}), put(s, regs{9: place(3, none)}), put(s, regs{9: place(0, bound.Any())}), put(s, regs{9: place(11, bound.Any())}),
		put(s, regs{9: {Kind: api.Number, Region: 1}}), put(s, regs{9: {Num: bound.Const(5)}}), put(s, regs{9: {Region: 1}}), put(s, regs{9: {Kind: 3}}),
		with(s, func(s *api.Abs) { s.Saved[3] = number(none) }),
		with(s, func(s *api.Abs) { s.Saved[3], s.Set[31] = five, false }),
	}
}

// TestAnswersAreTheCallersOwn writes on what one call answers, and on what it was handed.
func TestAnswersAreTheCallersOwn(t *testing.T) {
	s := put(keeping(filled(state.Begin(), 0, 512), 496, five), regs{0: five, 2: all, 3: n(4), 4: top, 5: number(to(1, 4)), 7: at(3, 8)})
	for _, x := range []api.Ins{
		mov(2, 5), ins(0xbf, 2, 4, 0, 0), ins(0x0f, 2, 2, 0, 0), ins(0x05, 0, 0, 1, 0), wide(2, 5), wideMap(2, 0), exit,
		ins(0x15, 2, 0, 1, 5), ins(0x1d, 2, 3, 1, 0), ins(0x1d, 2, 2, 1, 0), ins(0x15, 4, 0, 1, 5), ins(0x1d, 2, 4, 1, 0), ins(0x15, 0, 0, 1, 5),
		ins(0x79, 2, 10, -8, 0), ins(0x71, 2, 1, 0, 0), ins(0x7b, 7, 2, 0, 0), ins(0x72, 7, 0, 1, 9), ins(0x7b, 10, 2, -8, 0), ins(0x7a, 10, 0, -16, 9), call(1), ins(0x79, 2, 10, 0, 0), mov(10, 5),
	} {
		ownAnswer(t, s, x)
	}
	for _, h := range []int{3, 4} {
		ownAnswer(t, put(s, regs{1: at(2, 8), 2: number(to(1, 4))}), call(h))
		ownAnswer(t, put(s, regs{1: at(4, 8), 2: number(to(1, 4))}), call(h))
		ownAnswer(t, put(s, regs{1: at(5, 8), 2: number(to(1, 4))}), call(h))
	}
}

func ownAnswer(t *testing.T, s api.Abs, x api.Ins) {
	t.Helper()
	l := api.Layout{Context: sample.Context, Maps: append(make([]api.Area, 0, 20), sample.Maps...)}
	roomy := with(s, func(s *api.Abs) {
		s.Regs = append(make([]api.Known, 0, 40), s.Regs...)
		s.Set = append(make([]bool, 0, 2000), s.Set...)
		s.Saved = append(make([]api.Known, 0, 1000), s.Saved...)
	})
	p := around(x)
	got, _, e := astep.Step(l, p, here, roomy)
	want, _, _ := astep.Step(sample, around(x), here, s)
	for i := range got {
		spoil(got[i].Abs)
		for j := range got {
			if i != j && got[j].At != 0 && !reflect.DeepEqual(got[j], want[j]) {
				t.Errorf("%v: ways %d and %d share something", x, i, j)
			}
		}
		got[i].At = 0
	}
	_ = append(got, api.Next{})
	if !reflect.DeepEqual(roomy, s) || !reflect.DeepEqual(l, sample) || !reflect.DeepEqual(p, around(x)) {
		t.Errorf("%v: what was handed in is changed, or shared", x)
	}
	got, _, again := astep.Step(l, p, here, roomy)
	spoil(roomy)
	clear(l.Maps)
	clear(p)
	if again != e || !alike(got, want) {
		t.Errorf("%v: the second answer is another one, or shared", x)
	}
}

// spoil writes on all of a state, list by list, and past the lists' ends.
func spoil(s api.Abs) {
	saved := append([]api.Known{}, s.Saved...)
	for i := range s.Regs {
		s.Regs[i] = place(9, bound.Size(2))
	}
	_ = append(s.Regs, s.Regs...)
	if !reflect.DeepEqual(saved, append([]api.Known{}, s.Saved...)) {
		panic("registers and what is saved share something")
	}
	for i := range s.Saved {
		s.Saved[i] = place(8, bound.Size(2))
	}
	_ = append(s.Saved, s.Saved...)
	for i := range s.Set {
		s.Set[i] = !s.Set[i]
	}
	_ = append(s.Set, s.Set...)
}
