package astep_test

import (
	"math"
	"reflect"
	"slices"
	"testing"

	"clevis/api"
	"clevis/astep"
	"clevis/bound"
	"clevis/state"
)

const (
	full  = 1<<64 - 1
	least = math.MinInt
	most  = math.MaxInt
	reach = 1 << 40
)

// sample has regions of many sizes: such that may be written, and such that may not.
var sample = api.Layout{Context: api.Area{Size: 16}, Maps: []api.Area{{Size: 20, Write: true}, {Size: 70}, {Size: 100, Write: true}, {Size: 1, Write: true}}}

// What may be known.
var (
	unset   = api.Known{}
	all     = number(bound.Any())
	five    = n(5)
	few     = number(bound.Size(1))
	context = at(1, 0)
	top     = at(2, 512)
)

// n is a number that is known.
func n(x uint64) api.Known { return number(bound.Const(x)) }

func number(b api.Bound) api.Known { return api.Known{Kind: api.Number, Num: b} }

// at is an offset in a region that is known.
func at(region int, off int) api.Known { return place(region, bound.Const(uint64(off))) }

func place(region int, b api.Bound) api.Known {
	return api.Known{Kind: api.Place, Num: b, Region: region}
}

// signs answers numbers of which it is known alone from where to where they are with signs.
func signs(low, high int) api.Bound {
	b := bound.Any()
	b.Smin, b.Smax = int64(low), int64(high)
	return b
}

// to answers the numbers from low to high.
func to(low, high int) api.Bound {
	b := signs(low, high)
	b, _ = bound.Tidy(b)
	return b
}

func ins(op, dst, src, off, imm int) api.Ins {
	return api.Ins{Op: op, Dst: dst, Src: src, Off: off, Imm: imm}
}

func mov(d, imm int) api.Ins { return ins(0xb7, d, 0, 0, imm) }

func call(h int) api.Ins { return ins(0x85, 0, 0, 0, h) }

var exit = api.Ins{Op: 0x95}

func wide(d int, x uint64) api.Ins {
	return api.Ins{Op: 0x18, Dst: d, Imm: int(int32(x)), Wide: x}
}

func wideMap(d, i int) api.Ins {
	return api.Ins{Op: 0x18, Dst: d, Src: 1, Imm: i, Wide: uint64(i)}
}

// regs are registers of which something is known.
type regs map[int]api.Known

// having answers a state in which something is known of some registers, and nothing else.
func having(l regs) api.Abs {
	s := api.Abs{Regs: make([]api.Known, 11), Set: make([]bool, 512), Saved: make([]api.Known, 64)}
	return put(s, l)
}

// with answers what another state is, but for a change.
func with(s api.Abs, change func(s *api.Abs)) api.Abs {
	s = api.Abs{Regs: slices.Clone(s.Regs), Set: slices.Clone(s.Set), Saved: slices.Clone(s.Saved)}
	change(&s)
	return s
}

// put answers what another state is, but for some registers.
func put(s api.Abs, l regs) api.Abs {
	return with(s, func(s *api.Abs) {
		for r, k := range l {
			s.Regs[r] = k
		}
	})
}

// filled answers what another state is, with the bytes from low up to, not with, high set.
func filled(s api.Abs, low, high int) api.Abs {
	return with(s, func(s *api.Abs) {
		for i := low; i < high; i++ {
			s.Set[i] = true
		}
	})
}

// keeping answers what another state is, with a register saved at an offset.
func keeping(s api.Abs, off int, k api.Known) api.Abs {
	return with(filled(s, off, off+8), func(s *api.Abs) { s.Saved[off/8] = k })
}

// here is the place at which the tests' instruction stands, behind holes and ahead of one, so that most of what is near is there.
const here = 5

// around answers a program in which an instruction stands at here.
func around(x api.Ins) []api.Ins {
	return []api.Ins{mov(0, 1), wide(1, 2), {}, wide(1, 2), {}, x, {}, exit, exit}
}

// next is where one may go on: how far behind here, and what is known there.
func next(off int, s api.Abs) api.Next { return api.Next{At: here + off, Abs: s} }

// goes asks for an instruction with which all is well.
func goes(t *testing.T, s api.Abs, x api.Ins, f api.Fact, want ...api.Next) {
	t.Helper()
	goesIn(t, sample, s, x, f, want...)
}

func goesIn(t *testing.T, l api.Layout, s api.Abs, x api.Ins, f api.Fact, want ...api.Next) {
	t.Helper()
	if !state.Check(s) {
		t.Fatalf("the state that %v is asked with may not be", x)
	}
	got, fact, e := astep.Step(l, around(x), here, s)
	if e != api.OK || fact != f || !alike(got, want) {
		t.Errorf("Step(%v) = %s, %v, %d; want %s, %v", x, brief(got, s), fact, e, brief(want, s), f)
	}
}

// alike tells whether two lists are; a nil and an empty one are.
func alike(a, b []api.Next) bool { return len(a) == 0 && len(b) == 0 || reflect.DeepEqual(a, b) }

// harms asks for an instruction that may do harm.
func harms(t *testing.T, s api.Abs, x api.Ins) {
	t.Helper()
	harmsIn(t, sample, s, x)
}

func harmsIn(t *testing.T, l api.Layout, s api.Abs, x api.Ins) {
	t.Helper()
	if !state.Check(s) {
		t.Fatalf("the state that %v is asked with may not be", x)
	}
	refused(t, api.ErrUnsafe, l, around(x), here, s)
}

// refused asks for an instruction that is not done.
func refused(t *testing.T, want api.Errno, l api.Layout, p []api.Ins, at int, s api.Abs) {
	t.Helper()
	if got, fact, e := astep.Step(l, p, at, s); e != want || fact != (api.Fact{}) || len(got) != 0 {
		t.Errorf("Step(%v, %v, %d) = %s, %v, %d; want %d", l, p, at, brief(got, s), fact, e, want)
	}
}
