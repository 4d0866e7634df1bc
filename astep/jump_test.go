package astep_test

import (
	"testing"

	"clevis/api"
	"clevis/bound"
	"clevis/branch"
	"clevis/state"
)

var conditions = []int{api.Jeq, api.Jgt, api.Jge, api.Jset, api.Jne, api.Jsgt, api.Jsge, api.Jlt, api.Jle, api.Jslt, api.Jsle}

// far is how far the tests' jumps go.
const far = 40

func TestJa(t *testing.T) {
	for _, s := range []api.Abs{state.Begin(), having(nil), keeping(having(regs{0: few}), 8, context)} {
		for _, off := range []int{-32768, -6, -1, 0, 1, 2, far, 32767} {
			goes(t, s, ins(0x05, 0, 0, off, 0), api.Fact{}, next(1+off, s))
		}
	}
}

// TestJumpOfOneNumber goes by what is known of a register and Imm.
func TestJumpOfOneNumber(t *testing.T) {
	s := keeping(having(regs{2: all, 3: number(to(5, 9)), 4: five, 10: number(to(5, 9))}), 8, context)
	jlt := func(d, imm int) api.Ins { return ins(0xa5, d, 0, far, imm) }
	tail, _, _ := branch.Refine(api.Jlt, bound.Any(), bound.Const(10), true, false)
	goes(t, s, jlt(2, 10), api.Fact{}, next(1, put(s, regs{2: number(tail)})), next(1+far, put(s, regs{2: number(to(0, 9))})))
	goes(t, s, jlt(3, 7), api.Fact{}, next(1, put(s, regs{3: number(to(7, 9))})), next(1+far, put(s, regs{3: number(narrowed(5, 9, 5, 6))})))
	goes(t, s, jlt(10, 7), api.Fact{}, next(1, put(s, regs{10: number(to(7, 9))})), next(1+far, put(s, regs{10: number(narrowed(5, 9, 5, 6))})))
	goes(t, s, jlt(3, 10), api.Fact{}, next(1+far, s)) // it holds of all
	goes(t, s, jlt(3, 5), api.Fact{}, next(1, s))      // and of none
	goes(t, s, jlt(4, 6), api.Fact{}, next(1+far, s))
	goes(t, s, jlt(4, 5), api.Fact{}, next(1, s))
	goes(t, s, jlt(4, -1), api.Fact{}, next(1+far, s)) // that is the greatest number
	goes(t, s, ins(0xc5, 4, 0, far, -1), api.Fact{}, next(1, s))
	goes(t, s, ins(0x15, 4, 0, -3, 5), api.Fact{}, next(-2, s))
	goes(t, s, ins(0x55, 3, 0, 0, 5), api.Fact{}, next(1, put(s, regs{3: five})), next(1, put(s, regs{3: number(to(6, 9))}))) // both to the same place
}

// TestJumpOfTwoNumbers: each of them is what layer 10 says, Dst the first one.
func TestJumpOfTwoNumbers(t *testing.T) {
	s := having(regs{2: number(to(0, 20)), 3: number(to(10, 30)), 4: n(10), 10: number(to(10, 30))})
	goes(t, s, ins(0x3d, 2, 3, far, 0), api.Fact{},
		next(1, s),
		next(1+far, put(s, regs{2: number(narrowed(0, 20, 10, 20)), 3: number(narrowed(10, 30, 10, 20))})))
	goes(t, s, ins(0x3d, 3, 2, far, 0), api.Fact{},
		next(1, put(s, regs{3: number(narrowed(10, 30, 10, 19)), 2: number(narrowed(0, 20, 11, 20))})),
		next(1+far, s))
	goes(t, s, ins(0x1d, 2, 4, far, 0), api.Fact{}, next(1, s), next(1+far, put(s, regs{2: n(10)})))
	goes(t, s, ins(0x1d, 4, 2, far, 0), api.Fact{}, next(1, s), next(1+far, put(s, regs{2: n(10)})))
	goes(t, s, ins(0x1d, 4, 10, far, 0), api.Fact{}, next(1, put(s, regs{10: number(narrowed(10, 30, 11, 30))})), next(1+far, put(s, regs{10: n(10)})))
	goes(t, s, ins(0x2d, 4, 3, far, 0), api.Fact{}, next(1, s)) // it cannot be above
}

// narrowed answers the numbers from a to b, of which it was learned that they are from low to high.
func narrowed(a, b, low, high int) api.Bound {
	r := to(a, b)
	r.Umin, r.Umax, r.Smin, r.Smax = uint64(low), uint64(high), int64(low), int64(high)
	r, _ = bound.Tidy(r)
	return r
}

func TestJumpsAreLayer10s(t *testing.T) {
	numbers := []api.Bound{bound.Any(), to(0, 20), to(10, 30), bound.Const(10), bound.Const(full), signs(-5, 12), bound.Size(4), to(1<<31, 1<<31+5), bound.Const(1<<32 + 10)}
	for _, cond := range conditions {
		for _, wide := range []bool{true, false} {
			op := cond + 0x06
			if wide {
				op = cond + 0x05
			}
			for _, a := range numbers {
				for _, b := range numbers {
					s := having(regs{2: number(a), 3: number(b)})
					goes(t, s, ins(op+8, 2, 3, far, 0), api.Fact{}, refined(s, cond, 2, 3, wide)...)
				}
				for _, imm := range []int{0, 10, -1, -1 << 31} {
					c := uint64(imm)
					if !wide {
						c = uint64(uint32(imm))
					}
					s := having(regs{2: number(a), 9: n(c)})
					goes(t, s, ins(op, 2, 0, far, imm), api.Fact{}, refined(s, cond, 2, 9, wide)...)
				}
			}
		}
	}
}

// refined answers both ways as layer 10 has them, of two registers.
func refined(s api.Abs, cond, dst, src int, wide bool) []api.Next {
	var l []api.Next
	for _, holds := range []bool{false, true} {
		a, b, ok := branch.Refine(cond, s.Regs[dst].Num, s.Regs[src].Num, wide, holds)
		if !ok {
			continue
		}
		off := 1
		if holds {
			off += far
		}
		l = append(l, next(off, put(s, regs{dst: number(a), src: number(b)})))
	}
	return l
}

// TestJumpOfARegisterWithItself: it stays as it is, but not all ways can be.
func TestJumpOfARegisterWithItself(t *testing.T) {
	for _, c := range []struct {
		cond  int
		k     api.Known
		other bool // whether it may not hold
		holds bool
	}{
		{api.Jeq, five, false, true}, {api.Jne, five, true, false}, {api.Jlt, five, true, false}, {api.Jle, five, false, true}, {api.Jset, five, false, true}, {api.Jset, n(0), true, false},
		{api.Jeq, number(to(5, 9)), true, true}, {api.Jlt, number(to(5, 9)), true, true}, {api.Jsge, number(to(5, 9)), true, true}, {api.Jset, number(to(5, 9)), true, true},
		{api.Jlt, all, true, true}, {api.Jslt, number(signs(0, 9)), true, true},
		{api.Jlt, number(api.Bound{Umin: 4, Umax: 7, Smin: -5, Smax: -2, Bits: api.Tnum{Value: 64}}), false, false}, // nothing is in
	} {
		s := having(regs{3: c.k, 4: five})
		var want []api.Next
		if c.other {
			want = append(want, next(1, s))
		}
		if c.holds {
			want = append(want, next(1+far, s))
		}
		goes(t, s, ins(c.cond+0x0d, 3, 3, far, 0), api.Fact{}, want...)
		if c.k.Num.Umax <= 9 {
			goes(t, s, ins(c.cond+0x0e, 3, 3, far, 0), api.Fact{}, want...)
		}
	}
}

// TestSrcCountsWithByRegAlone: without it register 0 is not what is compared, though Src is 0.
func TestSrcCountsWithByRegAlone(t *testing.T) {
	s := having(regs{0: number(to(0, 20))})
	goes(t, s, ins(0xa5, 0, 0, far, 10), api.Fact{}, next(1, put(s, regs{0: number(narrowed(0, 20, 10, 20))})), next(1+far, put(s, regs{0: number(narrowed(0, 20, 0, 9))})))
	s = having(regs{0: context, 2: number(to(0, 20))})
	goes(t, s, ins(0xa5, 2, 0, far, 10), api.Fact{}, next(1, put(s, regs{2: number(narrowed(0, 20, 10, 20))})), next(1+far, put(s, regs{2: number(narrowed(0, 20, 0, 9))})))
}

// TestJumpOfPlaces: both ways can be, whatever the offsets.
func TestJumpOfPlaces(t *testing.T) {
	s := keeping(having(regs{1: context, 2: five, 3: at(3, 5), 4: place(4, signs(-5, 12)), 5: all, 10: top}), 16, few)
	for _, cond := range conditions {
		for _, class := range []int{0x05, 0x06} {
			for _, x := range []api.Ins{
				ins(cond+class, 1, 0, far, 0), ins(cond+class, 3, 0, far, 5), ins(cond+class, 10, 0, -9, -1),
				ins(cond+class+8, 1, 2, far, 0), ins(cond+class+8, 2, 1, far, 0), ins(cond+class+8, 5, 4, far, 0), ins(cond+class+8, 3, 3, far, 0),
				ins(cond+class+8, 3, 4, far, 0), ins(cond+class+8, 2, 10, 0, 0), ins(cond+class+8, 10, 2, -1, 0), ins(cond+class+8, 10, 10, far, 0),
			} {
				goes(t, s, x, api.Fact{}, next(1, s), next(1+x.Off, s))
			}
		}
	}
}

func TestJumpNeedsRegisters(t *testing.T) {
	s := having(regs{2: five, 3: context})
	for _, cond := range conditions {
		for _, class := range []int{0x05, 0x06} {
			harms(t, s, ins(cond+class, 4, 0, far, 0))
			harms(t, s, ins(cond+class, 10, 0, far, 5))
			for _, set := range []int{2, 3} {
				harms(t, s, ins(cond+class+8, 4, set, far, 0))
				harms(t, s, ins(cond+class+8, set, 4, far, 0))
				harms(t, s, ins(cond+class+8, set, 10, far, 0))
				harms(t, s, ins(cond+class+8, 4, 4, far, 0))
			}
		}
	}
}
