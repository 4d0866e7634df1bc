package astep_test

import (
	"testing"

	"clevis/api"
	"clevis/arith"
	"clevis/bound"
	"clevis/state"
)

var operations = []int{api.Add, api.Sub, api.Mul, api.Div, api.Or, api.And, api.Lsh, api.Rsh, api.Mod, api.Xor, api.Mov, api.Arsh}

// sets asks for an instruction that sets a register and leads on.
func sets(t *testing.T, s api.Abs, x api.Ins, want api.Known) {
	t.Helper()
	goes(t, s, x, api.Fact{}, next(1, put(s, regs{x.Dst: want})))
}

// alu answers what layer 9 says, as a number.
func alu(op int, a, b api.Bound, wide bool) api.Known {
	r, _ := arith.Alu(op, a, b, wide)
	return number(r)
}

func TestAluOfNumbers(t *testing.T) {
	s := having(regs{2: number(to(1, 3)), 3: number(to(10, 20)), 4: number(signs(-5, 9)), 5: all, 6: n(1<<40 + 7)})
	sets(t, s, ins(0x0f, 2, 3, 0, 0), number(to(11, 23)))
	sets(t, s, ins(0x07, 2, 0, 0, -1), number(to(0, 2)))
	sets(t, s, ins(0x57, 5, 0, 0, 7), number(to(0, 7)))
	sets(t, s, ins(0xb7, 0, 0, 0, -1), n(full))
	sets(t, s, ins(0xb4, 0, 0, 0, -1), n(1<<32-1))
	sets(t, s, ins(0xbf, 0, 6, 0, 0), n(1<<40+7))
	sets(t, s, ins(0xbc, 0, 6, 0, 0), n(7))
	sets(t, s, ins(0x87, 6, 0, 0, 0), n(full-1<<40-6))
	sets(t, s, ins(0x84, 6, 0, 0, 0), n(1<<32-7))
	for _, op := range operations {
		for a := 2; a <= 6; a++ {
			for b := 2; b <= 6; b++ {
				sets(t, s, ins(op+0x0f, a, b, 0, 0), alu(op, s.Regs[a].Num, s.Regs[b].Num, true))
				sets(t, s, ins(op+0x0c, a, b, 0, 0), alu(op, s.Regs[a].Num, s.Regs[b].Num, false))
			}
			sets(t, s, ins(op+0x07, a, 0, 0, 5), alu(op, s.Regs[a].Num, bound.Const(5), true))
			sets(t, s, ins(op+0x04, a, 0, 0, 5), alu(op, s.Regs[a].Num, bound.Const(5), false))
			if op != api.Lsh && op != api.Rsh && op != api.Arsh {
				sets(t, s, ins(op+0x07, a, 0, 0, -5), alu(op, s.Regs[a].Num, bound.Const(full-4), true))
				sets(t, s, ins(op+0x04, a, 0, 0, -5), alu(op, s.Regs[a].Num, bound.Const(1<<32-5), false))
			}
		}
	}
}

// TestMovTakesAllThatIsKnown: wide, it is not made tidy, as layer 9 would.
func TestMovTakesAllThatIsKnown(t *testing.T) {
	odd := number(api.Bound{Umin: 4, Umax: 7, Smin: -5, Smax: -2, Bits: api.Tnum{Value: 64}})
	untidy := number(signs(0, 9))
	for _, k := range []api.Known{five, all, odd, untidy, context, top, place(10, bound.Any()), place(5, signs(0, 9))} {
		for _, before := range []api.Known{unset, five, context} {
			s := having(regs{7: k, 2: before, 10: k})
			sets(t, s, ins(0xbf, 2, 7, 0, 0), k)
			sets(t, s, ins(0xbf, 2, 10, 0, 0), k)
			sets(t, s, ins(0xbf, 7, 7, 0, 0), k)
			want := alu(api.Mov, bound.Any(), bound.Any(), false)
			if k.Kind == api.Number {
				want = alu(api.Mov, bound.Any(), k.Num, false)
			}
			sets(t, s, ins(0xbc, 2, 7, 0, 0), want)
		}
	}
}

func TestAluOfPlaces(t *testing.T) {
	somewhere := place(4, to(3, 9))
	s := having(regs{2: somewhere, 3: number(to(10, 20)), 4: at(3, 5), 5: all, 6: place(10, signs(-5, 9)), 10: top})
	sets(t, s, ins(0x0f, 2, 3, 0, 0), place(4, to(13, 29)))
	sets(t, s, ins(0x0f, 3, 2, 0, 0), place(4, to(13, 29)))
	sets(t, s, ins(0x0f, 3, 10, 0, 0), place(2, to(522, 532)))
	sets(t, s, ins(0x1f, 2, 3, 0, 0), place(4, alu(api.Sub, to(3, 9), to(10, 20), true).Num))
	sets(t, s, ins(0x07, 2, 0, 0, -8), place(4, alu(api.Add, to(3, 9), bound.Const(full-7), true).Num))
	sets(t, s, ins(0x17, 2, 0, 0, 3), place(4, to(0, 6)))
	sets(t, s, ins(0x17, 4, 0, 0, 8), at(3, -3))
	sets(t, s, ins(0x0f, 4, 5, 0, 0), place(3, bound.Any()))
	sets(t, s, ins(0x0f, 5, 4, 0, 0), place(3, bound.Any()))
	sets(t, s, ins(0x07, 6, 0, 0, 1), place(10, alu(api.Add, signs(-5, 9), bound.Const(1), true).Num))
	// A number less a place is none, nor is what is made of two.
	sets(t, s, ins(0x1f, 3, 2, 0, 0), all)
	sets(t, s, ins(0x1f, 2, 4, 0, 0), all)
	sets(t, s, ins(0x1f, 2, 2, 0, 0), all)
	sets(t, s, ins(0x0f, 2, 4, 0, 0), all)
	sets(t, s, ins(0x0f, 2, 2, 0, 0), all)
	sets(t, s, ins(0x87, 2, 0, 0, 0), all)
}

// TestPlacesAreNumbersOfWhichNothingIsKnown, but where they stay places.
func TestPlacesAreNumbersOfWhichNothingIsKnown(t *testing.T) {
	any, few := bound.Any(), to(10, 20)
	s := having(regs{2: at(4, 6), 3: number(few), 4: at(3, 5)})
	for _, op := range operations {
		for _, wide := range []bool{true, false} {
			base := 0x04
			if wide {
				base = 0x07
			}
			sets(t, s, ins(op+base+8, 2, 4, 0, 0), map[bool]api.Known{true: at(3, 5), false: alu(op, any, any, wide)}[wide && op == api.Mov])
			if wide && (op == api.Add || op == api.Sub || op == api.Mov) {
				continue
			}
			sets(t, s, ins(op+base+8, 2, 3, 0, 0), alu(op, any, few, wide))
			sets(t, s, ins(op+base+8, 3, 2, 0, 0), alu(op, few, any, wide))
			sets(t, s, ins(op+base, 2, 0, 0, 3), alu(op, any, bound.Const(3), wide))
		}
	}
	sets(t, s, ins(0x84, 2, 0, 0, 0), alu(api.Neg, any, bound.Const(0), false))
	sets(t, s, ins(0x57, 2, 0, 0, 7), number(to(0, 7))) // even so, something may be known
	sets(t, s, ins(0xb4, 2, 0, 0, 9), n(9))
}

func TestAluNeedsRegisters(t *testing.T) {
	s := having(regs{2: five, 4: context})
	for _, op := range operations {
		for _, class := range []int{0x04, 0x07} {
			for _, set := range []int{2, 4} {
				harms(t, s, ins(op+class+8, set, 3, 0, 0))
				if op == api.Mov {
					continue
				}
				harms(t, s, ins(op+class+8, 3, set, 0, 0))
				harms(t, s, ins(op+class+8, 3, 3, 0, 0))
				harms(t, s, ins(op+class, 3, 0, 0, 1))
			}
		}
	}
	harms(t, s, ins(0x87, 3, 0, 0, 0))
	harms(t, s, ins(0x84, 3, 0, 0, 0))
	harms(t, s, ins(0xbf, 3, 3, 0, 0))
	harms(t, s, ins(0xbf, 3, 10, 0, 0)) // here it is not set
	sets(t, s, ins(0xb7, 3, 0, 0, 5), five)
	sets(t, s, ins(0xb4, 3, 0, 0, 5), five)
	sets(t, s, ins(0xbf, 3, 2, 0, 0), five)
	sets(t, s, ins(0xbc, 3, 2, 0, 0), five)
}

func TestWide(t *testing.T) {
	for _, k := range []api.Known{unset, five, context} {
		s := having(regs{7: k})
		for _, x := range []uint64{0, 5, 1 << 31, 1 << 32, 3 << 32, 1 << 63, full} {
			goes(t, s, wide(7, x), api.Fact{}, next(2, put(s, regs{7: n(x)})))
		}
		for i := range 8 {
			if i < len(sample.Maps) {
				goes(t, s, wideMap(7, i), api.Fact{}, next(2, put(s, regs{7: at(3+i, 0)})))
			} else {
				harms(t, s, wideMap(7, i))
			}
			harmsIn(t, api.Layout{Context: sample.Context}, s, wideMap(7, i))
			area := api.Area{Size: 1}
			goesIn(t, api.Layout{Maps: []api.Area{area, area, area, area, area, area, area, area}}, s, wideMap(7, i), api.Fact{}, next(2, put(s, regs{7: at(3+i, 0)})))
		}
	}
}

func TestExit(t *testing.T) {
	for _, k := range []api.Known{five, all, context, place(10, bound.Any())} {
		goes(t, having(regs{0: k}), exit, api.Fact{})
	}
	harms(t, having(nil), exit)
	harms(t, state.Begin(), exit)
	harms(t, filled(having(regs{1: five, 2: five, 9: five, 10: five}), 0, 512), exit)
}
