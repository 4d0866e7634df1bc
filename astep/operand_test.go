package astep_test

import (
	"testing"

	"clevis/api"
	"clevis/astep"
	"clevis/bound"
	"clevis/state"
)

func operand(t *testing.T, s api.Abs, x api.Ins, wide bool, want api.Known, ok bool) {
	t.Helper()
	if k, is := astep.Operand(s, x, wide); k != want || is != ok {
		t.Errorf("Operand(%v, %v) = %v, %v; want %v, %v", x, wide, k, is, want, ok)
	}
}

func TestOperandByRegister(t *testing.T) {
	odd := number(api.Bound{Umin: 4, Umax: 7, Smin: -5, Smax: -2, Bits: api.Tnum{Value: 64}}) // it may be, and is not made tidy
	s := having(regs{0: five, 1: context, 2: all, 3: few, 4: place(10, bound.Any()), 5: odd, 10: top})
	for _, wide := range []bool{true, false} {
		for r, want := range s.Regs {
			for _, op := range []int{0x0f, 0x0c, 0xbf, 0x1d, 0xde, 0x08, 0x18, 0x79, 0x108, -1, -8, 8} {
				operand(t, s, ins(op, 3, r, 0, 0), wide, want, r <= 5 || r == 10)
				operand(t, s, ins(op, 99, r, 1<<40, most), wide, want, r <= 5 || r == 10)
			}
		}
		for _, r := range []int{least, -1 << 32, -2, -1, 11, 12, 64, 1 << 32, 1<<32 + 1, most} {
			operand(t, s, ins(0x0f, 3, r, 0, 0), wide, unset, false)
		}
		for _, wrong := range wrongStates(s) {
			for _, r := range []int{-1, 0, 1, 9, 10, 11} {
				operand(t, wrong, ins(0x0f, 3, r, 0, 0), wide, unset, false)
			}
		}
	}
}

func TestOperandByItself(t *testing.T) {
	s := state.Begin()
	for _, c := range []struct {
		imm         int
		wide, short uint64
	}{
		{0, 0, 0}, {5, 5, 5}, {1<<31 - 1, 1<<31 - 1, 1<<31 - 1}, {-1, full, 1<<32 - 1}, {-7, full - 6, 1<<32 - 7}, {-1 << 31, full - 1<<31 + 1, 1 << 31},
		{1 << 31, full - 1<<31 + 1, 1 << 31}, {1<<32 + 5, 5, 5}, {-1<<40 + 5, 5, 5}, {most, full, 1<<32 - 1}, {least, 0, 0}, // modulo 2^32, as layer 1 takes them
	} {
		for _, op := range []int{0x07, 0x04, 0xb7, 0x15, 0x16, 0xd7, 0, 0x62, 0x100, -9} {
			for _, src := range []int{0, 3, 10, 11, -1, most} { // it is not asked for
				x := ins(op, 3, src, 1, c.imm)
				operand(t, s, x, true, n(c.wide), true)
				operand(t, s, x, false, n(c.short), true)
				for _, wrong := range wrongStates(s)[:4] {
					operand(t, wrong, x, true, n(c.wide), false)
					operand(t, wrong, x, false, n(c.short), false)
				}
			}
		}
	}
	for _, wrong := range wrongStates(filled(s, 0, 512)) {
		operand(t, wrong, mov(3, 5), true, five, false)
	}
}

func TestOperandChangesNothing(t *testing.T) {
	s := put(state.Begin(), regs{2: few})
	before := with(s, func(*api.Abs) {})
	astep.Operand(s, ins(0x0f, 3, 2, 0, 0), true)
	if !alike([]api.Next{{Abs: s}}, []api.Next{{Abs: before}}) {
		t.Error("Operand changes the state that it is handed")
	}
}
