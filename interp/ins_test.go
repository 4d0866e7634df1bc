package interp_test

import (
	"bytes"
	"testing"

	"clevis/api"
	"clevis/interp"
	"clevis/mem"
)

const (
	low32 = 1<<32 - 1
	all64 = 1<<64 - 1
)

func ins(op int, dst int, src int, off int, imm int) api.Ins {
	return api.Ins{Op: op, Dst: dst, Src: src, Off: off, Imm: imm}
}

func TestAlu(t *testing.T) {
	returns(t, all64, mov(0, -1))
	returns(t, low32, ins(0xb4, 0, 0, 0, -1))
	returns(t, 1<<64-1<<31, mov(0, -1<<31))
	returns(t, 1<<31, ins(0xb4, 0, 0, 0, -1<<31))
	returns(t, 1<<40+7, wide(2, 1<<40+7), movReg(0, 2))
	returns(t, 7, wide(2, 1<<40+7), ins(0xbc, 0, 2, 0, 0))
	returns(t, all64, mov(0, 0), ins(0x07, 0, 0, 0, -1))
	returns(t, low32, mov(0, 0), ins(0x04, 0, 0, 0, -1))
	returns(t, 1<<63, wide(0, 1<<63-1), ins(0x07, 0, 0, 0, 1))
	returns(t, 4, mov(0, 9), mov(3, 5), ins(0x1f, 0, 3, 0, 0))
	returns(t, 1<<63, wide(0, 1<<62), ins(0x27, 0, 0, 0, 2))
	returns(t, 1, wide(0, all64), ins(0x37, 0, 0, 0, -1)) // the number is 2^64 - 1, too
	returns(t, 0, mov(0, 7), ins(0x37, 0, 0, 0, 0))
	returns(t, 7, mov(0, 7), ins(0x97, 0, 0, 0, 0))
	returns(t, 1, mov(0, 7), ins(0x97, 0, 0, 0, 3))
	returns(t, 7, mov(0, 5), ins(0x47, 0, 0, 0, 3))
	returns(t, 1, mov(0, 5), ins(0x57, 0, 0, 0, 3))
	returns(t, 6, mov(0, 5), ins(0xa7, 0, 0, 0, 3))
	returns(t, 1<<63, mov(0, 1), ins(0x67, 0, 0, 0, 63))
	returns(t, 1<<31, mov(0, 1), ins(0x64, 0, 0, 0, 31))
	returns(t, 2, mov(0, 1), mov(2, 65), ins(0x6f, 0, 2, 0, 0))
	returns(t, 2, mov(0, 1), mov(2, 33), ins(0x6c, 0, 2, 0, 0))
	returns(t, 1, mov(0, -1), ins(0x77, 0, 0, 0, 63))
	returns(t, all64, mov(0, -1), ins(0xc7, 0, 0, 0, 63))
	returns(t, 0xf8000000, wide(0, 1<<31), ins(0xc4, 0, 0, 0, 4))
	returns(t, all64-4, mov(0, 5), ins(0x87, 0, 0, 0, 0))
	returns(t, low32-4, mov(0, 5), ins(0x84, 0, 0, 0, 0))
	returns(t, 16, mov(0, 8), ins(0x0f, 0, 0, 0, 0)) // of itself
}

func TestAluNeedsRegisters(t *testing.T) {
	for _, operation := range operations {
		for _, class := range []int{api.ClsAlu, api.ClsAlu64} {
			op := operation + class
			if operation == api.Mov {
				returns(t, 3, ins(op, 0, 0, 0, 3)) // Dst was not set, and is
			} else {
				traps(t, api.TrapReg, ins(op, 2, 0, 0, 1))
				traps(t, api.TrapReg, ins(op+api.ByReg, 2, 1, 0, 0))
			}
			traps(t, api.TrapReg, mov(2, 1), ins(op+api.ByReg, 2, 3, 0, 0))
			traps(t, api.TrapReg, ins(op+api.ByReg, 2, 3, 0, 0))
		}
	}
	traps(t, api.TrapReg, ins(0x84, 2, 0, 0, 0))
	traps(t, api.TrapReg, ins(0x87, 2, 0, 0, 0))
	traps(t, api.TrapReg, movReg(2, 2))
}

// jumps runs a jump behind some instructions, and tells whether it goes to its target.
func jumps(t *testing.T, want bool, l ...any) {
	t.Helper()
	p := program(l...)
	p[len(p)-1].Off = 2
	e := run(t, append(p, mov(0, 10), exit, mov(0, 20), exit), nil)
	if e.Kind != api.EndReturn || (e.Value == 20) != want {
		t.Errorf("%v: %d, %d", p, e.Kind, e.Value)
	}
}

func TestJump(t *testing.T) {
	minus, high := mov(2, -1), wide(2, 1<<32+5)
	for _, c := range []struct {
		cond         int
		x, y         int
		wide, narrow bool
	}{
		{api.Jeq, 5, 5, true, true},
		{api.Jeq, 5, 6, false, false},
		{api.Jne, 5, 5, false, false},
		{api.Jne, 5, 6, true, true},
		{api.Jgt, -1, 0, true, true},
		{api.Jgt, 0, 0, false, false},
		{api.Jge, 0, 0, true, true},
		{api.Jge, 0, -1, false, false},
		{api.Jlt, 0, -1, true, true},
		{api.Jlt, 0, 0, false, false},
		{api.Jle, 0, 0, true, true},
		{api.Jle, -1, 0, false, false},
		{api.Jset, 6, 2, true, true},
		{api.Jset, 6, 9, false, false},
		{api.Jsgt, 0, -1, true, true},
		{api.Jsgt, -1, -1, false, false},
		{api.Jsge, -1, -1, true, true},
		{api.Jsge, -1, 0, false, false},
		{api.Jslt, -1, 0, true, true},
		{api.Jslt, 0, 0, false, false},
		{api.Jsle, 0, 0, true, true},
		{api.Jsle, 0, -1, false, false},
	} {
		x, y := mov(2, c.x), mov(3, c.y)
		jumps(t, c.wide, x, ins(c.cond+api.ClsJmp, 2, 0, 0, c.y))
		jumps(t, c.narrow, x, ins(c.cond+api.ClsJmp32, 2, 0, 0, c.y))
		jumps(t, c.wide, x, y, ins(c.cond+api.ClsJmp+api.ByReg, 2, 3, 0, 0))
		jumps(t, c.narrow, x, y, ins(c.cond+api.ClsJmp32+api.ByReg, 2, 3, 0, 0))
	}
	jumps(t, false, high, ins(0x15, 2, 0, 0, 5))
	jumps(t, true, high, ins(0x16, 2, 0, 0, 5))
	jumps(t, true, high, mov(3, 5), ins(0x1e, 2, 3, 0, 0))
	jumps(t, true, minus, ins(0x15, 2, 0, 0, -1))
	jumps(t, true, ins(0xb4, 2, 0, 0, -1), ins(0x16, 2, 0, 0, -1))
	jumps(t, false, ins(0xb4, 2, 0, 0, -1), ins(0x15, 2, 0, 0, -1))
	jumps(t, true, ins(0xb4, 2, 0, 0, -1), ins(0xc6, 2, 0, 0, 0)) // below 0 with 32 bits
	jumps(t, false, ins(0xb4, 2, 0, 0, -1), ins(0xc5, 2, 0, 0, 0))
	jumps(t, true, ins(0x05, 0, 0, 0, 0))
}

func TestJumpNeedsRegisters(t *testing.T) {
	for _, cond := range conditions {
		for _, class := range []int{api.ClsJmp, api.ClsJmp32} {
			op := cond + class
			traps(t, api.TrapReg, ins(op, 2, 0, 0, 0))
			traps(t, api.TrapReg, ins(op+api.ByReg, 2, 1, 0, 0))
			traps(t, api.TrapReg, ins(op+api.ByReg, 1, 2, 0, 0))
			traps(t, api.TrapReg, ins(op+api.ByReg, 2, 2, 0, 0))
		}
	}
}

func TestJumpsBackAndToItself(t *testing.T) {
	p := program(mov(0, 3), ins(0x17, 0, 0, 0, 1), ins(0x55, 0, 0, -2, 0), exit)
	if e := run(t, p, nil); e.Kind != api.EndReturn || e.Value != 0 || e.Steps != 8 || e.At != 3 {
		t.Errorf("three rounds: %+v", e)
	}
	if e := run(t, program(ins(0x1d, 1, 1, -1, 0), mov(0, 0), exit), nil); e.Kind != api.EndFuel || e.Steps != 10000 || e.At != 0 {
		t.Errorf("a jump to itself: %+v", e)
	}
}

func TestWide(t *testing.T) {
	for _, x := range []uint64{0, 1, 1 << 31, low32, 1 << 32, 0x8877665544332211, 1 << 63, all64} {
		returns(t, x, wide(0, x))
	}
	for i := range 8 { // also those that the layout has not
		returns(t, uint64(3+i)<<32, wideMap(0, i))
	}
}

func TestLoad(t *testing.T) {
	_, m := sample()
	for region, b := range map[int][]byte{1: m[0], 3: m[2], 4: m[3], 5: m[4]} {
		for size, op := range map[int]int{1: 0x71, 2: 0x69, 4: 0x61, 8: 0x79} {
			for off := range len(b) - size + 1 {
				want := uint64(0)
				for i := range size {
					want |= uint64(b[off+i]) << (8 * i)
				}
				returns(t, want, wide(2, mem.Address(region, 0)), ins(op, 0, 2, off, 0))
				returns(t, want, wide(2, mem.Address(region, 100)), mov(0, -1), ins(op, 0, 2, off-100, 0))
			}
			base := wide(2, mem.Address(region, 0))
			traps(t, api.TrapRange, base, ins(op, 0, 2, len(b)-size+1, 0))
			traps(t, api.TrapRange, base, ins(op, 0, 2, len(b), 0))
			traps(t, api.TrapRange, base, ins(op, 0, 2, -1, 0))
			traps(t, api.TrapRange, base, ins(op, 0, 2, 1<<15-1, 0))
			traps(t, api.TrapRange, base, ins(op, 0, 2, -1<<15, 0))
		}
	}
	returns(t, uint64(m[0][0]), ins(0x71, 0, 1, 0, 0))
	returns(t, uint64(m[0][3]), ins(0x71, 1, 1, 3, 0), movReg(0, 1)) // into the register of the address
	for _, op := range []int{0x61, 0x69, 0x71, 0x79} {
		traps(t, api.TrapReg, ins(op, 0, 2, 0, 0))
		traps(t, api.TrapReg, mov(0, 1), ins(op, 0, 2, 0, 0))
	}
	for _, a := range []uint64{0, 1, low32, mem.Address(6, 0), mem.Address(1<<31, 0), all64, all64 - 7, 1 << 63} {
		traps(t, api.TrapRange, wide(2, a), ins(0x79, 0, 2, 0, 0))
	}
	traps(t, api.TrapRange, wide(2, all64), ins(0x79, 0, 2, 1, 0)) // it is 0 modulo 2^64
	returns(t, uint64(m[0][0]), wide(2, low32), ins(0x71, 0, 2, 1, 0))
}

func TestLoadOfTheStack(t *testing.T) {
	eight := ins(0x7a, 10, 0, -16, -2)
	returns(t, all64-1, eight, ins(0x79, 0, 10, -16, 0))
	returns(t, low32-1, eight, ins(0x61, 0, 10, -16, 0))
	returns(t, 1<<16-1, eight, ins(0x69, 0, 10, -10, 0))
	returns(t, 254, eight, ins(0x71, 0, 10, -16, 0))
	for _, off := range []int{-17, -15, -9} { // one of the bytes, or all but one, is not set
		traps(t, api.TrapStack, eight, ins(0x79, 0, 10, off, 0))
	}
	traps(t, api.TrapStack, eight, ins(0x69, 0, 10, -17, 0))
	traps(t, api.TrapStack, eight, ins(0x69, 0, 10, -9, 0))
	traps(t, api.TrapStack, eight, ins(0x71, 0, 10, -17, 0))
	traps(t, api.TrapStack, eight, ins(0x71, 0, 10, -8, 0))
	traps(t, api.TrapRange, eight, ins(0x79, 0, 10, -7, 0)) // outside, though nothing is set either
	traps(t, api.TrapRange, ins(0x71, 0, 10, 0, 0))
	traps(t, api.TrapRange, ins(0x71, 0, 10, -513, 0))
	traps(t, api.TrapStack, ins(0x71, 0, 10, -512, 0))
	pieces := program(ins(0x62, 10, 0, -8, 1), ins(0x6a, 10, 0, -4, 2), ins(0x72, 10, 0, -2, 3))
	traps(t, api.TrapStack, pieces, ins(0x79, 0, 10, -8, 0))
	returns(t, 0x0403000200000001, pieces, ins(0x72, 10, 0, -1, 4), ins(0x79, 0, 10, -8, 0))
	traps(t, api.TrapStack, wide(2, 2<<32), ins(0x71, 0, 2, 0, 0)) // whatever register leads there
}

// stored runs what stores something into r2's region, and tells what of that region has become of it.
func stored(t *testing.T, region int, off int, want []byte, l ...any) {
	t.Helper()
	_, m := sample()
	copy(m[region-1][off:], want)
	p := append(program(l...), mov(0, 0), exit)
	if e := run(t, p, nil); e.Kind != api.EndReturn || !sameMemory(e.Mem, m) {
		t.Errorf("%v: %d, %v; want %v", p, e.Kind, e.Mem, m)
	}
}

func TestStore(t *testing.T) {
	base := wide(2, mem.Address(3, 4))
	value := wide(3, 0x8877665544332211)
	all := []byte{0x11, 0x22, 0x33, 0x44, 0x55, 0x66, 0x77, 0x88}
	for size, class := range map[int]int{1: 0x70, 2: 0x68, 4: 0x60, 8: 0x78} {
		st, stx := class+api.ClsSt, class+api.ClsStx
		for off := -4; off <= 16-size; off++ {
			stored(t, 3, 4+off, all[:size], base, value, ins(stx, 2, 3, off, 0))
			stored(t, 3, 4+off, bytes.Repeat([]byte{255}, size), base, ins(st, 2, 0, off, -1))
			stored(t, 3, 4+off, []byte{0x12, 0x34, 0x56, 0xfe, 255, 255, 255, 255}[:size], base, ins(st, 2, 0, off, -0x01a9cbee))
			stored(t, 3, 4+off, []byte{7, 0, 0, 0, 0, 0, 0, 0}[:size], base, ins(st, 2, 0, off, 7))
		}
		stored(t, 2, 512-size, all[:size], value, ins(stx, 10, 3, -size, 0))
		for _, off := range []int{-5, 17 - size, 16, 1<<15 - 1, -1 << 15} {
			traps(t, api.TrapRange, base, ins(st, 2, 0, off, 1))
			traps(t, api.TrapRange, base, value, ins(stx, 2, 3, off, 0))
		}
		for _, region := range []int{1, 4} { // they may not be written
			shut := wide(2, mem.Address(region, 0))
			traps(t, api.TrapPerm, shut, ins(st, 2, 0, 0, 1))
			traps(t, api.TrapPerm, shut, ins(stx, 2, 2, 0, 0))
			traps(t, api.TrapRange, shut, ins(st, 2, 0, 100, 1)) // outside as well
		}
		traps(t, api.TrapReg, ins(st, 2, 0, 0, 1))
		traps(t, api.TrapReg, value, ins(stx, 2, 3, 0, 0))
		traps(t, api.TrapReg, base, ins(stx, 2, 3, 0, 0))
		traps(t, api.TrapReg, ins(stx, 1, 3, 0, 0))  // ahead of what may not be written
		traps(t, api.TrapReg, ins(stx, 10, 3, 0, 0)) // ahead of what is outside
	}
	stored(t, 3, 4, eight(mem.Address(3, 4)), base, ins(0x7b, 2, 2, 0, 0))
}

func TestWhatTrapsChangesNothing(t *testing.T) {
	l, m := sample()
	for _, x := range []api.Ins{ins(0x7a, 10, 0, -7, 9), ins(0x7a, 1, 0, 0, 9), ins(0x79, 0, 10, -8, 0), call(4), call(3), exit} {
		p := program(x, mov(0, 0), exit)
		e, code := interp.Run(l, p, m, []uint64{1}, 9)
		if code != api.OK || e.Kind != api.EndTrap || e.At != 0 || e.Steps != 1 || len(e.Told) != 0 || !sameMemory(e.Mem, m) {
			t.Errorf("%v: %+v, %d", x, e, code)
		}
	}
}

// tells runs calls, and tells their answer and what is told.
func tells(t *testing.T, answers []uint64, want uint64, told []api.Told, l ...any) api.End {
	t.Helper()
	p := append(program(l...), exit)
	e := run(t, p, answers)
	if e.Kind != api.EndReturn || e.Value != want || !begins(e.Told, told) || !begins(told, e.Told) {
		t.Errorf("%v: %d, trap %d, %#x, %v; want %#x, %v", p, e.Kind, e.Trap, e.Value, e.Told, want, told)
	}
	return e
}

func TestCall(t *testing.T) {
	_, m := sample()
	now := api.Told{Helper: 1}
	tells(t, nil, 0, []api.Told{now}, call(1))
	tells(t, []uint64{7, 8}, 7, []api.Told{now}, call(1))
	tells(t, []uint64{7, 8}, 8, []api.Told{now, now}, call(1), call(1))
	tells(t, []uint64{7, 8}, 0, []api.Told{now, now, now}, call(1), call(1), call(1))
	tells(t, []uint64{7}, 7, []api.Told{{Helper: 2, Args: []uint64{9}}}, mov(1, 9), call(2))
	tells(t, []uint64{7}, 7, []api.Told{{Helper: 2, Args: []uint64{1 << 32}}}, call(2)) // r1 is set at the beginning
	tells(t, []uint64{4}, 26, []api.Told{{Helper: 5, Args: []uint64{1, 2, 3}}}, mov(1, 1), mov(2, 2), mov(3, 3), call(5))
	tells(t, []uint64{4, 5}, 5, []api.Told{{Helper: 5, Args: []uint64{1, 2, 3}}, now}, mov(1, 1), mov(2, 2), mov(3, 3), call(5), call(1))
	tells(t, nil, 0, []api.Told{{Helper: 3, Args: []uint64{0, 16}, Data: m[0]}}, mov(2, 16), call(3))
	e := tells(t, []uint64{0x0201}, 0x0201, []api.Told{{Helper: 4, Args: []uint64{0, 9}}}, wide(1, mem.Address(3, 1)), mov(2, 9), call(4))
	want := clone(m)
	copy(want[2][1:], []byte{1, 2, 0, 0, 0, 0, 0, 0, 1})
	if !sameMemory(e.Mem, want) {
		t.Errorf("recv: %v; want %v", e.Mem, want)
	}
}

func TestCallNeedsRegisters(t *testing.T) {
	set := []api.Ins{mov(1, 1), mov(2, 2), mov(3, 3)}
	for n, count := range []int{0, 0, 1, 2, 2, 3} {
		for missing := 1; missing <= count; missing++ { // a call leaves all unset
			traps(t, api.TrapReg, call(1), set[:missing-1], set[missing:], call(n))
		}
	}
	tells(t, nil, 0, []api.Told{{Helper: 1}, {Helper: 1}}, call(1), call(1))
	tells(t, nil, 0, []api.Told{{Helper: 1}, {Helper: 2, Args: []uint64{1}}}, call(1), set[:1], call(2))
}

func TestWhatACallLeavesSet(t *testing.T) {
	var all []api.Ins
	for r := range 10 {
		all = append(all, mov(r, 40+r))
	}
	for r := range 11 {
		switch {
		case r == 0:
			returns(t, 0, all, call(1))
		case r <= 5:
			traps(t, api.TrapReg, all, call(1), movReg(0, r))
		case r <= 9:
			returns(t, uint64(40+r), all, call(1), movReg(0, r))
		default:
			returns(t, mem.Address(2, 512), all, call(1), movReg(0, r))
		}
	}
}

// at answers what sets r1 to an address and r2 to a size.
func at(region int, off int, size int) []api.Ins {
	return program(wide(1, mem.Address(region, off)), mov(2, size))
}

func TestAHelperRefuses(t *testing.T) {
	for _, n := range []int{3, 4} {
		for _, size := range []int{0, 65, 21, -1} {
			traps(t, api.TrapHelper, at(3, 0, size), call(n))
		}
		traps(t, api.TrapHelper, at(3, 0, 0), wide(2, 1<<32+1), call(n))
		traps(t, api.TrapHelper, at(3, -1, 4), call(n))
		traps(t, api.TrapHelper, at(6, 0, 4), call(n))
		traps(t, api.TrapHelper, at(0, 0, 4), call(n))
		traps(t, api.TrapHelper, at(2, 0, 65), call(n))  // ahead of the bytes that are not set
		traps(t, api.TrapHelper, at(2, 510, 4), call(n)) // likewise
		traps(t, api.TrapHelper, at(2, 0, 0), call(n))   // likewise
	}
	traps(t, api.TrapHelper, at(1, 0, 4), call(4))
	traps(t, api.TrapHelper, at(4, 0, 4), call(4))
	tells(t, nil, 0, []api.Told{{Helper: 1}}, call(1))
}

func TestSendOfTheStack(t *testing.T) {
	set := ins(0x7a, 10, 0, -16, -1)
	data := bytes.Repeat([]byte{255}, 8)
	tells(t, nil, 0, []api.Told{{Helper: 3, Args: []uint64{0, 8}, Data: data}}, set, at(2, 496, 8), call(3))
	tells(t, nil, 0, []api.Told{{Helper: 3, Args: []uint64{0, 1}, Data: data[:1]}}, set, at(2, 503, 1), call(3))
	traps(t, api.TrapStack, set, at(2, 495, 9), call(3))
	traps(t, api.TrapStack, set, at(2, 496, 9), call(3))
	traps(t, api.TrapStack, set, at(2, 504, 1), call(3))
	traps(t, api.TrapStack, at(2, 448, 64), call(3))
	e := run(t, program(call(1), at(2, 0, 8), call(3), exit), nil)
	if e.Trap != api.TrapStack || e.At != 4 || e.Steps != 4 || len(e.Told) != 1 {
		t.Errorf("a send that traps: %+v", e)
	}
}

func TestRecvSetsTheStack(t *testing.T) {
	got := program(at(2, 496, 5), call(4))
	returns(t, 0, got, ins(0x71, 0, 10, -16, 0))
	returns(t, 0, got, ins(0x61, 0, 10, -15, 0))
	traps(t, api.TrapStack, got, ins(0x61, 0, 10, -14, 0))
	traps(t, api.TrapStack, got, ins(0x71, 0, 10, -17, 0))
	traps(t, api.TrapStack, got, ins(0x71, 0, 10, -11, 0))
	traps(t, api.TrapStack, at(3, 0, 5), call(4), ins(0x71, 0, 10, -512, 0)) // another region sets no byte of the stack
	told := []api.Told{{Helper: 4, Args: []uint64{0, 5}}, {Helper: 3, Args: []uint64{0, 5}, Data: []byte{8, 7, 6, 5, 4}}}
	tells(t, []uint64{0x0102030405060708, 3}, 3, told, got, at(2, 496, 5), call(3))
}

func TestExitNeedsR0(t *testing.T) {
	traps(t, api.TrapReg, mov(1, 1), exit)
	traps(t, api.TrapReg, ins(0xbf, 9, 1, 0, 0), exit)
	returns(t, all64, mov(0, -1))
	p := program(mov(0, 1), exit, mov(0, 2), exit)
	if e := run(t, p, nil); e.Value != 1 || e.At != 1 || e.Steps != 2 {
		t.Errorf("the first of two ends: %+v", e)
	}
}
