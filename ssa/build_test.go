package ssa_test

import (
	"fmt"
	"math"
	"reflect"
	"slices"
	"testing"

	"clevis/api"
	"clevis/flow"
	"clevis/helper"
	"clevis/legal"
	"clevis/mem"
	"clevis/ssa"
)

// returns asks whether a program returns a value, and its code too.
func returns(t *testing.T, name string, want uint64, p []api.Ins, answers ...uint64) {
	t.Helper()
	if e := runs(t, p, answers...); e.Kind != api.EndReturn || e.Value != want {
		t.Errorf("%s: %s; want %#x", name, brief(e), want)
	}
}

// traps asks whether a program traps, and its code too.
func traps(t *testing.T, name string, want api.TrapKind, p []api.Ins) {
	t.Helper()
	if e := runs(t, p); e.Trap != want {
		t.Errorf("%s: %s; want trap %d", name, brief(e), want)
	}
}

// TestExample is the chapter's: a value 5, returned.
func TestExample(t *testing.T) {
	p := row(mov(0, 5), exit)
	returns(t, "r0 = 5; exit", 5, p)
	f := build(t, p)
	if len(f.Parts) != 1 || f.Parts[0].End.Op != api.TermReturn {
		t.Fatalf("Build(%v) = %v", p, f)
	}
	for _, n := range f.Parts[0].Nodes {
		if n.Id == f.Parts[0].End.A && (n.Op != api.NodeNum || n.Imm != 5) {
			t.Errorf("%v is returned", n)
		}
	}
}

// TestRefused: what layer 4 refuses, for its reason.
func TestRefused(t *testing.T) {
	good := row(mov(0, 5), exit)
	for name, p := range map[string][]api.Ins{
		"nothing":               nil,
		"an empty list":         {},
		"no end":                row(mov(0, 5)),
		"no such op":            row(api.Ins{Op: 0xff}, exit),
		"an op that is no byte": row(api.Ins{Op: math.MaxInt}, exit),
		"no such register":      row(mov(11, 5), exit),
		"r10 set":               row(mov(10, 5), exit),
		"a register below 0":    row(movReg(0, -1), exit),
		"a field too many":      row(api.Ins{Op: 0xb7, Src: 1}, exit),
		"no such helper":        row(call(6), exit),
		"helper 0":              row(call(0), exit),
		"a jump out":            row(ja(1), exit),
		"a jump far out":        row(ja(math.MinInt), exit),
		"a jump ahead of all":   row(jeq(1, 0, -2), exit),
		"a jump to a hole":      row(ja(1), wide(0, 5), exit),
		"a hole alone":          row(api.Ins{}, exit),
		"half a wide one":       row(wide(0, 5)[:1]),
		"no hole":               row(wide(0, 5)[:1], exit),
		"what nobody comes to":  row(mov(0, 5), exit, api.Ins{Op: 0xff}),
		"one more than most":    append(slices.Repeat(good[:1], api.MaxSlots), exit),
		"many more":             make([]api.Ins, 1<<20),
	} {
		_, want := legal.Check(p)
		if f, e := ssa.Build(p); e != want || e == api.OK || !reflect.DeepEqual(f, api.Ir{}) {
			t.Errorf("%s: Build = %v, %d; want %d", name, f, e, want)
		}
	}
	if _, e := ssa.Build(slices.Repeat(good, api.MaxSlots)); e != api.ErrLong {
		t.Errorf("too long a program: %d", e)
	}
}

// TestReckoning: each operation, of registers and numbers, of 64 and of 32 bits.
func TestReckoning(t *testing.T) {
	numbers := []uint64{0, 1, 7, 31, 63, 64, 1<<31 - 1, 1 << 31, 1<<32 - 1, 1 << 32, 1<<63 + 5, 1<<64 - 1}
	count := 0
	for op := range 0x100 {
		if _, _, ok := legal.Alu(op); !ok {
			continue
		}
		for _, x := range numbers {
			for _, y := range numbers {
				ins := api.Ins{Op: op, Dst: 0, Imm: int(int32(y))}
				if op&8 != 0 {
					ins.Src, ins.Imm = 3, 0
				} else if op&0xf0 == 0x80 {
					ins.Imm = 0
				}
				if !legal.Ins(ins) { // shifted too far
					continue
				}
				count++
				if e := runs(t, row(wide(0, x), wide(3, y), ins, exit)); e.Kind != api.EndReturn {
					t.Fatalf("%v of %d, %d: %s", ins, x, y, brief(e))
				}
				ins.Src = 0 // of a register and itself
				runs(t, row(wide(0, x), ins, exit))
			}
		}
	}
	if count < 6000 {
		t.Errorf("only %d", count)
	}
}

// TestConditions: each one, of registers and numbers, of 64 and of 32 bits, on and back.
func TestConditions(t *testing.T) {
	numbers := []uint64{0, 1, 6, 7, 1<<31 - 1, 1 << 31, 1<<32 - 1, 1 << 32, 1<<63 + 5, 1<<64 - 1}
	held := map[bool]int{}
	for op := range 0x100 {
		if _, _, ok := legal.Jump(op); !ok {
			continue
		}
		for _, x := range numbers {
			for _, y := range numbers {
				jump := api.Ins{Op: op, Dst: 2, Imm: int(int32(y)), Off: 2}
				if op&8 != 0 {
					jump.Src, jump.Imm = 3, 0
				}
				e := runs(t, row(wide(2, x), wide(3, y), jump, mov(0, 1), exit, mov(0, 2), exit))
				held[e.Value == 2]++
				jump.Off = -3
				e = runs(t, row(wide(2, x), wide(3, y), ja(2), mov(0, 2), exit, jump, mov(0, 1), exit))
				held[e.Value == 2]++
			}
		}
	}
	if held[true] < 1000 || held[false] < 1000 {
		t.Errorf("held, or not: %v", held)
	}
}

// TestWhatRegistersAreAtFirst: r1 is the context's address, r10 the stack's end.
func TestWhatRegistersAreAtFirst(t *testing.T) {
	returns(t, "r1", mem.Address(api.Context, 0), row(movReg(0, 1), exit))
	returns(t, "r10", mem.Address(api.Stack, api.StackSize), row(movReg(0, 10), exit))
	returns(t, "r1's lower half", 0, row(api.Ins{Op: 0xbc, Src: 1}, exit))
	returns(t, "both", mem.Address(3, 512), row(movReg(0, 10), addReg(0, 1), exit))
	for r := range 11 {
		if e := runs(t, row(movReg(0, r), exit)); (e.Trap == api.TrapReg) == (r == 1 || r == 10) {
			t.Errorf("r%d: %s", r, brief(e))
		}
	}
}

func TestWideOnes(t *testing.T) {
	returns(t, "a number", 0xfedcba9876543210, row(wide(0, 0xfedcba9876543210), exit))
	returns(t, "nought", 0, row(wide(0, 0), exit))
	for n := range 8 { // be there such a map or not
		returns(t, "a map", mem.Address(api.FirstMap+n, 0), row(wideMap(0, n), exit))
	}
	returns(t, "one behind the other", 9, row(wide(0, 5), wide(3, 4), addReg(0, 3), exit))
	returns(t, "the last of its block", 6, row(mov(0, 1), wide(3, 5), addReg(0, 3), jeq(0, 1, -4), exit))
}

// TestCopies: a copy is what the register was, whatever becomes of it.
func TestCopies(t *testing.T) {
	returns(t, "a copy", 5, row(mov(3, 5), movReg(0, 3), mov(3, 6), exit))
	returns(t, "of itself", 5, row(mov(0, 5), movReg(0, 0), exit))
	returns(t, "a swap", 23, row(mov(3, 2), mov(4, 3), movReg(5, 3), movReg(3, 4), movReg(4, 5), movReg(0, 3), api.Ins{Op: 0x27, Imm: 10}, add(0, -7), addReg(0, 4), add(0, -2), exit))
	returns(t, "a number below 0", 1<<64-5, row(mov(0, -5), exit))
	returns(t, "of 32 bits", 1<<32-5, row(api.Ins{Op: 0xb4, Imm: -5}, exit))
	returns(t, "a register's lower half", 1<<32-5, row(mov(3, -5), api.Ins{Op: 0xbc, Src: 3}, exit))
	returns(t, "into what was not set", 1<<32-1, row(mov(3, -1), api.Ins{Op: 0xbc, Dst: 4, Src: 3}, movReg(0, 4), exit))
}

// TestAccesses: of each size, at each edge of regions that may be written or not, of each kind.
func TestAccesses(t *testing.T) {
	for code, size := range map[int]int{0x60: 4, 0x68: 2, 0x70: 1, 0x78: 8} {
		for _, end := range []struct{ region, size int }{{1, 16}, {3, 100}, {4, 70}, {5, 9}, {6, 0}} {
			for _, off := range []int{-1, 0, end.size - size, end.size - size + 1} {
				base := wide(2, mem.Address(end.region, 40))
				x := api.Ins{Op: code + 1, Dst: 0, Src: 2, Off: off - 40}
				runs(t, row(mov(0, 7), base, x, exit))
				x = api.Ins{Op: code + 2, Dst: 2, Off: off - 40, Imm: -77}
				runs(t, row(mov(0, 7), base, x, exit))
				x = api.Ins{Op: code + 3, Dst: 2, Src: 0, Off: off - 40}
				runs(t, row(wide(0, 0x8877665544332211), base, x, exit))
			}
		}
	}
	for _, off := range []int{-1 << 15, 1<<15 - 1} {
		base := wide(2, mem.Address(3, 8)-uint64(off))
		returns(t, "far off", 0x0102030405060708, row(wide(3, 0x0102030405060708), base, stx(2, off, 3), ldx(0, 2, off), exit))
	}
	returns(t, "over what was stored", 3<<48, row(wide(2, mem.Address(3, 0)), st(2, 8, 6), stx(2, 11, 2), ldx(2, 2, 9), movReg(0, 2), exit))
	returns(t, "a number with its sign", 1<<64-3, row(st(10, -8, -3), ldx(0, 10, -8), exit))
	returns(t, "itself", mem.Address(3, 0), row(wide(2, mem.Address(3, 0)), stx(2, 0, 2), ldx(0, 2, 0), exit))
}

// TestTraps: the guard fires, where the program traps at a region; what was done ahead of it stays.
func TestTraps(t *testing.T) {
	ahead := row(mov(1, 5), call(2), wide(2, mem.Address(3, 0)), st(2, 0, 77), wide(4, mem.Address(4, 0)))
	for _, c := range []struct {
		name string
		want api.TrapKind
		rest []api.Ins
	}{
		{"a load outside", api.TrapRange, row(ldx(0, 2, 93))},
		{"a load that nobody needs", api.TrapRange, row(ldx(3, 2, 93), mov(3, 1), mov(0, 1))},
		{"a store outside", api.TrapRange, row(st(2, 93, 1))},
		{"a store of a register outside", api.TrapRange, row(stx(2, -1, 2))},
		{"no address", api.TrapRange, row(stx(0, 0, 2))},
		{"what may not be written", api.TrapPerm, row(st(4, 0, 1))},
		{"what may not be written, of a register", api.TrapPerm, row(stx(4, 62, 2))},
		{"a size of nought", api.TrapHelper, row(movReg(1, 2), mov(2, 0), call(3))},
		{"too great a size", api.TrapHelper, row(movReg(1, 2), mov(2, 65), call(4))},
		{"bytes outside", api.TrapHelper, row(movReg(1, 2), add(1, 99), mov(2, 2), call(3))},
		{"bytes that may not be written", api.TrapHelper, row(movReg(1, 4), mov(2, 2), call(4))},
		{"an argument that is not set", api.TrapReg, row(mov(1, 5), call(2), call(2))},
		{"a register that is not set", api.TrapReg, row(movReg(0, 7))},
		{"stack bytes that are not set", api.TrapStack, row(ldx(0, 10, -8))},
	} {
		traps(t, c.name, c.want, row(ahead, c.rest, exit))
		traps(t, c.name+", behind a jump", c.want, row(ahead, jeq(2, 1, len(c.rest)), c.rest, mov(0, 0), exit))
	}
	traps(t, "a store into the context", api.TrapPerm, row(st(1, 0, 1), exit))
}

// TestCalls: each helper takes what layer 5 says, and answers in r0.
func TestCalls(t *testing.T) {
	returns(t, "now", 99, row(mov(0, 5), call(1), exit), 99, 5)
	returns(t, "put", 99, row(mov(1, 5), call(2), exit), 99)
	returns(t, "send", 99, row(wide(1, mem.Address(4, 3)), mov(2, 5), call(3), exit), 99)
	returns(t, "recv", 0x0403020108070605, row(wide(1, mem.Address(3, 0)), mov(2, 12), movReg(6, 1), call(4), ldx(0, 6, 4), exit), 0x0807060504030201)
	returns(t, "mix", 1+6+15+4, row(mov(1, 1), mov(2, 2), mov(3, 3), call(5), exit), 4)
	returns(t, "one behind the other", 5, row(call(1), movReg(6, 0), call(1), movReg(7, 0), call(1), api.Ins{Op: 0x1f, Src: 6}, addReg(0, 7), exit), 10, 6, 9)
	returns(t, "r6 to r9 stay", 30, row(mov(6, 6), mov(7, 7), mov(8, 8), mov(9, 9), call(1), addReg(0, 6), addReg(0, 7), addReg(0, 8), addReg(0, 9), exit))
	for n := 1; n <= 5; n++ {
		h, _ := helper.Table(n)
		f := build(t, row(call(n), exit))
		nodes := f.Parts[0].Nodes
		if last := nodes[len(nodes)-1]; last.Op != api.NodeCall || len(last.Args) != len(h.Args) {
			t.Errorf("helper %d: %v", n, last)
		}
	}
}

// TestBlocks: programs whose blocks are of each kind.
func TestBlocks(t *testing.T) {
	for name, c := range map[string]struct {
		want uint64
		p    []api.Ins
	}{
		"both ways set":             {2, row(mov(3, 0), jeq(3, 0, 2), mov(0, 1), ja(1), mov(0, 2), exit)},
		"one way sets":              {1, row(mov(0, 1), jeq(0, 1, 1), mov(0, 2), exit)},
		"the other way sets":        {2, row(mov(0, 1), jeq(0, 2, 1), mov(0, 2), exit)},
		"set on the way alone":      {7, row(mov(3, 0), mov(0, 7), jeq(3, 0, 1), mov(4, 2), jeq(3, 0, 1), movReg(0, 4), exit)},
		"a jump by 0":               {1, row(mov(0, 1), jeq(0, 1, 0), exit)},
		"a jump by 0 of no setter":  {1, row(mov(0, 1), jeq(0, 5, 0), exit)},
		"a way by 0":                {1, row(mov(0, 1), ja(0), exit)},
		"a loop":                    {45, row(mov(0, 0), mov(3, 9), addReg(0, 3), add(3, -1), api.Ins{Op: 0x55, Dst: 3, Off: -3}, exit)},
		"a loop to the first":       {11, row(add(1, -1), movReg(0, 1), api.Ins{Op: 0x45, Dst: 1, Imm: 7, Off: -3}, mov(0, 11), exit)},
		"a way to the first":        {mem.Address(1, 40), row(add(1, 8), wide(3, mem.Address(1, 40)), movReg(0, 1), api.Ins{Op: 0x1d, Dst: 1, Src: 3, Off: 1}, ja(-6), exit)},
		"a swap in a loop":          {21, row(mov(3, 1), mov(4, 2), mov(5, 3), movReg(6, 3), movReg(3, 4), movReg(4, 6), add(5, -1), api.Ins{Op: 0x55, Dst: 5, Off: -5}, movReg(0, 3), api.Ins{Op: 0x27, Imm: 10}, addReg(0, 4), exit)},
		"three in a ring":           {231, row(mov(3, 1), mov(4, 2), mov(5, 3), mov(7, 4), movReg(6, 3), movReg(3, 4), movReg(4, 5), movReg(5, 6), add(7, -1), api.Ins{Op: 0x55, Dst: 7, Off: -6}, movReg(0, 3), api.Ins{Op: 0x27, Imm: 10}, addReg(0, 4), api.Ins{Op: 0x27, Imm: 10}, addReg(0, 5), exit)},
		"what it was one round ago": {8, row(mov(3, 0), mov(0, 0), movReg(0, 3), add(3, 2), api.Ins{Op: 0xa5, Dst: 3, Imm: 10, Off: -3}, exit)},
		"what nobody comes to":      {5, row(mov(0, 5), exit, mov(0, 6), st(10, -8, 1), call(1), exit)},
	} {
		returns(t, name, c.want, c.p)
	}
	for name, p := range map[string][]api.Ins{
		"a way to itself":         row(ja(-1)),
		"a jump to itself":        row(jeq(1, 0, -1), exit),
		"a loop that never ends":  row(mov(0, 0), add(0, 1), ja(-2)),
		"exit alone":              row(exit),
		"two loops to the first":  row(jeq(1, 0, -1), jeq(1, 1, -2), mov(0, 1), ja(-4)),
		"two exits":               row(mov(0, 1), jeq(1, 0, 1), exit, exit),
		"loops that cross":        row(mov(0, 1), jeq(1, 0, 2), add(0, 1), jeq(0, 5, 1), add(0, 2), api.Ins{Op: 0xa5, Imm: 20, Off: -4}, exit),
		"a loop entered in two":   row(mov(0, 1), jeq(1, 0, 1), add(0, 1), add(0, 2), api.Ins{Op: 0xa5, Imm: 20, Off: -3}, exit),
		"a hole behind the jumps": row(mov(0, 1), jeq(1, 0, 3), ja(0), wide(0, 7), exit),
	} {
		if e := runs(t, p); e.Kind == 0 {
			t.Errorf("%s: %s", name, brief(e))
		}
	}
}

// TestWaysOn: a part leads where its block leads, To where the condition holds, Else where not.
func TestWaysOn(t *testing.T) {
	f := build(t, row(mov(0, 1), api.Ins{Op: 0xae, Dst: 1, Src: 10, Off: 1}, exit, exit))
	want := api.Term{Op: api.TermIf, Cond: api.Jlt, A: f.Parts[0].End.A, B: f.Parts[0].End.B, To: 2, Else: 1}
	if len(f.Parts) != 3 || f.Parts[0].End != want || want.A == want.B {
		t.Errorf("%v", f)
	}
	f = build(t, row(mov(0, 1), jeq(0, 1, 0), exit))
	if len(f.Parts) != 2 || f.Parts[0].End != (api.Term{Op: api.TermGo, To: 1}) {
		t.Errorf("%v", f)
	}
}

// TestPartsHangOnTheBlocksAlone: programs with the same blocks have as many parts.
func TestPartsHangOnTheBlocksAlone(t *testing.T) {
	parts := map[string]int{}
	ask := func(p []api.Ins) {
		blocks, _ := flow.Blocks(p)
		key := fmt.Sprint(blocks)
		n := len(build(t, p).Parts)
		if was, ok := parts[key]; ok && was != n {
			t.Errorf("%v has %d parts; others with these blocks %d", p, n, was)
		}
		parts[key] = n
	}
	for _, x := range []api.Ins{mov(0, 1), mov(1, 1), movReg(0, 0), ldx(0, 10, -8), st(10, -8, 1), call(1), call(5), {Op: 0x84}} {
		for _, jump := range []int{0x15, 0x1e, 0x45, 0xd6} {
			for _, off := range []int{-2, -1, 0, 1, 2} {
				ask(row(x, api.Ins{Op: jump, Off: off}, x, x, exit))
				ask(row(x, x, api.Ins{Op: jump, Off: off}, x, ja(-3), exit))
				ask(row(x, ja(off), x, x, exit))
			}
		}
	}
	if len(parts) < 12 {
		t.Errorf("only %d kinds of blocks", len(parts))
	}
}
