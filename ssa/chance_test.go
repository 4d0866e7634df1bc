package ssa_test

import (
	"math/rand/v2"
	"slices"
	"testing"

	"clevis/api"
	"clevis/flow"
	"clevis/legal"
	"clevis/mem"
)

// chance is a row of numbers that is the same one each time.
func chance() *rand.Rand { return rand.New(rand.NewPCG(17, 170)) }

// some answers an element of a list.
func some[T any](r *rand.Rand, l []T) T { return l[r.IntN(len(l))] }

var (
	operations = []int{0x00, 0x10, 0x20, 0x30, 0x40, 0x50, 0x60, 0x70, 0x90, 0xa0, 0xb0, 0xc0}
	conditions = []int{0x10, 0x20, 0x30, 0x40, 0x50, 0x60, 0x70, 0xa0, 0xb0, 0xc0, 0xd0}
	numbers    = []int{-1 << 31, -65, -8, -1, 0, 1, 2, 7, 8, 31, 32, 63, 255, 1 << 15, 1<<31 - 1}
	plain      = []int{0, 2, 3, 4, 5, 9} // registers that are no addresses, mostly
)

func someAlu(r *rand.Rand) api.Ins {
	operation, x := some(r, operations), api.Ins{Op: some(r, []int{4, 7}), Dst: some(r, plain)}
	switch {
	case r.IntN(12) == 0:
		x.Op += 0x80
		return x
	case r.IntN(2) == 0:
		x.Op, x.Src = x.Op+8, r.IntN(11)
	case operation == 0x60 || operation == 0x70 || operation == 0xc0:
		x.Imm = r.IntN(32)
	default:
		x.Imm = some(r, numbers)
	}
	x.Op += operation
	return x
}

// someAccess answers an access that is seldom far off.
func someAccess(r *rand.Rand) api.Ins {
	base, off := some(r, []int{6, 6, 6, 7, 7, 8, 10, 10, 0}), some(r, []int{-8, -4, -2, -1, 0, 0, 1, 2, 4, 8, 8, 12, 16, 24, 32})
	if base == 10 {
		off = -some(r, []int{1, 2, 4, 8, 8, 16, 16, 24, 32})
	}
	x := api.Ins{Op: some(r, []int{0x60, 0x68, 0x70, 0x78}) + 1 + r.IntN(3), Off: off}
	switch x.Op % 8 {
	case 1:
		x.Dst, x.Src = some(r, plain), base
	case 2:
		x.Dst, x.Imm = base, some(r, numbers)
	case 3:
		x.Dst, x.Src = base, some(r, plain)
	}
	return x
}

// someCall answers a call, what it needs ahead of it, and mostly what makes r2 to r5 set again.
func someCall(r *rand.Rand) []api.Ins {
	n := 1 + r.IntN(5)
	l := row(movReg(1, some(r, []int{6, 6, 7, 8})), mov(2, some(r, []int{0, 1, 4, 4, 8, 8, 9, 16, 64, 65})), mov(3, r.IntN(9)), call(n))
	for d := 2; d <= 5; d++ {
		if r.IntN(8) > 0 {
			l = append(l, some(r, []api.Ins{mov(d, d), movReg(d, 0), movReg(d, 9)}))
		}
	}
	return l
}

// someJump answers a jump that leads nowhere yet.
func someJump(r *rand.Rand) api.Ins {
	x := api.Ins{Op: some(r, conditions) + some(r, []int{5, 6}), Dst: some(r, plain)}
	switch {
	case r.IntN(8) == 0:
		return ja(0)
	case r.IntN(2) == 0:
		x.Op, x.Src = x.Op+8, some(r, plain)
	default:
		x.Imm = some(r, numbers)
	}
	return x
}

// aim lets the jumps from a place on lead to somewhere from least to most, half of them not far on; not to holes, and not to where avoid says.
func aim(r *rand.Rand, p []api.Ins, from, least, most int, avoid func(x api.Ins) bool) {
	for i := from; i < len(p); i++ {
		_, _, ok := legal.Jump(p[i].Op)
		if !ok && p[i].Op != 0x05 {
			continue
		}
		to := least + r.IntN(most-least+1)
		if r.IntN(2) > 0 {
			to = min(most, i+1+r.IntN(6))
		}
		for p[to] == (api.Ins{}) || avoid(p[to]) {
			to--
		}
		p[i].Off = to - i - 1
	}
}

// someProgram answers a program that reckons, accesses, calls, and jumps.
func someProgram(r *rand.Rand) []api.Ins {
	p := row(wide(6, mem.Address(3, 16)), wide(8, mem.Address(4, 20)), movReg(7, 10), add(7, -16))
	if r.IntN(4) == 0 {
		p = nil
	}
	for _, d := range plain {
		if r.IntN(8) > 0 {
			p = append(p, mov(d, some(r, numbers)))
		}
	}
	for at := range 4 {
		if r.IntN(6) > 0 {
			p = append(p, st(10, -8*(at+1), some(r, numbers)))
		}
	}
	least := 0
	if r.IntN(4) > 0 {
		least = len(p)
	}
	from := len(p)
	for range 1 + r.IntN(20) {
		switch r.IntN(8) {
		case 0, 1, 2:
			p = append(p, someAlu(r))
		case 3, 4:
			p = append(p, someAccess(r))
		case 5, 6:
			p = append(p, someJump(r))
		case 7:
			p = append(p, someCall(r)...)
		}
		if r.IntN(12) == 0 {
			p = append(p, wideMap(some(r, plain), r.IntN(8))...)
		}
	}
	p = append(p, exit)
	aim(r, p, from, least, len(p)-1, func(api.Ins) bool { return false })
	return p
}

func someAnswers(r *rand.Rand) []uint64 {
	var l []uint64
	for range r.IntN(6) {
		l = append(l, r.Uint64()>>r.IntN(64))
	}
	return l
}

// count is how runs ended.
type count struct {
	kinds  map[api.EndKind]int
	traps  map[api.TrapKind]int
	told   int
	looped int
}

// goes builds a program, and runs it with several answers.
func goes(t *testing.T, r *rand.Rand, p []api.Ins, c *count) {
	t.Helper()
	l, m := sample()
	f := build(t, p)
	for range 3 {
		e := does(t, l, p, f, m, someAnswers(r), 600)
		c.kinds[e.Kind]++
		c.traps[e.Trap]++
		c.told += len(e.Told)
		if e.Kind == api.EndReturn && e.Steps > len(p) { // it went round
			c.looped++
		}
	}
}

func TestProgramsByChance(t *testing.T) {
	r := chance()
	c := count{kinds: map[api.EndKind]int{}, traps: map[api.TrapKind]int{}}
	for range 12000 {
		p := someProgram(r)
		if at, e := legal.Check(p); e != api.OK {
			t.Fatalf("%v may not be, at %d", p, at)
		}
		goes(t, r, p, &c)
	}
	if c.kinds[api.EndReturn] < 3000 || c.told < 3000 || c.looped < 30 {
		t.Errorf("%d returned, %d after going round, %d calls", c.kinds[api.EndReturn], c.looped, c.told)
	}
	for _, k := range []api.TrapKind{api.TrapRange, api.TrapPerm, api.TrapHelper, api.TrapReg} {
		if c.traps[k] < 300 {
			t.Errorf("only %d runs ended by trap %d", c.traps[k], k)
		}
	}
}

// keep is what puts the registers r0 to r8 into the first map, and returns.
func keep() []api.Ins {
	p := wide(9, mem.Address(3, 0))
	for s := range 9 {
		p = append(p, stx(9, 8*s, s))
	}
	return append(p, exit)
}

// counted answers what sets r0 to r8 but one, most times.
func counted(r *rand.Rand, but int) []api.Ins {
	var p []api.Ins
	for d := range 9 {
		if d != but && r.IntN(30) > 0 {
			p = append(p, mov(d, d+1))
		}
	}
	return p
}

// someMaze answers a program that goes on, behind a beginning, any way that its jumps lead, by the bits of a register, while it copies and changes others. Ahead of each jump that register is shifted, and no jump leads to one: so no bit is left at last, and then all of them are passed by.
func someMaze(r *rand.Rand, p []api.Ins, least, length, by int) []api.Ins {
	shift, jump := api.Ins{Op: 0x77, Dst: by, Imm: 1}, 0x45
	for len(p) < length {
		d, s := r.IntN(9), r.IntN(9)
		if d == by {
			continue
		}
		p = append(p, some(r, []api.Ins{movReg(d, s), movReg(d, s), movReg(d, s), addReg(d, s), add(d, 1), {Op: 0xbc, Dst: d, Src: s}}))
		if r.IntN(2) == 0 {
			p = append(p, shift, api.Ins{Op: jump, Dst: by, Imm: int(int32(r.Uint32() & r.Uint32() & r.Uint32()))})
		}
		if r.IntN(8) == 0 {
			p = append(p, ja(0))
		}
	}
	most := len(p)
	p = append(p, keep()...)
	led := func(x api.Ins) bool { return x.Op == jump }
	aim(r, p, 0, least, most, led)
	for i := range most {
		if p[i].Op == 0x05 { // on, since it is not passed by
			p[i].Off = r.IntN(min(6, most-i))
			for led(p[i+1+p[i].Off]) {
				p[i].Off--
			}
		}
	}
	return p
}

// TestMazes: what each register is, whichever way one came. Half of them lead back to the first instruction, too.
func TestMazes(t *testing.T) {
	r := chance()
	l, m := sample()
	returned, looped, phis, back := 0, 0, 0, 0
	for i := range 4000 {
		var p []api.Ins
		if i%2 == 0 {
			p = row(wide(9, r.Uint64()), counted(r, 9))
			p = someMaze(r, p, len(p), 12+r.IntN(80), 9)
		} else {
			p = someMaze(r, counted(r, 1), 0, 12+r.IntN(80), 1)
		}
		f := build(t, p)
		for _, x := range f.Parts {
			phis += len(x.Phis)
		}
		e := does(t, l, p, f, m, nil, 5000)
		if e.Kind != api.EndReturn {
			continue
		}
		returned++
		if e.Steps > 2*len(p) {
			looped++
		}
		if blocks, _ := flow.Blocks(p); len(blocks[0].Pred) > 0 {
			back++
		}
	}
	if returned < 2000 || looped < 500 || phis < 100000 || back < 100 {
		t.Errorf("%d returned, %d after going round twice, %d with ways back to the first; %d phis", returned, looped, back, phis)
	}
}

// TestAllShortPrograms: of few slots and few kinds of instructions, behind what sets two registers or nothing.
func TestAllShortPrograms(t *testing.T) {
	l, m := sample()
	ended, right := map[api.EndKind]int{}, 0
	for n := 1; n <= 4; n++ {
		all := [][]api.Ins{nil}
		for at := range n {
			kinds := []api.Ins{mov(0, 6), movReg(0, 1), movReg(1, 0), {Op: 0x77, Dst: 1, Imm: 33}, exit, wide(1, 5)[0], {}}
			for to := range n {
				kinds = append(kinds, ja(to-at-1), api.Ins{Op: 0x55, Dst: 1, Off: to - at - 1})
			}
			var longer [][]api.Ins
			for _, p := range all {
				for _, x := range kinds {
					longer = append(longer, append(slices.Clone(p), x))
				}
			}
			all = longer
		}
		for _, p := range all {
			if _, e := legal.Check(p); e != api.OK {
				continue
			}
			right++
			ended[does(t, l, p, build(t, p), m, nil, 40).Kind]++
			p = append(row(mov(0, 9)), p...)
			ended[does(t, l, p, build(t, p), m, nil, 40).Kind]++
		}
	}
	if right < 5000 || ended[api.EndReturn] < 3000 {
		t.Errorf("%d programs that may be; they ended %v", right, ended)
	}
}
