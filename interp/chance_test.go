package interp_test

import (
	"math/rand/v2"
	"testing"

	"clevis/api"
	"clevis/interp"
	"clevis/legal"
	"clevis/mem"
)

var (
	operations = []int{0x00, 0x10, 0x20, 0x30, 0x40, 0x50, 0x60, 0x70, 0x90, 0xa0, 0xb0, 0xc0}
	conditions = []int{0x10, 0x20, 0x30, 0x40, 0x50, 0x60, 0x70, 0xa0, 0xb0, 0xc0, 0xd0}
	sizes      = []int{0x60, 0x68, 0x70, 0x78}
	numbers    = []int{-1 << 31, -65, -8, -1, 0, 1, 2, 7, 8, 31, 32, 33, 63, 64, 65, 255, 1 << 15, 1<<31 - 1}
)

// some answers an element of a list.
func some[T any](r *rand.Rand, l []T) T { return l[r.IntN(len(l))] }

// someAlu answers a reckoning of the registers 0, and 2 to 5.
func someAlu(r *rand.Rand) api.Ins {
	operation, x := some(r, operations), api.Ins{Op: some(r, []int{4, 7}), Dst: some(r, []int{0, 2, 3, 4, 5})}
	switch {
	case r.IntN(12) == 0:
		x.Op += 0x80
		return x
	case r.IntN(2) == 0:
		x.Op, x.Src = x.Op+8, r.IntN(11)
	case operation == 0x60 || operation == 0x70 || operation == 0xc0:
		x.Imm = r.IntN(32)
	default:
		x.Imm = some(r, numbers)
	}
	x.Op += operation
	return x
}

// someAccess answers an access that is seldom far off.
func someAccess(r *rand.Rand) api.Ins {
	base, off := some(r, []int{1, 6, 7, 8, 10}), some(r, []int{-8, -4, -2, -1, 0, 1, 4, 8, 12, 15})
	if base == 10 {
		off = -some(r, []int{0, 1, 4, 8, 16, 16, 24, 32})
	}
	x := api.Ins{Op: some(r, sizes) + 1 + r.IntN(3), Off: off}
	switch x.Op % 8 {
	case 1:
		x.Dst, x.Src = some(r, []int{0, 2, 3, 4, 5, 9}), base
	case 2:
		x.Dst, x.Imm = base, some(r, numbers)
	case 3:
		x.Dst, x.Src = base, r.IntN(11)
	}
	return x
}

// someCall answers a call and, mostly, what it needs.
func someCall(r *rand.Rand) []api.Ins {
	l := []api.Ins{movReg(1, some(r, []int{6, 7, 8, 10})), mov(2, some(r, []int{0, 1, 4, 8, 9, 16, 64, 65, -1})), mov(3, r.IntN(9))}
	if l[0].Src == 10 {
		l[0] = movReg(1, 10)
		l = append(l, api.Ins{Op: 0x07, Dst: 1, Imm: -some(r, []int{8, 16, 32, 64, 128})})
	}
	if r.IntN(5) == 0 {
		l = l[r.IntN(len(l)):]
	}
	return append(l, call(1+r.IntN(5)))
}

func someJump(r *rand.Rand) api.Ins {
	x := api.Ins{Op: some(r, conditions) + some(r, []int{5, 6}), Dst: some(r, []int{0, 2, 3, 4, 5}), Off: r.IntN(9) - 3}
	switch {
	case r.IntN(8) == 0:
		return api.Ins{Op: 0x05, Off: x.Off}
	case r.IntN(2) == 0:
		x.Op, x.Src = x.Op+8, r.IntN(11)
	default:
		x.Imm = some(r, numbers)
	}
	return x
}

// someProgram answers a program that may be, most times.
func someProgram(r *rand.Rand) []api.Ins {
	p := append(wide(6, 3<<32), wide(8, 4<<32)...)
	p = append(p, movReg(7, 10), api.Ins{Op: 0x07, Dst: 7, Imm: -16})
	for d := range 6 {
		if d != 1 && r.IntN(8) > 0 {
			p = append(p, mov(d, some(r, numbers)))
		}
	}
	for range r.IntN(4) {
		p = append(p, api.Ins{Op: some(r, sizes) + 2, Dst: 10, Off: -some(r, []int{8, 16, 24, 32}), Imm: some(r, numbers)})
	}
	for range 1 + r.IntN(16) {
		switch r.IntN(8) {
		case 0, 1, 2:
			p = append(p, someAlu(r))
		case 3, 4:
			p = append(p, someAccess(r))
		case 5, 6:
			p = append(p, someJump(r))
		case 7:
			p = append(p, someCall(r)...)
		}
		if r.IntN(12) == 0 {
			p = append(p, wideMap(r.IntN(10), r.IntN(8))...)
		}
	}
	return append(p, exit)
}

// sample answers a layout with regions that may be written and such that may not, and a memory of it in which no two bytes near one another are alike.
func sample() (api.Layout, api.Memory) {
	l := api.Layout{Context: api.Area{Size: 16}, Maps: []api.Area{{Size: 20, Write: true}, {Size: 70}, {Size: 9, Write: true}}}
	m, _ := mem.Fresh(l)
	for i := range m {
		for j := range m[i] {
			m[i][j] = byte(77*i + 3*j + 1)
		}
	}
	return l, m
}

func someAnswers(r *rand.Rand) []uint64 {
	var l []uint64
	for range r.IntN(4) {
		l = append(l, r.Uint64()>>r.IntN(64))
	}
	return l
}

func TestRunByChanceAgainstTheModel(t *testing.T) {
	r := rand.New(rand.NewPCG(6, 6))
	l, m := sample()
	before := clone(m)
	kinds, traps := map[api.EndKind]int{}, map[api.TrapKind]int{}
	for range 12000 {
		p, answers, fuel := someProgram(r), someAnswers(r), r.IntN(120)
		got, e := interp.Run(l, p, m, answers, fuel)
		steps := interp.Steps(l, p, m, answers, fuel)
		if _, bad := legal.Check(p); bad != api.OK {
			if e != api.ErrArg || steps != 0 || !sameEnd(got, api.End{}) {
				t.Fatalf("Run(%v) = %+v, %d, and %d steps; it may not be", p, got, e, steps)
			}
			continue
		}
		want := modelRun(l, p, m, answers, fuel)
		if e != api.OK || !sameEnd(got, want) || steps != want.Steps {
			t.Fatalf("Run(%v, %v, %d) = %+v, %d, and %d steps; want %+v", p, answers, fuel, got, e, steps, want)
		}
		kinds[got.Kind]++
		traps[got.Trap]++
	}
	for _, k := range []api.EndKind{api.EndReturn, api.EndTrap, api.EndFuel} {
		if kinds[k] < 100 {
			t.Errorf("only %d runs ended by %d", kinds[k], k)
		}
	}
	for _, k := range []api.TrapKind{api.TrapRange, api.TrapPerm, api.TrapReg, api.TrapStack, api.TrapHelper} {
		if traps[k] < 100 {
			t.Errorf("only %d runs ended by trap %d", traps[k], k)
		}
	}
	if !sameMemory(m, before) {
		t.Error("Run changed the memory that was handed in")
	}
}

func TestMoreFuelChangesNothingThatHasEnded(t *testing.T) {
	r := rand.New(rand.NewPCG(6, 63))
	l, m := sample()
	told := 0
	for range 3000 {
		p, answers := someProgram(r), someAnswers(r)
		if _, bad := legal.Check(p); bad != api.OK {
			continue
		}
		whole, _ := interp.Run(l, p, m, answers, 200)
		told += len(whole.Told)
		for fuel := range whole.Steps + 3 {
			got, e := interp.Run(l, p, m, answers, fuel)
			ended := fuel >= whole.Steps && whole.Kind != api.EndFuel
			switch {
			case e != api.OK:
				t.Fatalf("Run(%v) with fuel %d: %d", p, fuel, e)
			case ended && !sameEnd(got, whole):
				t.Fatalf("Run(%v) with fuel %d = %+v; with more %+v", p, fuel, got, whole)
			case !ended && (got.Kind != api.EndFuel || got.Steps != fuel || got.Value != 0 || got.Trap != 0):
				t.Fatalf("Run(%v) with fuel %d = %+v; with more it does %d steps", p, fuel, got, whole.Steps)
			case fuel <= whole.Steps && !begins(got.Told, whole.Told):
				t.Fatalf("Run(%v) with fuel %d tells %v; with more %v", p, fuel, got.Told, whole.Told)
			}
		}
	}
	if told < 500 {
		t.Errorf("only %d calls were told", told)
	}
}
