package interp_test

import (
	"math"
	"slices"
	"testing"

	"clevis/api"
	"clevis/interp"
	"clevis/mem"
)

var exit = api.Ins{Op: 0x95}

func mov(d int, n int) api.Ins { return api.Ins{Op: 0xb7, Dst: d, Imm: n} }

func movReg(d int, s int) api.Ins { return api.Ins{Op: 0xbf, Dst: d, Src: s} }

func call(n int) api.Ins { return api.Ins{Op: 0x85, Imm: n} }

func wide(d int, x uint64) []api.Ins {
	return []api.Ins{{Op: 0x18, Dst: d, Imm: int(int32(x)), Wide: x}, {}}
}

// wideMap puts the address of map i into a register.
func wideMap(d int, i int) []api.Ins {
	return []api.Ins{{Op: 0x18, Dst: d, Src: 1, Imm: i, Wide: uint64(i)}, {}}
}

// program lays instructions and lists of them one behind the other.
func program(l ...any) []api.Ins {
	var p []api.Ins
	for _, x := range l {
		switch x := x.(type) {
		case api.Ins:
			p = append(p, x)
		case []api.Ins:
			p = append(p, x...)
		}
	}
	return p
}

// run runs a program that may be, in the sample.
func run(t *testing.T, p []api.Ins, answers []uint64) api.End {
	t.Helper()
	l, m := sample()
	e, code := interp.Run(l, p, m, answers, 10000)
	if code != api.OK {
		t.Fatalf("Run(%v): %d", p, code)
	}
	return e
}

// returns runs what puts something into r0, and tells what that is.
func returns(t *testing.T, want uint64, l ...any) {
	t.Helper()
	p := append(program(l...), exit)
	if e := run(t, p, nil); e.Kind != api.EndReturn || e.Value != want || e.Trap != api.TrapNone || e.At != len(p)-1 {
		t.Errorf("%v: %d, %#x, trap %d at %d; want %#x", p, e.Kind, e.Value, e.Trap, e.At, want)
	}
}

// traps runs what traps at its last instruction.
func traps(t *testing.T, want api.TrapKind, l ...any) {
	t.Helper()
	p := program(l...)
	at := len(p) - 1
	p = append(p, mov(0, 0), exit)
	if e := run(t, p, nil); e.Kind != api.EndTrap || e.Trap != want || e.At != at || e.Value != 0 {
		t.Errorf("%v: %d, trap %d at %d; want trap %d at %d", p, e.Kind, e.Trap, e.At, want, at)
	}
}

func TestExamples(t *testing.T) {
	m, _ := mem.Fresh(api.Layout{})
	for _, c := range []struct {
		p    []api.Ins
		fuel int
		want api.End
	}{
		{program(mov(0, 5), exit), 100, api.End{Kind: api.EndReturn, Value: 5, At: 1, Steps: 2}},
		{program(mov(0, 5), exit), 2, api.End{Kind: api.EndReturn, Value: 5, At: 1, Steps: 2}},
		{program(mov(0, 5), exit), 1 << 30, api.End{Kind: api.EndReturn, Value: 5, At: 1, Steps: 2}},
		{program(mov(0, 5), exit), 1, api.End{Kind: api.EndFuel, At: 1, Steps: 1}},
		{program(mov(0, 5), exit), 0, api.End{Kind: api.EndFuel}},
		{program(exit), 100, api.End{Kind: api.EndTrap, Trap: api.TrapReg, Steps: 1}},
		{program(exit), 1, api.End{Kind: api.EndTrap, Trap: api.TrapReg, Steps: 1}},
		{program(exit), 0, api.End{Kind: api.EndFuel}},
		{program(wide(0, 1<<40), exit), 1, api.End{Kind: api.EndFuel, At: 2, Steps: 1}},
		{program(wide(0, 1<<40), exit), 2, api.End{Kind: api.EndReturn, Value: 1 << 40, At: 2, Steps: 2}},
		{program(api.Ins{Op: 0x05, Off: -1}), 777, api.End{Kind: api.EndFuel, Steps: 777}},
		{program(api.Ins{Op: 0x05, Off: 1}, exit, api.Ins{Op: 0x05, Off: -2}), 2, api.End{Kind: api.EndFuel, At: 1, Steps: 2}},
		{program(mov(0, 9), exit, mov(0, 1)), 5, api.End{}}, // it may not be: one would leave it
	} {
		want := api.OK
		if c.want.Kind == 0 {
			want = api.ErrArg
		} else {
			c.want.Mem = clone(m)
		}
		got, e := interp.Run(api.Layout{}, c.p, m, nil, c.fuel)
		if e != want || !sameEnd(got, c.want) {
			t.Errorf("Run(%v, %d) = %+v, %d; want %+v, %d", c.p, c.fuel, got, e, c.want, want)
		}
		if steps := interp.Steps(api.Layout{}, c.p, m, nil, c.fuel); steps != c.want.Steps {
			t.Errorf("Steps(%v, %d) = %d; want %d", c.p, c.fuel, steps, c.want.Steps)
		}
	}
}

func TestRunRefuses(t *testing.T) {
	l, m := sample()
	right := program(mov(0, 5), exit)
	wrong := l
	wrong.Maps = slices.Clone(l.Maps)
	wrong.Maps[0].Size = 0
	many := api.Layout{Maps: slices.Repeat([]api.Area{{Size: 1}}, 9)}
	for name, c := range map[string]struct {
		l    api.Layout
		p    []api.Ins
		m    api.Memory
		fuel int
	}{
		"fuel -1":             {l, right, m, -1},
		"the least fuel":      {l, right, m, math.MinInt},
		"fuel 2^30 and 1":     {l, right, m, 1<<30 + 1},
		"the greatest fuel":   {l, right, m, math.MaxInt},
		"no program":          {l, nil, m, 9},
		"no end":              {l, right[:1], m, 9},
		"too long":            {l, slices.Repeat([]api.Ins{exit}, 4097), m, 9},
		"a jump out":          {l, program(api.Ins{Op: 0x05, Off: 1}, exit), m, 9},
		"a jump ahead":        {l, program(api.Ins{Op: 0x05, Off: -2}, exit), m, 9},
		"a jump into a hole":  {l, program(api.Ins{Op: 0x05, Off: 1}, wide(0, 1), exit), m, 9},
		"r10 is set":          {l, program(mov(10, 0), mov(0, 0), exit), m, 9},
		"no such op":          {l, program(api.Ins{Op: 0xff}, exit), m, 9},
		"no such helper":      {l, program(call(6), exit), m, 9},
		"no hole":             {l, program(wide(0, 1)[0], exit), m, 9},
		"no memory":           {l, right, nil, 9},
		"an area too few":     {l, right, m[:4], 9},
		"an area too many":    {l, right, append(clone(m), nil), 9},
		"an area too long":    {l, right, api.Memory{m[0], m[1], m[2], m[3], make([]byte, 10)}, 9},
		"an area too short":   {l, right, api.Memory{m[0], m[1][:511], m[2], m[3], m[4]}, 9},
		"a map of no bytes":   {wrong, right, m, 9},
		"nine maps":           {many, right, nil, 9},
		"a context too long":  {api.Layout{Context: api.Area{Size: 4097}}, right, api.Memory{make([]byte, 4097), make([]byte, 512)}, 9},
		"all of it":           {wrong, nil, nil, -1},
		"wrong, and fuel 0":   {l, right[:1], m, 0},
		"no memory, and none": {api.Layout{}, right, nil, 0},
	} {
		got, e := interp.Run(c.l, c.p, c.m, []uint64{1}, c.fuel)
		if e != api.ErrArg || !sameEnd(got, api.End{}) {
			t.Errorf("%s: %+v, %d; want ErrArg", name, got, e)
		}
		if steps := interp.Steps(c.l, c.p, c.m, []uint64{1}, c.fuel); steps != 0 {
			t.Errorf("%s: %d steps", name, steps)
		}
	}
}

func TestTheLongestProgramRuns(t *testing.T) {
	l, m := sample()
	p := append(slices.Repeat([]api.Ins{mov(0, 7)}, 4095), exit)
	if e, code := interp.Run(l, p, m, nil, 5000); code != api.OK || e.Kind != api.EndReturn || e.Steps != 4096 || e.At != 4095 {
		t.Errorf("%d: %d at %d, %d steps", code, e.Kind, e.At, e.Steps)
	}
}

func TestALongLoopEndsSoon(t *testing.T) {
	l := api.Layout{Context: api.Area{Size: 4096, Write: true}, Maps: slices.Repeat([]api.Area{{Size: 4096, Write: true}}, 8)}
	m, _ := mem.Fresh(l)
	p := program(
		mov(2, 0),
		api.Ins{Op: 0x07, Dst: 2, Imm: 1},
		api.Ins{Op: 0x7b, Dst: 1, Src: 2},
		api.Ins{Op: 0xa5, Dst: 2, Off: -3, Imm: 1 << 20}, // on again below 2^20
		api.Ins{Op: 0x79, Dst: 0, Src: 1},
		exit,
	)
	if e, code := interp.Run(l, p, m, nil, 1<<30); code != api.OK || e.Value != 1<<20 || e.Steps != 3+3<<20 {
		t.Errorf("%d: %d, %d steps", code, e.Value, e.Steps)
	}
}

func TestWhatIsSetAtTheBeginning(t *testing.T) {
	for r := range 11 {
		switch r {
		case 1:
			returns(t, mem.Address(1, 0), movReg(0, 1))
		case 10:
			returns(t, mem.Address(2, 512), movReg(0, 10))
		default:
			traps(t, api.TrapReg, movReg(3, r))
		}
	}
	for off := -512; off < 0; off++ {
		traps(t, api.TrapStack, api.Ins{Op: 0x71, Dst: 0, Src: 10, Off: off})
	}
}

// used answers calls that leave no part of a run unused.
func used() []api.Ins {
	return program(
		api.Ins{Op: 0x7a, Dst: 10, Off: -8, Imm: 0x0102},
		movReg(1, 10), api.Ins{Op: 0x07, Dst: 1, Imm: -8}, mov(2, 8), call(3),
		wide(1, 3<<32), mov(2, 20), call(4),
		mov(1, 7), call(2), exit,
	)
}

func TestRunLeavesWhatItIsHanded(t *testing.T) {
	for _, fuel := range []int{0, 3, 1000} {
		l, m := sample()
		before, p := clone(m), append(used(), api.Ins{Op: 1}, api.Ins{Op: 2})
		answers := []uint64{5, 6, 7, 8}
		_, e := interp.Run(l, p[:len(p)-2], m, answers[:2], fuel)
		same, _ := sample()
		if e != api.OK || !sameMemory(m, before) || !slices.Equal(answers, []uint64{5, 6, 7, 8}) || !sameList(l.Maps, same.Maps) ||
			!slices.Equal(p, append(used(), api.Ins{Op: 1}, api.Ins{Op: 2})) {
			t.Errorf("%d: Run changed what it was handed", e)
		}
	}
}

func TestOnlyTheAnswersOfTheListAreGiven(t *testing.T) {
	l, m := sample()
	answers := []uint64{5, 6, 7}
	e, _ := interp.Run(l, program(call(1), call(1), exit), m, answers[:1], 9)
	if e.Value != 0 {
		t.Errorf("the second answer of one is %d", e.Value)
	}
}

func TestRunAnswersNewMemory(t *testing.T) {
	for _, fuel := range []int{0, 3, 1000} {
		l, m := sample()
		before := clone(m)
		want := modelRun(l, used(), m, []uint64{5, 6}, fuel)
		one, _ := interp.Run(l, used(), m, []uint64{5, 6}, fuel)
		other, _ := interp.Run(l, used(), m, []uint64{5, 6}, fuel)
		for i := range one.Mem {
			_ = append(one.Mem[i], 255)
			clear(one.Mem[i])
			one.Mem[i] = nil
		}
		for _, told := range one.Told {
			clear(told.Args)
			clear(told.Data)
		}
		if !sameMemory(m, before) || !sameEnd(other, want) {
			t.Errorf("fuel %d: an answer shares something", fuel)
		}
	}
}

func TestAreasThatShareTheirBytesAreSharedNoMore(t *testing.T) {
	l := api.Layout{Context: api.Area{Size: 8, Write: true}, Maps: []api.Area{{Size: 8, Write: true}}}
	b := make([]byte, 8)
	p := program(api.Ins{Op: 0x72, Dst: 1, Imm: 9}, wide(2, 3<<32), api.Ins{Op: 0x71, Dst: 0, Src: 2}, exit)
	e, _ := interp.Run(l, p, api.Memory{b, make([]byte, 512), b}, nil, 9)
	if e.Value != 0 || e.Mem[0][0] != 9 || e.Mem[2][0] != 0 || b[0] != 0 {
		t.Errorf("two areas share their bytes: %d, %v", e.Value, e.Mem)
	}
}
