package ir_test

import (
	"math"
	"slices"
	"testing"

	"clevis/api"
	"clevis/interp"
	"clevis/ir"
	"clevis/mem"
	"clevis/word"
)

// runs runs code in the sample, and asks for its end, but for the memory where that is as it was.
func runs(t *testing.T, f api.Ir, answers []uint64, want api.End) {
	t.Helper()
	l, m := sample()
	if want.Mem == nil {
		want.Mem = clone(m)
	}
	got, e := ir.Run(l, f, m, answers, 10000)
	if e != api.OK || !sameEnd(got, want) {
		t.Errorf("Run(%v) = %s, %d; want %s", f, brief(got), e, brief(want))
	}
}

// gives runs nodes of one part, and asks for what the last one makes.
func gives(t *testing.T, want uint64, nodes ...api.Node) {
	t.Helper()
	runs(t, one(len(nodes), back(nodes[len(nodes)-1].Id), nodes...), nil, api.End{Kind: api.EndReturn, Value: want, Steps: len(nodes) + 1})
}

func TestTheExample(t *testing.T) {
	l := api.Layout{}
	m, _ := mem.Fresh(l)
	f := one(1, back(0), num(0, 5))
	for fuel, want := range []api.End{
		{Kind: api.EndFuel},
		{Kind: api.EndFuel, Steps: 1},
		{Kind: api.EndReturn, Value: 5, Steps: 2},
		{Kind: api.EndReturn, Value: 5, Steps: 2},
	} {
		want.Mem = m
		if got, e := ir.Run(l, f, m, nil, fuel); e != api.OK || !sameEnd(got, want) {
			t.Errorf("with fuel %d: %s, %d; want %s", fuel, brief(got), e, brief(want))
		}
	}
}

func TestRunRefuses(t *testing.T) {
	l, m := sample()
	right := one(1, back(0), num(0, 5))
	wrong := api.Layout{Context: l.Context, Maps: slices.Clone(l.Maps)}
	wrong.Maps[0].Size = 0
	many := api.Layout{Maps: slices.Repeat([]api.Area{{Size: 1}}, 9)}
	for name, c := range map[string]struct {
		l    api.Layout
		f    api.Ir
		m    api.Memory
		fuel int
	}{
		"fuel -1":                 {l, right, m, -1},
		"the least fuel":          {l, right, m, math.MinInt},
		"fuel 2^30 and 1":         {l, right, m, 1<<30 + 1},
		"the greatest fuel":       {l, right, m, math.MaxInt},
		"nothing":                 {l, api.Ir{}, m, 9},
		"a value that is not":     {l, one(0, back(0)), m, 9},
		"a value made behind":     {l, one(2, back(0), alu(0, api.Add, 1, 1), num(1, 5)), m, 9},
		"a way to no part":        {l, one(0, on(1)), m, 9},
		"a way back to the first": {l, code(0, part([]int{0}, on(0))), m, 9},
		"no such helper":          {l, one(1, back(0), call(0, 6)), m, 9},
		"no memory":               {l, right, nil, 9},
		"an area too few":         {l, right, m[:4], 9},
		"an area too many":        {l, right, append(clone(m), nil), 9},
		"an area too long":        {l, right, api.Memory{m[0], m[1], m[2], m[3], make([]byte, 10)}, 9},
		"an area too short":       {l, right, api.Memory{m[0], m[1][:511], m[2], m[3], m[4]}, 9},
		"a map of no bytes":       {wrong, right, m, 9},
		"nine maps":               {many, right, nil, 9},
		"a context too long":      {api.Layout{Context: api.Area{Size: 4097}}, right, api.Memory{make([]byte, 4097), make([]byte, 512)}, 9},
		"all of it":               {wrong, api.Ir{}, nil, -1},
		"wrong, and fuel 0":       {l, one(0, back(0)), m, 0},
		"no memory, and none":     {api.Layout{}, right, nil, 0},
	} {
		got, e := ir.Run(c.l, c.f, c.m, []uint64{1}, c.fuel)
		if e != api.ErrArg || !sameEnd(got, api.End{}) {
			t.Errorf("%s: %s, %d; want ErrArg", name, brief(got), e)
		}
	}
	for _, fuel := range []int{0, 1, 1 << 30} {
		if _, e := ir.Run(l, right, m, nil, fuel); e != api.OK {
			t.Errorf("fuel %d: %d", fuel, e)
		}
	}
}

func TestNumbersAndAddresses(t *testing.T) {
	for _, x := range []uint64{0, 1, 1 << 31, 1 << 32, 1 << 63, math.MaxUint64} {
		gives(t, x, num(0, x))
	}
	gives(t, 1<<32, context(0))
	gives(t, 2<<32+512, frame(0))
	gives(t, 7, num(1, 9), num(0, 7))
	runs(t, one(2, back(1), num(1, 9), num(0, 7)), nil, api.End{Kind: api.EndReturn, Value: 9, Steps: 3})
}

func TestReckoning(t *testing.T) {
	numbers := []uint64{0, 1, 2, 7, 31, 33, 63, 65, 1<<31 - 1, 1 << 31, 1 << 32, 1<<32 + 5, 1 << 63, math.MaxUint64}
	for op := 0; op <= 0xc0; op += 0x10 {
		for _, wide := range []bool{yes, no} {
			for _, x := range numbers {
				for _, y := range numbers {
					want, _ := word.Alu(op, x, y, wide)
					n := alu(2, op, 0, 1)
					n.Wide = wide
					gives(t, want, num(0, x), num(1, y), n)
				}
				want, _ := word.Alu(op, x, x, wide)
				n := alu(1, op, 0, 0)
				n.Wide = wide
				gives(t, want, num(0, x), n)
			}
		}
	}
	gives(t, 0xf8000000, num(0, 1<<31), num(1, 4), api.Node{Op: api.NodeAlu, Id: 2, Alu: api.Arsh, A: 0, B: 1})
	gives(t, 3, num(0, 10), num(1, 7), alu(2, api.Sub, 0, 1))
	gives(t, math.MaxUint64-2, num(0, 10), num(1, 7), alu(2, api.Sub, 1, 0))
}

// to answers the address of an offset in a region.
func to(id, region, off int) api.Node { return num(id, mem.Address(region, off)) }

func TestLoads(t *testing.T) {
	_, m := sample()
	for _, size := range []int{1, 2, 4, 8} {
		for i, b := range m {
			for off := range len(b) - size + 1 {
				want := word.Get(b[off : off+size])
				gives(t, want, to(0, 1+i, 0), load(1, size, 0, off))
				gives(t, want, to(0, 1+i, off), guarded(load(1, size, 0, 0)))
				gives(t, want, to(0, 1+i, off+9), load(1, size, 0, -9))
			}
		}
	}
	// what lies over the end of all numbers is taken modulo 2^64
	gives(t, 1, num(0, math.MaxUint64), num(1, 1<<32+1), alu(2, api.Add, 0, 1), load(3, 1, 2, 0))
	gives(t, 7, num(0, 1<<32-32765), load(1, 1, 0, 32767), num(2, 1<<32+2+32768), load(3, 1, 2, -32768))
}

// fails runs nodes of which the last one traps, and what stands behind it is not done.
func fails(t *testing.T, trap api.TrapKind, nodes ...api.Node) {
	t.Helper()
	n := len(nodes)
	l := append(slices.Clone(nodes), call(n, 1), to(n+1, 3, 0), store(1, n+1, 0, n+1))
	l[n-1].At = 77
	runs(t, one(n+2, back(n), l...), []uint64{4}, api.End{Kind: api.EndTrap, Trap: trap, At: 77, Steps: n})
}

// refused asks for the traps of an access of a value's bytes, at an address made in several ways.
func refused(t *testing.T, n api.Node, at uint64) {
	t.Helper()
	for _, n.Off = range []int{0, 1, -1, 32767, -32768} {
		base := num(0, at-uint64(n.Off))
		fails(t, api.TrapWild, base, num(1, 5), n)
		fails(t, api.TrapGuard, base, num(1, 5), guarded(n))
	}
}

func TestAccessesThatLayerTwoRefuses(t *testing.T) {
	l, _ := sample()
	for _, size := range []int{1, 2, 4, 8} {
		loads, stores := load(2, size, 0, 0), store(size, 0, 0, 1)
		for region := 1; region <= 5; region++ {
			area, _ := mem.Area(l, region)
			for _, off := range []int{-1, area.Size - size + 1, area.Size, 1 << 31} {
				refused(t, loads, mem.Address(region, off))
				refused(t, stores, mem.Address(region, off))
			}
			if !area.Write {
				refused(t, stores, mem.Address(region, 0))
				refused(t, stores, mem.Address(region, area.Size-size))
			}
		}
		for _, at := range []uint64{0, 1, 512, 6 << 32, 7 << 32, 1 << 63, 1<<63 + 1<<32, math.MaxUint64, 1<<32 - 1} {
			refused(t, loads, at)
			refused(t, stores, at)
		}
	}
}

func TestStores(t *testing.T) {
	l, before := sample()
	x := uint64(0xf1e2d3c4b5a69788)
	for _, size := range []int{1, 2, 4, 8} {
		for region := 1; region <= 5; region++ {
			area, _ := mem.Area(l, region)
			for off := 0; area.Write && off+size <= area.Size; off++ {
				want := clone(before)
				copy(want[region-1][off:], word.Put(x, size))
				end := api.End{Kind: api.EndReturn, Value: x, Steps: 4, Mem: want}
				runs(t, one(2, back(1), to(0, region, off), num(1, x), store(size, 0, 0, 1)), nil, end)
				runs(t, one(2, back(1), to(0, region, off-5), num(1, x), guarded(store(size, 0, 5, 1))), nil, end)
			}
		}
	}
	// of an address, too
	want := clone(before)
	copy(want[2][4:], []byte{4, 0, 0, 0, 3, 0, 0, 0})
	runs(t, one(1, back(0), to(0, 3, 4), store(8, 0, 0, 0)), nil, api.End{Kind: api.EndReturn, Value: 3<<32 + 4, Steps: 3, Mem: want})
}

// TestWhatIsStoredIsLoaded, and what was loaded before stays as it was.
func TestWhatIsStoredIsLoaded(t *testing.T) {
	l, m := sample()
	f := one(6, back(5), to(0, 3, 8), num(1, 0x1122334455667788), load(2, 4, 0, 2), store(8, 0, 0, 1), load(3, 4, 0, 2), store(2, 0, 3, 2), load(4, 8, 0, 0), alu(5, api.Xor, 2, 4))
	old := word.Get(m[2][10:14])
	want := clone(m)
	copy(want[2][8:], word.Put(0x1122334455667788, 8))
	copy(want[2][11:], word.Put(old, 2))
	value := old ^ word.Get(want[2][8:16])
	if got, e := ir.Run(l, f, m, nil, 100); e != api.OK || !sameEnd(got, api.End{Kind: api.EndReturn, Value: value, Steps: 9, Mem: want}) {
		t.Errorf("%s, %d; want %#x", brief(got), e, value)
	}
}

func TestCalls(t *testing.T) {
	_, before := sample()
	got := func(value uint64, steps int, told ...api.Told) api.End {
		return api.End{Kind: api.EndReturn, Value: value, Steps: steps, Told: told}
	}
	now := api.Told{Helper: 1}
	runs(t, one(1, back(0), call(0, 1)), []uint64{9, 8}, got(9, 2, now))
	runs(t, one(1, back(0), call(0, 1)), nil, got(0, 2, now))
	runs(t, one(2, back(1), num(0, 7), call(1, 2, 0)), []uint64{9}, got(9, 3, api.Told{Helper: 2, Args: []uint64{7}}))
	runs(t, one(4, back(3), num(0, 1), num(1, 2), num(2, 3), call(3, 5, 0, 1, 2)), []uint64{4}, got(26, 5, api.Told{Helper: 5, Args: []uint64{1, 2, 3}}))
	runs(t, one(4, back(3), num(0, 1), num(1, 2), num(2, 3), call(3, 5, 2, 0, 0)), nil, got(11, 5, api.Told{Helper: 5, Args: []uint64{3, 1, 1}}))
	runs(t, one(3, back(2), to(0, 4, 1), num(1, 3), call(2, 3, 0, 1)), []uint64{6}, got(6, 4, api.Told{Helper: 3, Args: []uint64{0, 3}, Data: before[3][1:4]}))
	// what is received stands in memory, and is loaded from there
	end := got(0x0201, 5, api.Told{Helper: 4, Args: []uint64{0, 3}})
	end.Mem = clone(before)
	copy(end.Mem[2][2:], []byte{1, 2, 0})
	runs(t, one(4, back(3), to(0, 3, 2), num(1, 3), call(2, 4, 0, 1), load(3, 2, 0, 0)), []uint64{0x0201}, end)
	// all of the stack is ready
	stack := one(4, back(2), frame(0), num(1, 64), call(2, 3, 3, 1))
	stack.Parts[0].Nodes = slices.Insert(stack.Parts[0].Nodes, 2, alu(3, api.Sub, 0, 1))
	runs(t, stack, []uint64{5}, got(5, 5, api.Told{Helper: 3, Args: []uint64{0, 64}, Data: before[1][448:]}))
}

func TestAnswersAreUsedUp(t *testing.T) {
	now := api.Told{Helper: 1}
	for answers, want := range map[int]uint64{0: 0, 1: 100, 2: 120, 3: 123, 4: 123} {
		f := one(8, back(7), num(0, 10), call(1, 1), call(2, 1), call(3, 1),
			alu(4, api.Mul, 1, 0), alu(5, api.Add, 4, 2), alu(6, api.Mul, 5, 0), alu(7, api.Add, 6, 3))
		runs(t, f, []uint64{1, 2, 3, 4}[:answers], api.End{Kind: api.EndReturn, Value: want, Steps: 9, Told: []api.Told{now, now, now}})
	}
}

func TestCallsThatLayerFiveRefuses(t *testing.T) {
	for _, c := range []struct {
		helper, region, off int
		size                uint64
	}{
		{3, 3, 0, 0}, {3, 3, 0, 65}, {3, 3, 0, 21}, {3, 3, 20, 1}, {3, 0, 0, 1}, {3, 6, 0, 1}, {3, 4, 0, 1 << 32}, {3, 4, 0, 1<<32 + 1}, {3, 4, 0, math.MaxUint64},
		{4, 3, 0, 0}, {4, 3, 0, 65}, {4, 3, 13, 8}, {4, 1, 0, 1}, {4, 4, 0, 1}, {4, 0, 0, 1}, {4, 2, 505, 8},
	} {
		fails(t, api.TrapHelper, to(0, c.region, c.off), num(1, c.size), call(2, c.helper, 0, 1))
		// a guard is none of a call's
		fails(t, api.TrapHelper, to(0, c.region, c.off), num(1, c.size), guarded(call(2, c.helper, 0, 1)))
	}
	// what was told ahead stays told; what refuses is not told, and uses up nothing that is seen
	f := one(4, back(3), num(0, 0), from(3, call(1, 2, 0)), num(2, 0), from(5, call(3, 3, 0, 2)))
	runs(t, f, []uint64{8}, api.End{Kind: api.EndTrap, Trap: api.TrapHelper, At: 5, Steps: 4, Told: []api.Told{{Helper: 2, Args: []uint64{0}}}})
}

func TestConditionsLead(t *testing.T) {
	numbers := []uint64{0, 1, 2, 7, 1<<31 - 1, 1 << 31, 1<<32 - 1, 1 << 32, 1<<32 + 1, 1 << 63, math.MaxUint64}
	for _, cond := range modelConditions {
		for _, wide := range []bool{yes, no} {
			for _, x := range numbers {
				for _, y := range numbers {
					f := code(4,
						part(nil, when(cond, 0, 1, 2, 1), num(0, x), num(1, y)),
						part([]int{0}, back(2), from(1, num(2, 100))),
						part([]int{0}, back(3), from(2, num(3, 200)), from(3, context(4))))
					f.Values = 5
					f.Parts[0].End.Wide = wide
					want := api.End{Kind: api.EndReturn, Value: 100, At: 1, Steps: 5}
					if holds, _ := word.Cond(cond, x, y, wide); holds {
						want.Value, want.At, want.Steps = 200, 3, 6
					}
					runs(t, f, nil, want)
				}
			}
		}
	}
}

// TestPhisChooseByTheWay: From stands as Pred does, by number, whichever way is To.
func TestPhisChooseByTheWay(t *testing.T) {
	for _, swap := range []bool{no, yes} {
		for x := range uint64(2) {
			f := code(6,
				part(nil, when(api.Jne, 0, 1, 1, 2), num(0, x), num(1, 0), num(2, 22), num(3, 33)),
				part([]int{0}, on(3)),
				part([]int{0}, on(3)),
				chosen(part([]int{1, 2}, back(4)), phi(4, 2, 3), phi(5, 3, 2)))
			want := []uint64{33, 22}[x]
			if swap {
				f.Parts[0].End.To, f.Parts[0].End.Else = 2, 1
				want = 55 - want
			}
			runs(t, f, nil, api.End{Kind: api.EndReturn, Value: want, Steps: 7})
			f.Parts[3].End.A = 5
			runs(t, f, nil, api.End{Kind: api.EndReturn, Value: 55 - want, Steps: 7})
		}
	}
	// Pred rises, in whatever order one comes from there
	f := code(9,
		part(nil, on(5), num(0, 0), num(1, 1), num(2, 2), num(3, 3), num(4, 4)),
		chosen(part([]int{2, 3, 5}, when(api.Jeq, 5, 3, 4, 3), alu(6, api.Mul, 5, 3)), phi(5, 3, 2, 1)),
		part([]int{3}, on(1)),
		part([]int{1}, when(api.Jeq, 5, 1, 1, 2)),
		part([]int{1}, back(6)),
		part([]int{0}, on(1)))
	runs(t, f, nil, api.End{Kind: api.EndReturn, Value: 9, Steps: 17})
}

// TestPhisChooseAtOnce: what another phi of the part made is read as it was on the way.
func TestPhisChooseAtOnce(t *testing.T) {
	for rounds, want := range []uint64{123, 231, 312, 123, 231} {
		f := code(16,
			part(nil, on(1), num(0, 1), num(1, 2), num(2, 3), num(3, 10), num(4, 0), num(5, uint64(rounds))),
			chosen(part([]int{0, 1}, when(api.Jlt, 9, 5, 1, 2), alu(10, api.Add, 9, 0)),
				phi(6, 0, 7), phi(7, 1, 8), phi(8, 2, 6), phi(9, 4, 10)),
			part([]int{1}, back(14), alu(11, api.Mul, 6, 3), alu(12, api.Add, 11, 7), alu(13, api.Mul, 12, 3), alu(14, api.Add, 13, 8)))
		runs(t, f, nil, api.End{Kind: api.EndReturn, Value: want, Steps: 7 + 2*(rounds+1) + 5})
	}
	// what a phi chooses of its own part's nodes is what they made on the way
	f := code(6,
		part(nil, on(1), num(0, 1), num(1, 100)),
		chosen(part([]int{0, 1}, when(api.Jlt, 4, 1, 1, 2), alu(4, api.Add, 2, 2), alu(5, api.Add, 3, 0)),
			phi(2, 0, 4), phi(3, 0, 2)),
		part([]int{1}, back(3)))
	runs(t, f, nil, api.End{Kind: api.EndReturn, Value: 32, Steps: 3 + 7*3 + 1})
}

// TestWhereItEnds: of a node its At, of an End the last node's, without nodes, or of fuel, 0.
func TestWhereItEnds(t *testing.T) {
	l, m := sample()
	ends := func(f api.Ir, fuel int, want api.End) {
		t.Helper()
		want.Mem = m
		if got, e := ir.Run(l, f, m, nil, fuel); e != api.OK || !sameEnd(got, want) {
			t.Errorf("Run(%v, %d) = %s, %d; want %s", f, fuel, brief(got), e, brief(want))
		}
	}
	ends(one(1, back(0), from(8, num(0, 5))), 9, api.End{Kind: api.EndReturn, Value: 5, At: 8, Steps: 2})
	ends(one(2, back(0), from(8, num(0, 5)), from(3, num(1, 6))), 9, api.End{Kind: api.EndReturn, Value: 5, At: 3, Steps: 3})
	ends(one(1, back(0), from(-7, num(0, 5))), 9, api.End{Kind: api.EndReturn, Value: 5, At: -7, Steps: 2})
	ends(one(2, back(0), from(math.MaxInt, num(0, 5)), from(math.MinInt, load(1, 1, 0, 0))), 9, api.End{Kind: api.EndTrap, Trap: api.TrapWild, At: math.MinInt, Steps: 2})
	empty := code(1, part(nil, on(1), from(8, num(0, 5))), part([]int{0}, back(0)))
	ends(empty, 9, api.End{Kind: api.EndReturn, Value: 5, Steps: 3})
	for fuel := range 3 {
		ends(empty, fuel, api.End{Kind: api.EndFuel, Steps: fuel})
	}
	forever := code(1, part(nil, on(1), from(8, num(0, 5))), part([]int{0, 1}, on(1)))
	for _, fuel := range []int{0, 1, 2, 3, 777, 1 << 20} {
		ends(forever, fuel, api.End{Kind: api.EndFuel, Steps: fuel})
	}
	// the last step is done, and no fuel is needed behind it
	trap := one(1, back(0), from(8, num(0, 5)), from(9, store(1, 0, 0, 0)), from(10, store(1, 0, 0, 0)))
	ends(trap, 1, api.End{Kind: api.EndFuel, Steps: 1})
	ends(trap, 2, api.End{Kind: api.EndTrap, Trap: api.TrapWild, At: 9, Steps: 2})
	ends(trap, 3, api.End{Kind: api.EndTrap, Trap: api.TrapWild, At: 9, Steps: 2})
}

// loop is what the sample does, as a program.
func loop() []api.Ins {
	return []api.Ins{
		{Op: 0x7a, Dst: 10, Off: -8},
		{Op: 0xb7, Dst: 6}, {Op: 0xb7, Dst: 3, Imm: 3}, {Op: 0xb7, Dst: 2},
		{Op: 0x18, Dst: 7, Src: 1}, {}, // the first map
		{Op: 0x3d, Dst: 6, Src: 3, Off: 6}, // 6
		{Op: 0x71, Dst: 4, Src: 7},
		{Op: 0x0f, Dst: 2, Src: 4},
		{Op: 0x7b, Dst: 10, Src: 2, Off: -8},
		{Op: 0x07, Dst: 6, Imm: 1}, {Op: 0x07, Dst: 7, Imm: 1},
		{Op: 0x05, Off: -7},
		{Op: 0xbf, Dst: 1, Src: 2}, {Op: 0x79, Dst: 2, Src: 10, Off: -8}, {Op: 0x85, Imm: 5}, // 13
		{Op: 0x95},
	}
}

// TestAsAProgramDoes: code that does what a program does ends as that does.
func TestAsAProgramDoes(t *testing.T) {
	l, m := sample()
	want, e := interp.Run(l, loop(), m, []uint64{1000}, 1000)
	if e != api.OK || want.Kind != api.EndReturn {
		t.Fatalf("%s, %d", brief(want), e)
	}
	got, e := ir.Run(l, looped(), m, []uint64{1000}, 1000)
	want.At, want.Steps = 14, 8+4*1+3*6+3
	if e != api.OK || !sameEnd(got, want) {
		t.Errorf("%s, %d; want %s", brief(got), e, brief(want))
	}
}

func TestAFirstPartsPhis(t *testing.T) {
	l, m := sample()
	f := code(2, chosen(part(nil, back(1), alu(1, api.Add, 0, 0)), phi(0)))
	if got, e := ir.Run(l, f, m, nil, 9); e != api.OK || got.Kind != api.EndReturn || got.Steps != 2 {
		t.Errorf("%s, %d", brief(got), e)
	}
}
