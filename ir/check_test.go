package ir_test

import (
	"math"
	"slices"
	"testing"

	"clevis/api"
	"clevis/ir"
)

// asks asks whether code may be.
func asks(t *testing.T, name string, f api.Ir, may bool) {
	t.Helper()
	want := api.ErrIR
	if may {
		want = api.OK
	}
	if got := ir.Check(f); got != want {
		t.Errorf("%s: Check = %d; want %d", name, got, want)
	}
	if modelCheck(f) != may {
		t.Errorf("%s: the model says otherwise", name)
	}
}

// change is what is done to the sample.
type change struct {
	name string
	do   func(f *api.Ir)
}

// changed asks of the sample, with one change each time.
func changed(t *testing.T, may bool, l []change) {
	t.Helper()
	for _, c := range l {
		f := looped()
		c.do(&f)
		asks(t, c.name, f, may)
	}
}

func TestTheSampleMayBe(t *testing.T) { asks(t, "the sample", looped(), yes) }

func TestHowManyParts(t *testing.T) {
	asks(t, "nothing", api.Ir{}, no)
	asks(t, "no part", code(5), no)
	asks(t, "one part", one(1, back(0), num(0, 5)), yes)
}

func TestHowManyValues(t *testing.T) {
	values := func(n int) change {
		return change{"values", func(f *api.Ir) { f.Values = n }}
	}
	changed(t, yes, []change{values(15), values(16), values(1000), values(65536)})
	changed(t, no, []change{values(14), values(0), values(-1), values(65537), values(math.MaxInt), values(math.MinInt)})
	asks(t, "not even one", code(0, part(nil, on(1)), part([]int{0}, on(1))), no)
	asks(t, "none, for ever", code(0, part(nil, on(1)), part([]int{0, 1}, on(1))), yes)
	asks(t, "below none", code(-1, part(nil, on(1)), part([]int{0, 1}, on(1))), no)
}

func TestEnds(t *testing.T) {
	end := func(at int, do func(t *api.Term)) change {
		return change{"an End", func(f *api.Ir) { do(&f.Parts[at].End) }}
	}
	op := func(at int, op api.TermOp) change { return end(at, func(t *api.Term) { t.Op = op }) }
	to := func(at, to int) change { return end(at, func(t *api.Term) { t.To = to }) }
	otherwise := func(at, to int) change { return end(at, func(t *api.Term) { t.Else = to }) }
	changed(t, no, []change{
		op(0, 0), op(3, 0), op(3, 4), op(3, -1), op(0, api.TermIf), op(1, api.TermGo), op(1, api.TermReturn), op(2, api.TermReturn), op(3, api.TermGo),
		to(0, -1), to(0, 4), to(0, 2), to(0, 0), to(0, math.MaxInt), to(0, math.MinInt),
		to(1, -1), to(1, 4), to(1, 1), to(1, 3), otherwise(1, -1), otherwise(1, 4), otherwise(1, 2), otherwise(1, 0),
		to(2, 0), to(2, 3), to(2, 2),
	})
	// what an End has not is not asked, nor which way is which
	changed(t, yes, []change{
		otherwise(0, -1), otherwise(0, 99), otherwise(2, 1), to(3, 77), otherwise(3, -77), to(3, 0),
		end(0, func(t *api.Term) { t.A, t.B, t.Cond, t.Wide = 99, -99, 1, true }),
		end(3, func(t *api.Term) { t.B, t.Cond = 99, 1 }),
		end(1, func(t *api.Term) { t.To, t.Else = t.Else, t.To }),
		end(1, func(t *api.Term) { t.Wide = false }),
	})
}

// TestTwoWaysToOnePart: of TermIf To and Else are two parts.
func TestTwoWaysToOnePart(t *testing.T) {
	five := num(0, 5)
	asks(t, "to one part", code(1, part(nil, when(api.Jeq, 0, 0, 1, 1), five), part([]int{0}, back(0))), no)
	asks(t, "to one part, told twice", code(1, part(nil, when(api.Jeq, 0, 0, 1, 1), five), part([]int{0, 0}, back(0))), no)
	asks(t, "to two", code(1, part(nil, when(api.Jeq, 0, 0, 1, 2), five), part([]int{0}, back(0)), part([]int{0}, back(0))), yes)
	asks(t, "to itself and on", code(1, part(nil, on(1), five), part([]int{0, 1}, when(api.Jeq, 0, 0, 1, 2)), part([]int{1}, back(0))), yes)
	asks(t, "to itself twice", code(1, part(nil, on(1), five), part([]int{0, 1}, when(api.Jeq, 0, 0, 1, 1))), no)
}

func TestConditions(t *testing.T) {
	for cond := -256; cond < 512; cond++ {
		may := slices.Contains([]int{0x10, 0x20, 0x30, 0x40, 0x50, 0x60, 0x70, 0xa0, 0xb0, 0xc0, 0xd0}, cond)
		changed(t, may, []change{
			{"a condition", func(f *api.Ir) { f.Parts[1].End.Cond = cond }},
			{"a condition of 32 bits", func(f *api.Ir) { f.Parts[1].End.Cond, f.Parts[1].End.Wide = cond, false }},
		})
	}
}

func TestPred(t *testing.T) {
	pred := func(at int, l ...int) change {
		return change{"Pred", func(f *api.Ir) { f.Parts[at].Pred = l }}
	}
	changed(t, no, []change{
		pred(0, 0), pred(0, 1), pred(0, -1),
		pred(1), pred(1, 0), pred(1, 2), pred(1, 2, 0), pred(1, 0, 0, 2), pred(1, 0, 2, 2), pred(1, 0, 1, 2), pred(1, 0, 2, 3), pred(1, 0, 3), pred(1, -1, 0, 2),
		pred(2), pred(2, 2), pred(2, 1, 1), pred(2, 0, 1), pred(2, -1), pred(2, 4), pred(2, math.MaxInt),
		pred(3), pred(3, 2),
	})
	changed(t, yes, []change{pred(0, []int{}...), pred(1, 0, 2)})
}

// TestTheFirstPartHasNoPred, even if it is told as it is.
func TestTheFirstPartHasNoPred(t *testing.T) {
	asks(t, "to itself", code(0, part([]int{0}, on(0))), no)
	asks(t, "to itself, not told", code(0, part(nil, on(0))), no)
	asks(t, "back from another one", code(0, part([]int{1}, on(1)), part([]int{0}, on(0))), no)
	asks(t, "back from another one, not told", code(0, part(nil, on(1)), part([]int{0}, on(0))), no)
	asks(t, "or else back", code(1, part([]int{1}, on(1), num(0, 1)), part([]int{0, 1}, when(api.Jeq, 0, 0, 1, 0))), no)
	asks(t, "to another one", code(0, part(nil, on(1)), part([]int{0, 1}, on(1))), yes)
}

func TestPartsThatOneCannotComeTo(t *testing.T) {
	five := num(0, 5)
	asks(t, "one more", code(1, part(nil, back(0), five), part(nil, on(1))), no)
	asks(t, "one more, by itself", code(1, part(nil, back(0), five), part([]int{1}, on(1))), no)
	asks(t, "one that leads to others", code(1, part(nil, on(2), five), part(nil, on(2)), part([]int{0, 1}, back(0))), no)
	asks(t, "two that lead to one another", code(1, part(nil, back(0), five), part([]int{2}, on(2)), part([]int{1}, on(1))), no)
	asks(t, "the last one", code(1, part(nil, on(1), five), part([]int{0}, back(0)), part(nil, back(0))), no)
	asks(t, "in another order", code(1, part(nil, on(2), five), part([]int{2}, back(0)), part([]int{0}, on(1))), yes)
}

// spots answers code in which a node stands where all that it may use is made: 0 and 1 are numbers, 2 is free.
func spots(n api.Node) api.Ir { return one(3, back(0), num(0, 1), num(1, 2), n) }

func TestWhichNodes(t *testing.T) {
	for op := api.NodeOp(-3); op < 12; op++ {
		n := api.Node{Op: op, Id: 2, A: 0, B: 1, Size: 4}
		if op == api.NodeStore {
			n.Id = -1
		}
		if op == api.NodeCall {
			n.Imm = 1
		}
		asks(t, "a node", spots(n), 1 <= op && op <= 7)
	}
	asks(t, "the zero node", spots(api.Node{}), no)
	asks(t, "a great node", spots(api.Node{Op: math.MaxInt, Id: 2}), no)
}

// TestWhatNodesHaveNot is not asked.
func TestWhatNodesHaveNot(t *testing.T) {
	odd := func(n api.Node) api.Node {
		n.Alu, n.A, n.B, n.Size, n.Off, n.Guard, n.Args, n.At = 1, 99, -99, 3, 1<<20, true, []int{77}, -5
		return n
	}
	asks(t, "a number", spots(odd(num(2, 1<<63))), yes)
	asks(t, "the context", spots(odd(context(2))), yes)
	asks(t, "the frame", spots(odd(frame(2))), yes)
	asks(t, "a reckoning", spots(api.Node{Op: api.NodeAlu, Id: 2, A: 1, B: 1, Imm: 9, Size: 3, Off: 1 << 20, Guard: true, Args: []int{77}, At: math.MinInt}), yes)
	asks(t, "a load", spots(api.Node{Op: api.NodeLoad, Id: 2, Alu: 1, Wide: true, A: 1, B: 99, Imm: 9, Size: 1, Args: []int{77}}), yes)
	asks(t, "a store", spots(api.Node{Op: api.NodeStore, Id: -1, Alu: 1, Wide: true, A: 1, B: 1, Imm: 9, Size: 1, Args: []int{77}}), yes)
	asks(t, "a call", spots(api.Node{Op: api.NodeCall, Id: 2, Alu: 1, Wide: true, A: 99, B: -99, Imm: 2, Size: 3, Off: 1 << 20, Guard: true, Args: []int{1}}), yes)
}

func TestOperations(t *testing.T) {
	for op := -256; op < 512; op++ {
		n := alu(2, op, 0, 1)
		may := op%16 == 0 && 0 <= op && op <= 0xc0
		asks(t, "an operation", spots(n), may)
		n.Wide = false
		asks(t, "an operation of 32 bits", spots(n), may)
	}
}

func TestSizesAndOffs(t *testing.T) {
	for _, both := range []func(size, off int) api.Node{
		func(size, off int) api.Node { return load(2, size, 0, off) },
		func(size, off int) api.Node { return store(size, 0, off, 1) },
	} {
		for size := -3; size < 20; size++ {
			asks(t, "a size", spots(both(size, 0)), slices.Contains([]int{1, 2, 4, 8}, size))
			asks(t, "a size with a guard", spots(guarded(both(size, 0))), slices.Contains([]int{1, 2, 4, 8}, size))
		}
		for off, may := range map[int]bool{
			0: yes, 1: yes, -1: yes, 1<<15 - 1: yes, 1 << 15: no, -1 << 15: yes, -1<<15 - 1: no,
			1 << 31: no, -1 << 31: no, 1 << 16: no, math.MaxInt: no, math.MinInt: no,
		} {
			asks(t, "an Off", spots(both(8, off)), may)
			asks(t, "an Off with a guard", spots(guarded(both(8, off))), may)
		}
	}
}

func TestHelpers(t *testing.T) {
	for n := -2; n < 9; n++ {
		for count := range 8 {
			x := call(2, n, slices.Repeat([]int{1}, count)...)
			want, ok := map[int]int{1: 0, 2: 1, 3: 2, 4: 2, 5: 3}[n]
			asks(t, "a call", spots(x), ok && want == count)
		}
	}
	for _, n := range []uint64{1 << 32, 1<<32 + 1, 1 << 63, 1<<63 + 1, math.MaxUint64} {
		asks(t, "a call of a great number", spots(api.Node{Op: api.NodeCall, Id: 2, Imm: n}), no)
	}
	asks(t, "a call of the kind of an answer", spots(call(2, 2, 2)), no)
}

func TestWhereValuesAreMade(t *testing.T) {
	id := func(part, node, id int) change {
		return change{"a node's value", func(f *api.Ir) { f.Parts[part].Nodes[node].Id = id }}
	}
	choice := func(at, id int) change {
		return change{"a phi's value", func(f *api.Ir) { f.Parts[1].Phis[at].Id = id }}
	}
	changed(t, no, []change{
		// of a store, none
		id(0, 5, 0), id(0, 5, 12), id(0, 5, -2), id(2, 4, 15), id(2, 4, math.MinInt),
		// of others, one
		id(0, 0, -1), id(3, 0, -1), id(3, 1, -1), id(3, 1, -2), id(3, 1, math.MinInt), choice(0, -1), choice(0, -2),
		// below Values
		id(3, 1, 15), id(3, 1, math.MaxInt), choice(2, 15),
		// made once: by two nodes, of one part and of two, by two phis, by both
		id(0, 1, 0), id(0, 4, 3), id(3, 1, 0), id(3, 0, 14), choice(1, 5), choice(0, 8), choice(2, 0), id(3, 0, 5),
	})
	// a value may be made by nobody, if nobody uses it
	changed(t, yes, []change{
		{"one more value", func(f *api.Ir) { f.Values++ }},
		{"one not made", func(f *api.Ir) { f.Parts[0].Nodes = append(f.Parts[0].Nodes, num(17, 0)); f.Values = 18 }},
	})
	unused := one(2, back(1), num(1, 5))
	asks(t, "of two only the second", unused, yes)
	unused.Parts[0].End.A = 0
	asks(t, "the first of two, which is not made", unused, no)
	asks(t, "twice, by nodes that are alike", one(1, back(0), num(0, 5), num(0, 5)), no)
}
