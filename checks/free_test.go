package checks_test

import (
	"math"
	"reflect"
	"slices"
	"testing"

	"clevis/api"
	"clevis/checks"
	"clevis/ir"
	"clevis/mem"
)

// TestFreeExample: a store of eight bytes at the stack's end less eight, and less seven.
func TestFreeExample(t *testing.T) {
	f := one(2, back(1), frame(0), num(1, 7), from(2, store(8, 0, -8, 1)))
	want := one(2, back(1), frame(0), num(1, 7), from(2, bare(store(8, 0, -8, 1))))
	becomes(t, "504", sample, f, []api.Fact{{}, {}, seen(api.Stack, 504, 504)}, want, 1)
	stays(t, "505", sample, f, []api.Fact{{}, {}, seen(api.Stack, 505, 505)})
	stays(t, "not Seen", sample, f, []api.Fact{{}, {}, {Region: api.Stack, Low: 504, High: 504}})
	stays(t, "a fact of another instruction", sample, f, []api.Fact{{}, seen(api.Stack, 504, 504), {}})
}

// TestNodes: of each node whether its Guard goes, where its fact proves all.
func TestNodes(t *testing.T) {
	facts := []api.Fact{{}, seen(3, 0, 8)}
	for _, c := range []struct {
		name string
		node api.Node
		goes bool
	}{
		{"NodeNum", num(2, 5), false},
		{"NodeContext", context(2), false},
		{"NodeFrame", frame(2), false},
		{"NodeAlu", alu(2, api.Add, 0, 1), false},
		{"NodeCall", call(2, 3, 0, 1), false},
		{"NodeLoad", load(2, 8, 0, 8), true},
		{"NodeStore", store(8, 0, 8, 1), true},
	} {
		for _, guard := range []bool{false, true} {
			n := from(1, c.node)
			n.Guard, n.Size = guard, 8 // of others than accesses it is not asked
			f := one(3, back(1), num(0, mem.Address(3, 0)), num(1, 4), n)
			if !guard || !c.goes {
				stays(t, c.name, sample, f, facts)
				continue
			}
			becomes(t, c.name, sample, f, facts, one(3, back(1), f.Parts[0].Nodes[0], f.Parts[0].Nodes[1], bare(n)), 1)
		}
	}
}

// TestPlaces: At must be a place in facts.
func TestPlaces(t *testing.T) {
	proves := seen(2, 0, 504)
	for _, c := range []struct {
		at    int
		facts int
		goes  bool
	}{
		{0, 1, true}, {0, 0, false}, {1, 1, false}, {2, 1, false}, {-1, 1, false}, {-1, 5, false}, {4, 5, true}, {5, 5, false},
		{math.MinInt, 5, false}, {math.MaxInt, 5, false}, {1 << 32, 5, false}, {4095, 4096, true}, {4096, 4096, false}, {70000, 70001, true},
	} {
		facts := slices.Repeat([]api.Fact{proves}, c.facts)
		for _, n := range []api.Node{from(c.at, load(1, 8, 0, 0)), from(c.at, store(8, 0, 0, 0))} {
			f := one(2, back(0), frame(0), n)
			if c.goes {
				becomes(t, "a place", sample, f, facts, one(2, back(0), frame(0), bare(n)), 1)
			} else {
				stays(t, "no place", sample, f, facts)
			}
		}
	}
	stays(t, "no facts", sample, one(2, back(0), frame(0), from(0, load(1, 8, 0, 0))), nil)
	// only the fact there counts
	n := from(1, load(1, 8, 0, 0))
	f := one(2, back(0), frame(0), n)
	stays(t, "its neighbours' facts", sample, f, []api.Fact{proves, {}, proves})
	becomes(t, "its fact alone", sample, f, []api.Fact{{}, proves, {}}, one(2, back(0), frame(0), bare(n)), 1)
	// what lies behind the end of facts is nobody's
	stays(t, "behind the end", sample, f, slices.Repeat([]api.Fact{proves}, 3)[:1])
}

// TestSizes: of each size as far as the fact proves it, and no further; and what is stored needs a region that may be written.
func TestSizes(t *testing.T) {
	for _, c := range []struct {
		region int
		size   int64
		write  bool
	}{{1, 16, false}, {2, 512, true}, {3, 40, true}, {4, 70, false}, {5, 9, true}} {
		for _, size := range []int{1, 2, 4, 8} {
			last := c.size - int64(size)
			for _, high := range []int64{last - 1, last, last + 1, 0, -1, math.MaxInt64} {
				for _, low := range []int64{0, 1, high - 1, high, high + 1, -1} {
					facts := []api.Fact{seen(c.region, low, high)}
					fits := 0 <= low && low <= high && high <= last
					access(t, load(1, size, 0, 0), facts, fits)
					access(t, store(size, 0, 0, 0), facts, fits && c.write)
				}
			}
		}
	}
	for _, region := range []int{0, 6, 7, -1} {
		access(t, load(1, 1, 0, 0), []api.Fact{seen(region, 0, 0)}, false)
		access(t, store(1, 0, 0, 0), []api.Fact{seen(region, 0, 0)}, false)
	}
}

// access asks of code of one access whether its Guard goes.
func access(t *testing.T, n api.Node, facts []api.Fact, goes bool) {
	t.Helper()
	f := one(2, back(0), frame(0), n)
	if goes {
		becomes(t, "proven", sample, f, facts, one(2, back(0), frame(0), bare(n)), 1)
	} else {
		stays(t, "not proven", sample, f, facts)
	}
}

// TestSomeGo: several accesses of one instruction are asked by themselves, in all parts, and only guards that went are counted.
func TestSomeGo(t *testing.T) {
	facts := []api.Fact{seen(4, 0, 66), seen(3, 36, 36), {}}
	f := code(12,
		part(nil, when(api.Jeq, 0, 1, 2, 1), num(0, mem.Address(4, 0)), num(1, mem.Address(3, 0)),
			from(0, load(2, 4, 0, 66)), from(0, load(3, 8, 0, 66)), from(0, store(4, 0, 66, 1)), from(1, load(4, 4, 1, 36)), from(1, store(4, 1, 36, 0)), from(1, store(8, 1, 36, 0)), from(1, store(2, 1, 36, 0))),
		part([]int{0}, on(3), from(2, load(5, 1, 0, 0)), bare(from(0, load(6, 1, 0, 0))), from(0, load(7, 1, 0, 0)), bare(from(1, store(1, 0, 0, 0)))),
		part([]int{0}, on(3), from(3, load(8, 1, 0, 0)), from(-1, load(9, 1, 0, 0))),
		chosen([]int{1, 2}, phis(phi(10, 7, 9)), back(10), from(1, load(11, 1, 1, 36)), from(0, store(1, 1, 0, 10))))
	want := but(f, 0, 2, 0, 5, 0, 6, 0, 8, 1, 2, 3, 0)
	becomes(t, "some", sample, f, facts, want, 6)
	becomes(t, "a first map that is shorter", api.Layout{Maps: []api.Area{{Size: 39, Write: true}, {Size: 70}}}, f, facts, but(f, 0, 2, 0, 8, 1, 2, 3, 0), 4)
	becomes(t, "a second map that is longer, and may be written", api.Layout{Maps: []api.Area{{Size: 40, Write: true}, {Size: 74, Write: true}}}, f, facts, but(want, 0, 3, 0, 4, 3, 1), 9)
	for _, l := range wrongLayouts() {
		stays(t, "a layout that may not be", l, f, facts)
	}
	stays(t, "an empty layout", api.Layout{}, f, facts)
}

// but answers code without the guards of some nodes; they are told as pairs of a part and the node there.
func but(f api.Ir, pairs ...int) api.Ir {
	f = copied(f)
	for i := 0; i < len(pairs); i += 2 {
		f.Parts[pairs[i]].Nodes[pairs[i+1]].Guard = false
	}
	return f
}

// TestFields: all else stays with all that stands in it, also what a node or an End has not.
func TestFields(t *testing.T) {
	full := func(n api.Node) api.Node {
		n.Wide, n.At = true, 1
		if n.Op != api.NodeAlu {
			n.Alu = 3
		}
		if n.Op != api.NodeCall {
			n.Args = []int{9, -2, 7}
		}
		if n.Op != api.NodeNum && n.Op != api.NodeCall {
			n.Imm = 99
		}
		return n
	}
	access := func(n api.Node) api.Node {
		n = full(n)
		n.At, n.Off = 0, -32768
		return n
	}
	f := code(40,
		part(nil, api.Term{Op: api.TermIf, Cond: api.Jset, A: 30, B: 31, To: 2, Else: 1},
			full(num(30, math.MaxUint64)), full(context(31)), access(load(32, 4, 31, 0)), access(store(2, 30, 0, 32)), full(alu(33, api.Arsh, 32, 30)), full(call(34, 5, 33, 30, 33)), full(frame(37))),
		part([]int{0}, api.Term{Op: api.TermGo, To: 2, A: 77, B: -5, Cond: 3, Wide: true, Else: 9}),
		chosen([]int{0, 1}, phis(phi(35, 33, 34), phi(36, 31, 30)), api.Term{Op: api.TermReturn, A: 35, Cond: 9, B: 8, To: 7, Else: 6}))
	for i := range f.Parts[0].Nodes {
		if n := &f.Parts[0].Nodes[i]; n.Op != api.NodeLoad && n.Op != api.NodeStore {
			n.Guard, n.Size, n.Off = true, 1, 4
		}
	}
	f.Parts[0].Nodes[2].B = 5
	stays(t, "all", sample, f, []api.Fact{seen(3, 0, 39), seen(2, 0, 0)})
	becomes(t, "all but two guards", sample, f, []api.Fact{seen(3, 0, 36), seen(2, 0, 0)}, but(f, 0, 2, 0, 3), 2)
}

// TestWrongFacts: a guard goes by what a fact says; where that is wrong, what it would have held back goes astray.
func TestWrongFacts(t *testing.T) {
	f := one(3, back(0), num(0, mem.Address(3, 40)), num(1, 1), from(0, load(2, 1, 0, 0)))
	right, wrong := []api.Fact{seen(3, 40, 40)}, []api.Fact{seen(3, 39, 39)}
	stays(t, "right", sample, f, right)
	g, _, _ := checks.Free(sample, f, wrong)
	if e := runs(t, f, fresh(), nil, 9); e.Kind != api.EndTrap || e.Trap != api.TrapGuard {
		t.Errorf("with its guard it ends %s", brief(e))
	}
	if e := runs(t, g, fresh(), nil, 9); e.Kind != api.EndTrap || e.Trap != api.TrapWild {
		t.Errorf("without its guard it ends %s", brief(e))
	}
}

// TestRefused: what layer 16 refuses, whatever layout and facts there are.
func TestRefused(t *testing.T) {
	right := one(3, back(0), frame(0), from(0, load(1, 8, 0, -8)), num(2, 1))
	facts := []api.Fact{seen(2, 504, 504)}
	for name, change := range map[string]func(f *api.Ir){
		"no parts":                   func(f *api.Ir) { f.Parts = nil },
		"too few values":             func(f *api.Ir) { f.Values = 2 },
		"values below nought":        func(f *api.Ir) { f.Values = -1 },
		"too many values":            func(f *api.Ir) { f.Values = 65537 },
		"a node that is none":        func(f *api.Ir) { f.Parts[0].Nodes[2].Op = 8 },
		"a size that is none":        func(f *api.Ir) { f.Parts[0].Nodes[1].Size = 3 },
		"an Off that is too great":   func(f *api.Ir) { f.Parts[0].Nodes[1].Off = 1 << 15 },
		"a load of what is none":     func(f *api.Ir) { f.Parts[0].Nodes[1].A = 3 },
		"a load of what comes later": func(f *api.Ir) { f.Parts[0].Nodes[1].A = 2 },
		"an End that is none":        func(f *api.Ir) { f.Parts[0].End.Op = 0 },
		"an End of nothing":          func(f *api.Ir) { f.Parts[0].End.A = -1 },
		"made twice":                 func(f *api.Ir) { f.Parts[0].Nodes[2].Id = 0 },
		"a store that makes a value": func(f *api.Ir) { f.Parts[0].Nodes[1].Op = api.NodeStore },
		"a part one can not come to": func(f *api.Ir) { f.Parts = append(f.Parts, part(nil, back(0))) },
		"a phi of too many":          func(f *api.Ir) { f.Values, f.Parts[0].Phis = 4, phis(phi(3, 0)) },
		"too many parts":             func(f *api.Ir) { f.Parts = make([]api.Part, 8193) },
	} {
		f := copied(right)
		change(&f)
		if ir.Check(f) == api.OK {
			t.Fatalf("%s may be", name)
		}
		for _, l := range append(wrongLayouts(), sample) {
			if g, n, e := checks.Free(l, f, facts); e != api.ErrIR || n != 0 || !reflect.DeepEqual(g, api.Ir{}) {
				t.Errorf("%s: Free(%v) = %v, %d, %d; want ErrIR", name, f, g, n, e)
			}
		}
	}
	becomes(t, "what is right", sample, right, facts, but(right, 0, 1), 1)
}
