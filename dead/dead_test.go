package dead_test

import (
	"math"
	"reflect"
	"slices"
	"testing"

	"clevis/api"
	"clevis/dead"
	"clevis/ir"
	"clevis/mem"
)

func TestExample(t *testing.T) {
	f := one(2, back(1), num(0, 5), num(1, 7))
	needs(t, "a number that nobody uses", f, 1)
	becomes(t, "a number that nobody uses", f, one(2, back(1), num(1, 7)))
}

// TestNobodyNeeds: of each node whether it goes, if nobody needs its value.
func TestNobodyNeeds(t *testing.T) {
	address := []api.Node{frame(0), num(1, 3)}
	for _, c := range []struct {
		name  string
		node  api.Node
		goes  bool
		needs []int
	}{
		{"NodeNum", num(2, 5), true, nil},
		{"NodeNum of nought", num(2, 0), true, nil},
		{"NodeContext", context(2), true, nil},
		{"NodeFrame", frame(2), true, nil},
		{"NodeAlu", add(2, 0, 1), true, nil},
		{"NodeAlu that divides", alu(2, api.Div, 0, 1), true, nil},
		{"NodeLoad without Guard", load(2, 0, -8), true, nil},
		{"NodeLoad with Guard", guarded(load(2, 0, -8)), false, []int{0}},
		{"NodeStore without Guard", store(0, -8, 1), false, []int{0, 1}},
		{"NodeStore with Guard", guarded(store(0, -8, 1)), false, []int{0, 1}},
		{"NodeCall of nothing", call(2, 1), false, nil},
		{"NodeCall of a number", call(2, 2, 1), false, []int{1}},
		{"NodeCall that reads", call(2, 3, 0, 1), false, []int{0, 1}},
		{"NodeCall that writes", call(2, 4, 0, 1), false, []int{0, 1}},
		{"NodeCall of three", call(2, 5, 1, 3, 0), false, []int{0, 1, 3}},
	} {
		f := one(5, back(4), append(address[:2:2], num(3, 1), from(9, c.node), num(4, 0))...)
		needs(t, c.name, f, append(c.needs, 4)...)
		want := copied(f)
		want.Parts[0].Nodes = nil
		for _, n := range f.Parts[0].Nodes {
			if n.Id == 4 || n.At == 9 && !c.goes || n.At == 0 && slices.Contains(c.needs, n.Id) {
				want.Parts[0].Nodes = append(want.Parts[0].Nodes, n)
			}
		}
		becomes(t, c.name, f, want)
	}
}

// TestWhoNeeds: what each End, and each node whose value is needed, uses is needed; what it has not, but stands in its fields, is not.
func TestWhoNeeds(t *testing.T) {
	all := []api.Node{frame(0), num(1, 3), num(2, 4), num(3, 8)}
	returns := func(n api.Node) api.Ir { return one(5, back(4), append(all[:4:4], n)...) }
	// junk fills the fields that a node has not with values that there are
	junk := func(n api.Node) api.Node {
		switch n.Op {
		case api.NodeNum, api.NodeContext, api.NodeFrame, api.NodeCall:
			n.A, n.B = 2, 3
		case api.NodeLoad:
			n.B = 3
		}
		if n.Op != api.NodeCall {
			n.Args = []int{2, 3}
		}
		return n
	}
	for _, c := range []struct {
		name string
		node api.Node
		want []int
	}{
		{"NodeNum", num(4, 5), nil},
		{"NodeContext", context(4), nil},
		{"NodeFrame", frame(4), nil},
		{"NodeAlu", add(4, 0, 1), []int{0, 1}},
		{"NodeAlu of one value", add(4, 1, 1), []int{1}},
		{"Mov, whose first is not asked", alu(4, api.Mov, 0, 1), []int{0, 1}},
		{"Neg, whose second is not asked", alu(4, api.Neg, 0, 1), []int{0, 1}},
		{"NodeLoad without Guard", load(4, 0, -8), []int{0}},
		{"NodeLoad with Guard", guarded(load(4, 0, -8)), []int{0}},
		{"NodeCall", call(4, 1), nil},
		{"NodeCall of one", call(4, 2, 1), []int{1}},
		{"NodeCall of two", call(4, 3, 0, 1), []int{0, 1}},
	} {
		needs(t, c.name, returns(c.node), append(c.want, 4)...)
		needs(t, c.name+", with what it has not", returns(junk(c.node)), append(c.want, 4)...)
	}
	stays(t, "what it has not stays as it was", one(1, back(0), junk(num(0, 5))))

	ends := func(end api.Term) api.Ir {
		return code(6, part(nil, end, all...), part([]int{0}, back(4), num(4, 1)), part([]int{0}, back(5), num(5, 2)))
	}
	needs(t, "TermIf", ends(when(api.Jeq, 0, 2, 1, 2)), 0, 2, 4, 5)
	needs(t, "TermIf of one value", ends(when(api.Jne, 3, 3, 2, 1)), 3, 4, 5)
	f := ends(on(1))
	f.Parts = f.Parts[:2]
	f.Parts[0].End.A, f.Parts[0].End.B = 1, 2
	needs(t, "TermGo, with what it has not", f, 4)
	f = one(5, api.Term{Op: api.TermReturn, A: 3, B: 1, To: 7, Else: 2}, all...)
	needs(t, "TermReturn, with what it has not", f, 3)
	becomes(t, "TermReturn, with what it has not", f, one(5, f.Parts[0].End, num(3, 8)))
}

// TestFields: what stays does so with all that stands in it.
func TestFields(t *testing.T) {
	f := code(40,
		part(nil, api.Term{Op: api.TermIf, Cond: api.Jset, Wide: false, A: 30, B: 31, To: 2, Else: 1},
			api.Node{Op: api.NodeNum, Id: 30, Alu: 3, Wide: true, Imm: math.MaxUint64, Size: 9, Off: -1, Guard: true, At: 4095},
			api.Node{Op: api.NodeContext, Id: 31, Imm: 2, Guard: true, Args: []int{9}, At: 1},
			api.Node{Op: api.NodeLoad, Id: 32, A: 31, Size: 4, Off: 12, Guard: true, At: 2},
			api.Node{Op: api.NodeStore, Id: -1, A: 30, B: 32, Size: 1, Off: -32768, Guard: true, Wide: true, At: 3},
			api.Node{Op: api.NodeAlu, Id: 33, Alu: api.Arsh, Wide: false, A: 32, B: 30, At: 7},
			api.Node{Op: api.NodeCall, Id: 34, Imm: 5, Args: []int{33, 30, 33}, At: -5, Off: 1}),
		part([]int{0}, on(2)),
		chosen([]int{0, 1}, phis(phi(35, 33, 34)), api.Term{Op: api.TermReturn, A: 35, Cond: 9}))
	needs(t, "all that is made", f, 30, 31, 32, 33, 34, 35)
	stays(t, "all that is made", f)
}

// TestValuesOfWhatStays: a value that a call, or a load with Guard, makes may be needed by nobody, or by what is needed by nobody.
func TestValuesOfWhatStays(t *testing.T) {
	f := one(6, back(0), num(0, 1), frame(1), now(2), guarded(load(3, 1, -8)), add(4, 2, 3), load(5, 4, 0))
	needs(t, "no value of theirs", f, 0, 1)
	becomes(t, "no value of theirs", f, one(6, back(0), num(0, 1), frame(1), now(2), guarded(load(3, 1, -8))))
	f.Parts[0].End.A = 4
	needs(t, "their sum", f, 1, 2, 3, 4)
	f.Parts[0].End.A = 2
	needs(t, "the call's", f, 1, 2)
	f.Parts[0].End.A = 3
	needs(t, "the load's", f, 1, 3)
	f.Parts[0].End.A = 5
	needs(t, "all", f, 1, 2, 3, 4, 5)
	// a call that nobody needs needs what it uses, and that again something
	needs(t, "a call's", one(4, back(0), num(0, 1), num(1, 2), add(2, 1, 1), call(3, 2, 2)), 0, 1, 2)
	needs(t, "a load's", one(4, back(0), num(0, 1), frame(1), add(2, 1, 0), guarded(load(3, 2, 0))), 0, 1, 2)
	needs(t, "a load's without Guard", one(4, back(0), num(0, 1), frame(1), add(2, 1, 0), load(3, 2, 0)), 0)
}

// TestRows: what is needed through many steps, and what is used by what nobody needs alone.
func TestRows(t *testing.T) {
	row := []api.Node{num(7, 1), add(3, 7, 7), add(5, 3, 3), add(0, 5, 5), add(6, 0, 0), add(1, 6, 6)}
	needs(t, "to the end", one(9, back(1), row...), 7, 3, 5, 0, 6, 1)
	needs(t, "half", one(9, back(5), row...), 7, 3, 5)
	needs(t, "the first", one(9, back(7), row...), 7)
	becomes(t, "half", one(9, back(5), row...), one(9, back(5), row[:3]...))
	becomes(t, "the first", one(9, back(7), row...), one(9, back(7), row[:1]...))
	needs(t, "values that nobody makes", one(9, back(8), num(8, 1)), 8)
	// over parts that stand the other way round, in both of which something goes
	f := code(7,
		part(nil, on(2), num(0, 2), num(1, 3)),
		part([]int{2}, back(4), add(4, 3, 0), add(5, 4, 4)),
		part([]int{0}, on(1), add(3, 0, 1), add(6, 1, 0)))
	needs(t, "parts", f, 0, 1, 3, 4)
	becomes(t, "parts", f, code(7, part(nil, on(2), num(0, 2), num(1, 3)), part([]int{2}, back(4), add(4, 3, 0)), part([]int{0}, on(1), add(3, 0, 1))))
	f.Parts[1].End = back(1)
	becomes(t, "parts that have nothing any more", f, code(7, part(nil, on(2), num(1, 3)), part([]int{2}, back(1)), part([]int{0}, on(1))))
}

// loop answers code of a loop, of four phis: a count, what it returns, and two of which each is made by the other one.
func loop(end api.Term, nodes ...api.Node) api.Ir {
	l := phis(phi(3, 0, 7), phi(4, 0, 8), phi(5, 0, 6), phi(6, 1, 5))
	return code(12, part(nil, on(1), num(0, 0), num(1, 1), num(2, 9)), chosen([]int{0, 1}, l, when(api.Jlt, 7, 2, 1, 2), append([]api.Node{add(7, 3, 1), add(8, 4, 3)}, nodes...)...), part([]int{1}, end))
}

func TestPhis(t *testing.T) {
	f := loop(back(8))
	needs(t, "two that only need one another", f, 0, 1, 2, 3, 4, 7, 8)
	want := copied(f)
	want.Parts[1].Phis = want.Parts[1].Phis[:2]
	becomes(t, "two that only need one another", f, want)
	does(t, f, want, nil, 100)

	f = loop(back(1))
	needs(t, "a sum that only needs itself", f, 0, 1, 2, 3, 7)
	want = copied(f)
	want.Parts[1].Phis, want.Parts[1].Nodes = want.Parts[1].Phis[:1], want.Parts[1].Nodes[:1]
	becomes(t, "a sum that only needs itself", f, want)
	does(t, f, want, nil, 100)

	f = loop(back(5))
	needs(t, "one of two", f, 0, 1, 2, 3, 5, 6, 7)
	f.Parts[1].Phis[2].From[1] = 5
	needs(t, "one of two, without the other", f, 0, 1, 2, 3, 5, 7)
	f.Parts[2].End = back(6)
	needs(t, "the other of two", f, 0, 1, 2, 3, 5, 6, 7)
	f.Parts[1].Phis[3].From[1] = 6
	needs(t, "one that is itself", f, 0, 1, 2, 3, 6, 7)
	f.Parts[2].End = back(2)
	needs(t, "themselves alone", f, 0, 1, 2, 3, 7)

	needs(t, "used by a call", loop(back(0), call(9, 5, 6, 4, 0)), 0, 1, 2, 3, 4, 5, 6, 7, 8)
	needs(t, "used by a store", loop(back(0), frame(9), store(9, -8, 4)), 0, 1, 2, 3, 4, 7, 8, 9)
	needs(t, "used by what nobody needs", loop(back(0), add(9, 6, 4)), 0, 1, 2, 3, 7)
	// each From, of however many ways
	f = code(9,
		part(nil, when(api.Jeq, 0, 0, 1, 2), num(0, 1), num(1, 2), num(2, 3), num(3, 4)),
		part([]int{0}, when(api.Jeq, 0, 0, 3, 4)), part([]int{0}, on(4)), part([]int{1}, on(4)),
		chosen([]int{1, 2, 3}, phis(phi(4, 1, 2, 3), phi(5, 3, 1, 0), phi(6, 1, 1, 1)), back(4)))
	needs(t, "three ways", f, 0, 1, 2, 3, 4)
	f.Parts[4].End.A = 5
	needs(t, "three ways", f, 0, 1, 3, 5)
	f.Parts[4].End.A = 6
	needs(t, "three ways of one value", f, 0, 1, 6)
	want = copied(f)
	want.Parts[0].Nodes, want.Parts[4].Phis = want.Parts[0].Nodes[:2], want.Parts[4].Phis[2:]
	becomes(t, "three ways of one value", f, want)
	// a part of one way may have phis, and the first one those of none
	f = code(4, chosen(nil, phis(phi(0), phi(1)), on(1)), chosen([]int{0}, phis(phi(2, 0), phi(3, 1)), back(3)))
	needs(t, "of no way", f, 1, 3)
	becomes(t, "of no way", f, code(4, chosen(nil, phis(phi(1)), on(1)), chosen([]int{0}, phis(phi(3, 1)), back(3))))
}

// TestTraps: what goes is a load without a guard, though it would trap; all else that traps stays.
func TestTraps(t *testing.T) {
	l, m := sample()
	ends := func(f api.Ir) api.End {
		e, code := ir.Run(l, f, m, nil, 100)
		if code != api.OK {
			t.Fatalf("Run(%v): %d", f, code)
		}
		return e
	}
	wild := num(1, mem.Address(200, 0))
	gone := one(3, back(0), num(0, 5), wild, from(9, load(2, 1, 0)))
	g, _ := dead.Dead(gone)
	if e := ends(gone); e.Trap != api.TrapWild || e.At != 9 {
		t.Errorf("Run(%v) ends %s", gone, brief(e))
	}
	if e := ends(g); e.Kind != api.EndReturn || e.Value != 5 || e.Steps != 2 {
		t.Errorf("without the load that traps %v ends %s", g, brief(e))
	}
	for name, f := range map[string]api.Ir{
		"needed":  one(4, back(3), num(0, 5), wild, from(9, load(2, 1, 0)), add(3, 2, 0)),
		"guarded": one(3, back(0), num(0, 5), wild, from(9, guarded(load(2, 1, 0)))),
		"stored":  one(3, back(0), num(0, 5), wild, from(9, store(1, 0, 0))),
		"called":  one(3, back(0), num(0, 5), wild, from(9, call(2, 3, 1, 0))),
	} {
		stays(t, name, f)
		if e := does(t, f, f, nil, 100); e.Kind != api.EndTrap || e.At != 9 {
			t.Errorf("%s: Run(%v) ends %s", name, f, brief(e))
		}
	}
}

func TestCount(t *testing.T) {
	three := []api.Node{{}, {Op: -1}, {Op: 99}}
	for _, c := range []struct {
		name string
		code api.Ir
		want int
	}{
		{"nothing", api.Ir{}, 0},
		{"no parts, but values", code(77), 0},
		{"parts of nothing", code(3, api.Part{}, api.Part{}), 0},
		{"Ends and Pred", code(3, part([]int{4, 5}, when(1, 2, 3, 4, 5))), 0},
		{"nodes", one(0, back(0), three...), 3},
		{"phis", code(0, chosen(nil, phis(phi(1, 2, 3), phi(1), phi(4)), back(0))), 3},
		{"From and Args", code(0, chosen(nil, phis(phi(1, 2, 3)), back(0), call(1, 5, 2, 3, 4))), 2},
		{"all", code(-3, part(nil, back(0), three...), chosen(nil, phis(phi(0), phi(0)), on(9), three[:2]...), chosen(nil, phis(phi(5)), on(9))), 8},
		{"code that may be", loop(back(8)), 9},
	} {
		if got := dead.Count(c.code); got != c.want {
			t.Errorf("%s: Count(%v) = %d; want %d", c.name, c.code, got, c.want)
		}
	}
	g, _ := dead.Dead(loop(back(1)))
	if got := dead.Count(g); got != 5 {
		t.Errorf("Count of what stays = %d; want 5", got)
	}
}

// TestRefused: what layer 16 refuses, if only for what nobody needs.
func TestRefused(t *testing.T) {
	right := one(3, back(0), num(0, 5), add(1, 0, 0), num(2, 1))
	for name, change := range map[string]func(f *api.Ir){
		"no parts":                   func(f *api.Ir) { f.Parts = nil },
		"too few values":             func(f *api.Ir) { f.Values = 2 },
		"values below nought":        func(f *api.Ir) { f.Values = -1 },
		"too many values":            func(f *api.Ir) { f.Values = 65537 },
		"a node that is none":        func(f *api.Ir) { f.Parts[0].Nodes[2].Op = 8 },
		"an operation that is none":  func(f *api.Ir) { f.Parts[0].Nodes[1].Alu = 7 },
		"an End that is none":        func(f *api.Ir) { f.Parts[0].End.Op = 0 },
		"an End of nothing":          func(f *api.Ir) { f.Parts[0].End.A = -1 },
		"used ahead of its making":   func(f *api.Ir) { f.Parts[0].Nodes[1].A = 2 },
		"made twice":                 func(f *api.Ir) { f.Parts[0].Nodes[2].Id = 0 },
		"a part one can not come to": func(f *api.Ir) { f.Parts = append(f.Parts, part(nil, back(0))) },
		"a phi of too many":          func(f *api.Ir) { f.Values, f.Parts[0].Phis = 4, phis(phi(3, 0)) },
		"too many parts":             func(f *api.Ir) { f.Parts = make([]api.Part, 8193) },
	} {
		f := copied(right)
		change(&f)
		if ir.Check(f) == api.OK {
			t.Fatalf("%s may be", name)
		}
		if l := dead.Needed(f); len(l) > 0 {
			t.Errorf("%s: Needed(%v) = %v", name, f, l)
		}
		if g, e := dead.Dead(f); e != api.ErrIR || !reflect.DeepEqual(g, api.Ir{}) {
			t.Errorf("%s: Dead(%v) = %v, %d; want ErrIR", name, f, g, e)
		}
	}
	needs(t, "what is right", right, 0)
}
