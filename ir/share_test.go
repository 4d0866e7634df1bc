package ir_test

import (
	"reflect"
	"slices"
	"sync"
	"testing"

	"clevis/api"
	"clevis/ir"
)

// used answers code that leaves no part of a run unused: it sends, receives, puts, stores, and chooses.
func used() api.Ir {
	return code(9,
		part(nil, on(1), to(0, 3, 0), num(1, 20), call(2, 4, 0, 1), store(8, 0, 8, 1)),
		chosen(part([]int{0, 1}, when(api.Jne, 3, 4, 1, 2), call(4, 3, 0, 1), call(5, 2, 4)), phi(3, 1, 4), phi(8, 2, 3)),
		part([]int{1}, back(7), to(6, 3, 0), call(7, 4, 6, 8)),
	)
}

var answers = []uint64{0x0102030405060708, 5, 6, 5, 7, 8}

// TestRowsShareNothing: to write on one, behind its end too, changes no other, of the same answer or another.
func TestRowsShareNothing(t *testing.T) {
	f := looped()
	want := [][]int{{1}, {2, 3}, {1}, {}}
	one, other := ir.Succ(f), ir.Succ(f)
	for i, row := range one {
		row = row[:cap(row)]
		for j := range row {
			row[j] = 1000 + i
		}
	}
	for i, row := range one {
		for _, n := range row {
			if n != 1000+i {
				t.Fatalf("two rows share their numbers: %v", one)
			}
		}
	}
	for i := range one {
		one[i] = []int{77}
	}
	if !slices.EqualFunc(other, want, slices.Equal) || !slices.EqualFunc(ir.Succ(f), want, slices.Equal) || !reflect.DeepEqual(f, looped()) {
		t.Error("an answer shares what it holds")
	}
}

func TestUsesIsNewMemory(t *testing.T) {
	args := []int{3, 4, 5, 99}
	for _, n := range []api.Node{call(1, 5, args[:3]...), alu(1, api.Add, 3, 4), load(1, 8, 3, 0), store(8, 3, 0, 4)} {
		want := modelUses(n)
		want = slices.Clone(want)
		one, other := ir.Uses(n), ir.Uses(n)
		_ = append(one, 77)
		for i := range one {
			one[i] = 77
		}
		if !slices.Equal(other, want) || !slices.Equal(ir.Uses(n), want) || !slices.Equal(args, []int{3, 4, 5, 99}) {
			t.Errorf("Uses(%v) shares what it holds: %v", n, other)
		}
	}
}

// roomy answers the same code, with something behind the end of each list.
func roomy(f api.Ir) api.Ir {
	f = copied(f)
	for i := range f.Parts {
		p := &f.Parts[i]
		p.Pred = append(p.Pred, 0, 1)[:len(p.Pred)]
		p.Phis = append(p.Phis, phi(0, 0))[:len(p.Phis)]
		p.Nodes = append(p.Nodes, num(0, 7))[:len(p.Nodes)]
		for j := range p.Phis {
			x := &p.Phis[j]
			x.From = append(x.From, 0)[:len(x.From)]
		}
		for j := range p.Nodes {
			n := &p.Nodes[j]
			n.Args = append(n.Args, 0)[:len(n.Args)]
		}
	}
	f.Parts = append(f.Parts, part(nil, on(9)))[:len(f.Parts)]
	return f
}

// whole answers code with all that lies behind the ends of its lists.
func whole(f api.Ir) api.Ir {
	f.Parts = slices.Clone(f.Parts[:cap(f.Parts)])
	for i := range f.Parts {
		p := &f.Parts[i]
		p.Pred, p.Phis, p.Nodes = p.Pred[:cap(p.Pred)], slices.Clone(p.Phis[:cap(p.Phis)]), slices.Clone(p.Nodes[:cap(p.Nodes)])
		for j := range p.Phis {
			p.Phis[j].From = p.Phis[j].From[:cap(p.Phis[j].From)]
		}
		for j := range p.Nodes {
			p.Nodes[j].Args = p.Nodes[j].Args[:cap(p.Nodes[j].Args)]
		}
	}
	return f
}

// TestNothingIsChanged: nor is what lies behind the ends of lists, and it is not asked.
func TestNothingIsChanged(t *testing.T) {
	wrong := looped()
	wrong.Parts[3].End.A = 8
	for _, f := range []api.Ir{looped(), used(), wrong, {}, one(1, back(0), num(0, 5)), one(0, back(0)), code(0, part(nil, on(7)))} {
		g := roomy(f)
		before := copied(whole(g))
		if ir.Check(g) != ir.Check(f) || !slices.EqualFunc(ir.Succ(g), ir.Succ(f), slices.Equal) {
			t.Errorf("%v: what lies behind the end is asked", f)
		}
		for _, fuel := range []int{0, 3, 1000} {
			l, m := sample()
			numbers := append(slices.Clone(answers), 99)
			want, e := ir.Run(l, f, m, answers, fuel)
			got, code := ir.Run(l, g, m, numbers[:len(answers)], fuel)
			if code != e || !sameEnd(got, want) {
				t.Errorf("%v: what lies behind the end is done", f)
			}
			same, fresh := sample()
			if !slices.Equal(numbers, append(slices.Clone(answers), 99)) || !sameMemory(m, fresh) || !slices.Equal(l.Maps, same.Maps) {
				t.Errorf("%v: Run changed what it was handed", f)
			}
		}
		for _, p := range g.Parts {
			for _, n := range p.Nodes {
				ir.Uses(n)
			}
		}
		if !reflect.DeepEqual(copied(whole(g)), before) {
			t.Errorf("%v was changed", f)
		}
	}
}

func TestOnlyTheAnswersOfTheListAreGiven(t *testing.T) {
	l, m := sample()
	three := []uint64{5, 6, 7}
	if e, _ := ir.Run(l, one(2, back(1), call(0, 1), call(1, 1)), m, three[:1], 9); e.Value != 0 {
		t.Errorf("the second answer of one is %d", e.Value)
	}
}

func TestRunAnswersNewMemory(t *testing.T) {
	l, m := sample()
	all, e := ir.Run(l, used(), m, answers, 1000)
	if e != api.OK || all.Kind != api.EndReturn || len(all.Told) != 6 {
		t.Fatalf("%s, %d", brief(all), e)
	}
	for fuel := range all.Steps + 1 {
		before := clone(m)
		want := modelRun(l, used(), m, answers, fuel)
		one, _ := ir.Run(l, used(), m, answers, fuel)
		other, _ := ir.Run(l, used(), m, answers, fuel)
		for i := range one.Mem {
			_ = append(one.Mem[i], 255)
			clear(one.Mem[i])
			one.Mem[i] = nil
		}
		for _, told := range one.Told {
			clear(told.Args)
			clear(told.Data)
		}
		if !sameMemory(m, before) || !sameEnd(other, want) {
			t.Errorf("fuel %d: an answer shares something", fuel)
		}
	}
}

// TestAreasThatAreOne: areas that share their bytes are shared no more, nor lists of code that stand in several places changed.
func TestAreasThatAreOne(t *testing.T) {
	l := api.Layout{Context: api.Area{Size: 8, Write: true}, Maps: []api.Area{{Size: 8, Write: true}}}
	b := make([]byte, 8)
	f := one(4, back(3), context(0), num(1, 9), store(1, 0, 0, 1), to(2, 3, 0), load(3, 1, 2, 0))
	e, _ := ir.Run(l, f, api.Memory{b, make([]byte, 512), b}, nil, 9)
	if e.Kind != api.EndReturn || e.Value != 0 || e.Mem[0][0] != 9 || e.Mem[2][0] != 0 || b[0] != 0 {
		t.Errorf("two areas share their bytes: %s", brief(e))
	}
	shared := []int{0}
	g := code(2,
		part(nil, when(api.Jeq, 0, 0, 1, 2), num(0, 4)),
		chosen(part(shared, back(1)), phi(1, shared...)),
		part(shared, back(0), api.Node{Op: api.NodeStore, Id: -1, Size: 1, Args: shared}))
	if e, code := ir.Run(l, g, api.Memory{b, make([]byte, 512), b}, nil, 9); code != api.OK || e.Value != 4 || shared[0] != 0 {
		t.Errorf("of lists that are one: %s, %d", brief(e), code)
	}
}

// TestNothingIsKept: an answer hangs on no other code, and calls may be done at the same time.
func TestNothingIsKept(t *testing.T) {
	l, m := sample()
	f, g := looped(), used()
	want, other := modelRun(l, f, m, answers, 1000), modelRun(l, g, m, answers, 1000)
	var all sync.WaitGroup
	for i := range 64 {
		all.Go(func() {
			switch i % 4 {
			case 0:
				if got, e := ir.Run(l, f, m, answers, 1000); e != api.OK || !sameEnd(got, want) {
					t.Errorf("%s, %d", brief(got), e)
				}
			case 1:
				if got, e := ir.Run(l, g, m, answers, 1000); e != api.OK || !sameEnd(got, other) {
					t.Errorf("%s, %d", brief(got), e)
				}
			case 2:
				checks(t, "code that may be", f, api.OK)
			default:
				checks(t, "nothing", api.Ir{}, api.ErrIR)
			}
		})
	}
	all.Wait()
}
