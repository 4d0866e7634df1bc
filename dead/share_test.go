package dead_test

import (
	"math"
	"math/rand/v2"
	"reflect"
	"slices"
	"sync"
	"testing"

	"clevis/api"
	"clevis/dead"
	"clevis/ir"
)

// busy has several of all that is a list, some that go and some that stay: Pred, From, Args, phis, nodes.
func busy() api.Ir {
	return code(16,
		part(nil, when(api.Jlt, 0, 1, 1, 2), now(0), num(1, 5), call(2, 5, 0, 1, 0), add(3, 1, 1), num(14, 7)),
		part([]int{0}, when(api.Jne, 1, 1, 4, 3), call(4, 5, 3, 2, 1), num(5, 9)),
		part([]int{0}, on(3), num(6, 9), add(15, 14, 14)),
		chosen([]int{1, 2, 4}, phis(phi(7, 1, 0, 3), phi(8, 5, 6, 11), phi(13, 2, 1, 3)), when(api.Jgt, 7, 1, 4, 5), call(9, 5, 2, 13, 7), guarded(load(10, 0, 8))),
		chosen([]int{1, 3}, phis(phi(12, 4, 9)), on(3), call(11, 5, 0, 1, 2)),
		part([]int{3}, back(1)))
}

// roomy answers the same code, with something behind the end of each list.
func roomy(f api.Ir) api.Ir {
	f = copied(f)
	for i := range f.Parts {
		p := &f.Parts[i]
		p.Pred = append(p.Pred, 0, 1)[:len(p.Pred)]
		p.Phis = append(p.Phis, phi(0, 0))[:len(p.Phis)]
		p.Nodes = append(p.Nodes, num(0, 7))[:len(p.Nodes)]
		for j := range p.Phis {
			x := &p.Phis[j]
			x.From = append(x.From, 0)[:len(x.From)]
		}
		for j := range p.Nodes {
			n := &p.Nodes[j]
			n.Args = append(n.Args, 0)[:len(n.Args)]
		}
	}
	f.Parts = append(f.Parts, part(nil, on(9)))[:len(f.Parts)]
	return f
}

// whole answers code with all that lies behind the ends of its lists.
func whole(f api.Ir) api.Ir {
	f.Parts = slices.Clone(f.Parts[:cap(f.Parts)])
	for i := range f.Parts {
		p := &f.Parts[i]
		p.Pred, p.Phis, p.Nodes = p.Pred[:cap(p.Pred)], slices.Clone(p.Phis[:cap(p.Phis)]), slices.Clone(p.Nodes[:cap(p.Nodes)])
		for j := range p.Phis {
			p.Phis[j].From = p.Phis[j].From[:cap(p.Phis[j].From)]
		}
		for j := range p.Nodes {
			p.Nodes[j].Args = p.Nodes[j].Args[:cap(p.Nodes[j].Args)]
		}
	}
	return f
}

// TestNothingIsChanged: nor is what lies behind the ends of lists, and it is not asked.
func TestNothingIsChanged(t *testing.T) {
	for _, f := range []api.Ir{busy(), {}, one(1, back(0), num(0, 5)), one(0, back(0)), one(2, back(0), num(0, 4), add(1, 0, 0)), loop(back(1))} {
		g := roomy(f)
		before := copied(whole(g))
		needed, want := dead.Needed(g), dead.Needed(f)
		got, e := dead.Dead(g)
		other, code := dead.Dead(f)
		if !slices.Equal(needed, want) || e != code || !sameCode(got, other) || dead.Count(f) != dead.Count(g) {
			t.Errorf("%v: what lies behind the end is asked", f)
		}
		if !reflect.DeepEqual(copied(whole(g)), before) {
			t.Errorf("%v was changed", f)
		}
	}
}

// lists answers all lists of numbers in code.
func lists(f api.Ir) [][]int {
	var all [][]int
	for _, p := range f.Parts {
		all = append(all, p.Pred)
		for _, x := range p.Phis {
			all = append(all, x.From)
		}
		for _, n := range p.Nodes {
			all = append(all, n.Args)
		}
	}
	return all
}

// scrawl writes over all of an answer, behind the ends of its lists too.
func scrawl(f api.Ir) {
	for _, l := range lists(f) {
		l = l[:cap(l)]
		for i := range l {
			l[i] = -77
		}
	}
	for i := range f.Parts {
		clear(f.Parts[i].Phis[:cap(f.Parts[i].Phis)])
		clear(f.Parts[i].Nodes[:cap(f.Parts[i].Nodes)])
	}
	clear(f.Parts[:cap(f.Parts)])
}

// TestAnswersAreNewMemory: they share nothing with what was handed in, nor with one another, nor do two lists of one.
func TestAnswersAreNewMemory(t *testing.T) {
	f := busy()
	one, _ := dead.Dead(f)
	other, _ := dead.Dead(f)
	if len(one.Parts) != 6 || len(one.Parts[3].Pred) != 3 || len(one.Parts[3].Phis) != 2 || dead.Count(f)-dead.Count(one) != 6 {
		t.Fatalf("Dead(%v) = %v", f, one)
	}
	for at, l := range lists(one) {
		for i := range l[:cap(l)] {
			l[:cap(l)][i] = 1000 + at
		}
	}
	for at, l := range lists(one) {
		for _, n := range l {
			if n != 1000+at {
				t.Fatalf("two lists share their numbers: %v", one)
			}
		}
	}
	scrawl(one)
	if !sameCode(f, busy()) || !sameCode(other, modelDead(f)) {
		t.Errorf("Dead shares what it answers: %v, %v", f, other)
	}
	first, second := dead.Needed(f), dead.Needed(f)
	clear(first[:cap(first)])
	if !slices.Equal(second, modelNeeded(f)) || !slices.Equal(dead.Needed(f), modelNeeded(f)) {
		t.Errorf("Needed shares what it answers: %v", second)
	}
}

// TestWhatStaysAsItIsIsNew: also of code of which nothing goes, and of parts and lists of which nothing goes.
func TestWhatStaysAsItIsIsNew(t *testing.T) {
	f, _ := dead.Dead(busy())
	before := copied(f)
	g, _ := dead.Dead(f)
	if !sameCode(f, g) {
		t.Fatalf("Dead(%v) = %v", f, g)
	}
	scrawl(g)
	if !sameCode(f, before) {
		t.Errorf("Dead shares what it answers: %v", f)
	}
}

// TestListsThatAreOne: lists of the code that are one are several in the answer.
func TestListsThatAreOne(t *testing.T) {
	shared := []int{0, 0}
	f := code(4,
		part(nil, when(api.Jeq, 0, 0, 1, 2), now(0)),
		chosen(shared[:1], phis(phi(1, 0)), back(1)),
		chosen(shared[:1], phis(api.Phi{Id: 2, From: shared[:1]}), back(2), api.Node{Op: api.NodeCall, Id: 3, Imm: 3, Args: shared}))
	g, e := dead.Dead(f)
	if e != api.OK || !sameCode(g, f) {
		t.Fatalf("Dead(%v) = %v, %d", f, g, e)
	}
	for at, l := range lists(g) {
		for i := range l {
			l[i] = at
		}
	}
	for at, l := range lists(g) {
		for _, n := range l {
			if n != at {
				t.Errorf("two lists share their numbers: %v", g)
			}
		}
	}
	if shared[0] != 0 || shared[1] != 0 {
		t.Error("what was handed in is shared")
	}
}

// TestNothingIsKept: an answer hangs on no other code, and calls may be done at the same time.
func TestNothingIsKept(t *testing.T) {
	f, g := busy(), loop(back(1))
	needed, lean, other := modelNeeded(f), modelDead(f), modelDead(g)
	var all sync.WaitGroup
	for i := range 64 {
		all.Go(func() {
			switch i % 4 {
			case 0:
				if got := dead.Needed(f); !slices.Equal(got, needed) {
					t.Errorf("Needed = %v", got)
				}
			case 1:
				if got, e := dead.Dead(f); e != api.OK || !sameCode(got, lean) {
					t.Errorf("Dead = %v, %d", got, e)
				}
			case 2:
				if got, e := dead.Dead(g); e != api.OK || !sameCode(got, other) || dead.Count(g) != 9 {
					t.Errorf("Dead = %v, %d; Count = %d", got, e, dead.Count(g))
				}
			default:
				if got, e := dead.Dead(api.Ir{}); e != api.ErrIR || !reflect.DeepEqual(got, api.Ir{}) || len(dead.Needed(api.Ir{})) > 0 {
					t.Errorf("Dead of nothing = %v, %d", got, e)
				}
			}
		})
	}
	all.Wait()
}

// junk answers code of numbers that are seldom right.
func junk(r *rand.Rand) api.Ir {
	n := func() int {
		return some(r, []int{0, 0, 0, 1, 1, 2, 3, 4, 5, 8, 16, -1, -2, 1 << 15, math.MaxInt, math.MinInt, int(r.Uint64())})
	}
	list := func() []int {
		var l []int
		for range r.IntN(3) {
			l = append(l, n())
		}
		return l
	}
	f := api.Ir{Values: n()}
	for range r.IntN(4) {
		p := api.Part{Pred: list(), End: api.Term{Op: api.TermOp(n()), Cond: n(), A: n(), B: n(), To: n(), Else: n()}}
		for range r.IntN(2) {
			p.Phis = append(p.Phis, api.Phi{Id: n(), From: list()})
		}
		for range r.IntN(4) {
			p.Nodes = append(p.Nodes, api.Node{Op: api.NodeOp(n()), Id: n(), Alu: n(), A: n(), B: n(), Imm: uint64(n()), Size: n(), Off: n(), Args: list(), At: n()})
		}
		f.Parts = append(f.Parts, p)
	}
	return f
}

// spoil changes a number somewhere in code.
func spoil(r *rand.Rand, f api.Ir) {
	x := some(r, []int{-1, 0, 1, 2, 5, f.Values, len(f.Parts), math.MaxInt, math.MinInt})
	p := &f.Parts[r.IntN(len(f.Parts))]
	switch r.IntN(4) {
	case 0:
		some(r, []func(){func() { p.End.To = x }, func() { p.End.Else = x }, func() { p.End.A = x }, func() { p.End.B = x }, func() { p.End.Op = api.TermOp(x) }, func() { p.End.Cond = x }})()
	case 1:
		if l := some(r, lists(f)); len(l) > 0 {
			l[r.IntN(len(l))] = x
		}
	default:
		if len(p.Nodes) > 0 {
			n := &p.Nodes[r.IntN(len(p.Nodes))]
			some(r, []func(){func() { n.Op = api.NodeOp(x) }, func() { n.Id = x }, func() { n.A = x }, func() { n.B = x }, func() { n.Alu = x }, func() { n.Imm = uint64(x) }, func() { n.Size = x }})()
		}
	}
}

// TestJunk: no call panics, whatever it is handed, and what layer 16 refuses is refused, but counted.
func TestJunk(t *testing.T) {
	r := chance()
	may := map[bool]int{}
	for i := range 30000 {
		var f api.Ir
		if i%2 == 0 {
			f = junk(r)
		} else {
			f = someCode(r)
			spoil(r, f)
		}
		want := ir.Check(f)
		may[want == api.OK]++
		needed := dead.Needed(f)
		g, e := dead.Dead(f)
		all := 0
		for _, p := range f.Parts {
			all += len(p.Phis) + len(p.Nodes)
		}
		switch {
		case dead.Count(f) != all:
			t.Fatalf("Count(%v) = %d", f, dead.Count(f))
		case e != want || want != api.OK && (len(needed) > 0 || !reflect.DeepEqual(g, api.Ir{})):
			t.Fatalf("of %v: Needed %v; Dead %v, %d", f, needed, g, e)
		case want == api.OK && (!slices.Equal(needed, modelNeeded(f)) || !sameCode(g, modelDead(f))):
			t.Fatalf("of %v: Needed %v; Dead %v; want %v, %v", f, needed, g, modelNeeded(f), modelDead(f))
		}
	}
	if may[true] < 3000 || may[false] < 15000 {
		t.Errorf("%v may be", may)
	}
}
