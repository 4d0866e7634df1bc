package checks_test

import (
	"math"
	"math/rand/v2"
	"reflect"
	"slices"
	"sync"
	"testing"

	"clevis/api"
	"clevis/checks"
	"clevis/ir"
	"clevis/mem"
)

// busy has several of all that is a list, and guards that go and that stay: Pred, From, Args, phis, nodes.
func busy() (api.Ir, []api.Fact) {
	f := code(14,
		part(nil, when(api.Jlt, 0, 1, 1, 2), call(0, 1), num(1, mem.Address(3, 0)), call(2, 5, 0, 1, 0), from(1, load(3, 8, 1, 0)), from(2, store(8, 1, 8, 0))),
		part([]int{0}, when(api.Jne, 1, 1, 4, 3), call(4, 5, 3, 2, 1), from(3, load(5, 4, 1, 4))),
		part([]int{0}, on(3), num(6, 9)),
		chosen([]int{1, 2, 4}, phis(phi(7, 1, 0, 3), phi(8, 5, 6, 11)), when(api.Jgt, 7, 1, 4, 5), call(9, 5, 2, 8, 7), from(4, load(10, 1, 7, 8))),
		chosen([]int{1, 3}, phis(phi(12, 4, 9)), on(3), call(11, 5, 0, 1, 2), from(5, store(1, 1, 39, 12))),
		part([]int{3}, back(1)))
	return f, []api.Fact{{}, seen(3, 0, 0), seen(3, 8, 33), seen(3, 4, 4), seen(3, -1, 4), seen(3, 39, 39)}
}

func busyFreed() api.Ir {
	f, _ := busy()
	return but(f, 0, 3, 1, 1, 4, 1)
}

// roomy answers the same code, with something behind the end of each list.
func roomy(f api.Ir) api.Ir {
	f = copied(f)
	for i := range f.Parts {
		p := &f.Parts[i]
		p.Pred = append(p.Pred, 0, 1)[:len(p.Pred)]
		p.Phis = append(p.Phis, phi(0, 0))[:len(p.Phis)]
		p.Nodes = append(p.Nodes, from(1, load(0, 1, 0, 0)))[:len(p.Nodes)]
		for j := range p.Phis {
			x := &p.Phis[j]
			x.From = append(x.From, 0)[:len(x.From)]
		}
		for j := range p.Nodes {
			n := &p.Nodes[j]
			n.Args = append(n.Args, 0)[:len(n.Args)]
		}
	}
	f.Parts = append(f.Parts, part(nil, on(9), from(1, load(0, 1, 0, 0))))[:len(f.Parts)]
	return f
}

// whole answers code with all that lies behind the ends of its lists.
func whole(f api.Ir) api.Ir {
	f.Parts = slices.Clone(f.Parts[:cap(f.Parts)])
	for i := range f.Parts {
		p := &f.Parts[i]
		p.Pred, p.Phis, p.Nodes = p.Pred[:cap(p.Pred)], slices.Clone(p.Phis[:cap(p.Phis)]), slices.Clone(p.Nodes[:cap(p.Nodes)])
		for j := range p.Phis {
			p.Phis[j].From = p.Phis[j].From[:cap(p.Phis[j].From)]
		}
		for j := range p.Nodes {
			p.Nodes[j].Args = p.Nodes[j].Args[:cap(p.Nodes[j].Args)]
		}
	}
	return f
}

// TestNothingIsChanged: nor is what lies behind the ends of lists, and it is not asked.
func TestNothingIsChanged(t *testing.T) {
	full, facts := busy()
	for _, f := range []api.Ir{full, {}, one(1, back(0), num(0, 5)), one(0, back(0)), one(2, back(0), num(0, mem.Address(3, 0)), from(1, load(1, 1, 0, 0)))} {
		g := roomy(f)
		l := api.Layout{Context: sample.Context, Maps: append(slices.Clone(sample.Maps), api.Area{Size: 64, Write: true})[:3]}
		told := append(slices.Clone(facts), seen(3, 0, 0))[:len(facts)]
		before := copied(whole(g))
		got, n, e := checks.Free(l, g, told)
		other, count, fault := checks.Free(sample, f, facts)
		if n != count || e != fault || !sameCode(got, other) {
			t.Errorf("%v: what lies behind the end is asked", f)
		}
		if !reflect.DeepEqual(copied(whole(g)), before) || !slices.Equal(told, facts) || !slices.Equal(l.Maps, sample.Maps) {
			t.Errorf("%v was changed", f)
		}
		if told[:7][6] != seen(3, 0, 0) || l.Maps[:4][3].Size != 64 {
			t.Errorf("what lies behind the end was changed")
		}
	}
}

// lists answers all lists of numbers in code.
func lists(f api.Ir) [][]int {
	var all [][]int
	for _, p := range f.Parts {
		all = append(all, p.Pred)
		for _, x := range p.Phis {
			all = append(all, x.From)
		}
		for _, n := range p.Nodes {
			all = append(all, n.Args)
		}
	}
	return all
}

// scrawl writes over all of an answer, behind the ends of its lists too.
func scrawl(f api.Ir) {
	for _, l := range lists(f) {
		l = l[:cap(l)]
		for i := range l {
			l[i] = -77
		}
	}
	for i := range f.Parts {
		clear(f.Parts[i].Phis[:cap(f.Parts[i].Phis)])
		clear(f.Parts[i].Nodes[:cap(f.Parts[i].Nodes)])
	}
	clear(f.Parts[:cap(f.Parts)])
}

// TestAnswersAreNewMemory: they share nothing with what was handed in, nor with one another, nor do two lists of one.
func TestAnswersAreNewMemory(t *testing.T) {
	f, facts := busy()
	one, n, _ := checks.Free(sample, f, facts)
	other, _, _ := checks.Free(sample, f, facts)
	if n != 3 || !sameCode(one, busyFreed()) {
		t.Fatalf("Free(%v, %v) = %v, %d", f, facts, one, n)
	}
	for at, l := range lists(one) {
		for i := range l[:cap(l)] {
			l[:cap(l)][i] = 1000 + at
		}
	}
	for at, l := range lists(one) {
		for _, n := range l {
			if n != 1000+at {
				t.Fatalf("two lists share their numbers: %v", one)
			}
		}
	}
	scrawl(one)
	if g, _ := busy(); !sameCode(f, g) || !sameCode(other, busyFreed()) {
		t.Errorf("Free shares what it answers: %v, %v", f, other)
	}
}

// TestWhatStaysAsItIsIsNew: also of code of which no guard goes, with facts and without.
func TestWhatStaysAsItIsIsNew(t *testing.T) {
	_, facts := busy()
	for _, told := range [][]api.Fact{facts, nil} {
		f := busyFreed()
		g, n, _ := checks.Free(sample, f, told)
		if n != 0 || !sameCode(f, g) {
			t.Fatalf("Free(%v, %v) = %v, %d", f, told, g, n)
		}
		scrawl(g)
		if !sameCode(f, busyFreed()) {
			t.Errorf("Free shares what it answers: %v", f)
		}
	}
}

// TestListsThatAreOne: lists of the code that are one are several in the answer, also of nodes that have none.
func TestListsThatAreOne(t *testing.T) {
	shared := []int{0, 0}
	n := from(0, load(4, 8, 0, 0))
	n.Args = shared
	f := code(5,
		part(nil, when(api.Jeq, 0, 0, 1, 2), call(0, 1)),
		chosen(shared[:1], phis(phi(1, 0)), back(1), n),
		chosen(shared[:1], phis(api.Phi{Id: 2, From: shared[:1]}), back(2), api.Node{Op: api.NodeCall, Id: 3, Imm: 3, Args: shared}))
	g, gone, e := checks.Free(sample, f, []api.Fact{seen(2, 0, 0)})
	if e != api.OK || gone != 1 || !sameCode(g, but(f, 1, 0)) {
		t.Fatalf("Free(%v) = %v, %d, %d", f, g, gone, e)
	}
	for at, l := range lists(g) {
		for i := range l {
			l[i] = at
		}
	}
	for at, l := range lists(g) {
		for _, n := range l {
			if n != at {
				t.Errorf("two lists share their numbers: %v", g)
			}
		}
	}
	if shared[0] != 0 || shared[1] != 0 {
		t.Error("what was handed in is shared")
	}
}

// TestNothingIsKept: an answer hangs on no other code, layout or facts, and calls may be done at the same time.
func TestNothingIsKept(t *testing.T) {
	f, facts := busy()
	var all sync.WaitGroup
	for i := range 64 {
		all.Go(func() {
			switch i % 4 {
			case 0:
				if g, n, e := checks.Free(sample, f, facts); e != api.OK || n != 3 || !sameCode(g, busyFreed()) {
					t.Errorf("Free = %v, %d, %d", g, n, e)
				}
			case 1:
				if g, n, e := checks.Free(api.Layout{}, f, facts); e != api.OK || n != 0 || !sameCode(g, f) {
					t.Errorf("Free of an empty layout = %v, %d, %d", g, n, e)
				}
			case 2:
				if !checks.Proves(sample, facts[2], 7, true) || checks.Proves(sample, facts[2], 8, true) {
					t.Error("Proves is another")
				}
			default:
				if g, n, e := checks.Free(sample, api.Ir{}, facts); e != api.ErrIR || n != 0 || !reflect.DeepEqual(g, api.Ir{}) {
					t.Errorf("Free of nothing = %v, %d, %d", g, n, e)
				}
			}
		})
	}
	all.Wait()
}

// odd answers a number that is seldom right.
func odd(r *rand.Rand) int {
	return some(r, []int{0, 0, 0, 1, 1, 2, 3, 4, 5, 8, 16, -1, -2, 1 << 15, math.MaxInt, math.MinInt, int(r.Uint64())})
}

// junk answers code of numbers that are seldom right.
func junk(r *rand.Rand) api.Ir {
	n := func() int { return odd(r) }
	list := func() []int {
		var l []int
		for range r.IntN(3) {
			l = append(l, n())
		}
		return l
	}
	f := api.Ir{Values: n()}
	for range r.IntN(4) {
		p := api.Part{Pred: list(), End: api.Term{Op: api.TermOp(n()), Cond: n(), A: n(), B: n(), To: n(), Else: n()}}
		for range r.IntN(2) {
			p.Phis = append(p.Phis, api.Phi{Id: n(), From: list()})
		}
		for range r.IntN(4) {
			p.Nodes = append(p.Nodes, api.Node{Op: api.NodeOp(n()), Id: n(), Alu: n(), A: n(), B: n(), Imm: uint64(n()), Size: n(), Off: n(), Guard: r.IntN(2) == 0, Args: list(), At: n()})
		}
		f.Parts = append(f.Parts, p)
	}
	return f
}

// spoil changes a number somewhere in code.
func spoil(r *rand.Rand, f api.Ir) {
	x := some(r, []int{-1, 0, 1, 2, 5, f.Values, len(f.Parts), math.MaxInt, math.MinInt})
	p := &f.Parts[r.IntN(len(f.Parts))]
	switch r.IntN(4) {
	case 0:
		some(r, []func(){func() { p.End.To = x }, func() { p.End.Else = x }, func() { p.End.A = x }, func() { p.End.B = x }, func() { p.End.Op = api.TermOp(x) }, func() { p.End.Cond = x }})()
	case 1:
		if l := some(r, lists(f)); len(l) > 0 {
			l[r.IntN(len(l))] = x
		}
	default:
		if len(p.Nodes) > 0 {
			n := &p.Nodes[r.IntN(len(p.Nodes))]
			some(r, []func(){func() { n.Op = api.NodeOp(x) }, func() { n.Id = x }, func() { n.A = x }, func() { n.B = x }, func() { n.Off = x }, func() { n.At = x }, func() { n.At = x }, func() { n.Size = x }})()
		}
	}
}

// TestJunk: no call panics, whatever it is handed, and what layer 16 refuses is refused.
func TestJunk(t *testing.T) {
	r := chance()
	may := map[bool]int{}
	for i := range 30000 {
		f := junk(r)
		if i%2 == 0 {
			f = someCode(r)
			spoil(r, f)
		}
		l := api.Layout{Context: api.Area{Size: odd(r), Write: r.IntN(2) == 0}, Maps: make([]api.Area, r.IntN(11))}
		for at := range l.Maps {
			l.Maps[at] = api.Area{Size: 1 + r.IntN(64), Write: r.IntN(2) == 0}
			if r.IntN(16) == 0 {
				l.Maps[at].Size = odd(r)
			}
		}
		facts := someFacts(r)
		for range r.IntN(4) {
			x := api.Fact{Seen: r.IntN(2) == 0, Region: odd(r), Low: int64(odd(r)), High: int64(odd(r))}
			facts = append(facts, x)
			size, write := odd(r), r.IntN(2) == 0
			if got := checks.Proves(l, x, size, write); got != modelProves(l, x, size, write) {
				t.Fatalf("Proves(%v, %v, %d, %v) = %v", l, x, size, write, got)
			}
		}
		g, n, e := checks.Free(l, f, facts)
		want := ir.Check(f)
		may[want == api.OK]++
		if e != want || want != api.OK && (n != 0 || !reflect.DeepEqual(g, api.Ir{})) {
			t.Fatalf("Free(%v) = %v, %d, %d; want %d", f, g, n, e, want)
		}
		if other, count := modelFree(l, f, facts); want == api.OK && (n != count || !sameCode(g, other)) {
			t.Fatalf("Free(%v, %v, %v) = %v, %d; want %v, %d", l, f, facts, g, n, other, count)
		}
	}
	if may[true] < 3000 || may[false] < 15000 {
		t.Errorf("%v may be", may)
	}
}
