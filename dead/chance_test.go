package dead_test

import (
	"math"
	"math/rand/v2"
	"slices"
	"testing"

	"clevis/api"
	"clevis/dead"
	"clevis/dom"
	"clevis/fold"
	"clevis/ir"
	"clevis/mem"
	"clevis/ssa"
)

// chance is a row of numbers that is the same one each time.
func chance() *rand.Rand { return rand.New(rand.NewPCG(19, 190)) }

// some answers an element of a list.
func some[T any](r *rand.Rand, l []T) T { return l[r.IntN(len(l))] }

// conditions are all there are.
var conditions = []int{api.Jeq, api.Jgt, api.Jge, api.Jset, api.Jne, api.Jsgt, api.Jsge, api.Jlt, api.Jle, api.Jslt, api.Jsle}

// few are numbers, so few that often two are the same one.
var few = []uint64{0, 1, 2, 3, 5, 1 << 32, math.MaxUint64}

// someWays answers how parts lead to one another: each to at most two, none to the first, and one may come to all of them, in no order.
func someWays(r *rand.Rand, n int) [][]int {
	succ := make([][]int, n)
	met := []int{0}
	for _, i := range r.Perm(n - 1) {
		from := some(r, met)
		for len(succ[from]) > 1 {
			from = some(r, met)
		}
		succ[from] = append(succ[from], i+1)
		met = append(met, i+1)
	}
	for i := range succ {
		if n > 1 && len(succ[i]) < 2 && r.IntN(2) == 0 {
			if to := 1 + r.IntN(n-1); !slices.Contains(succ[i], to) {
				succ[i] = append(succ[i], to)
			}
		}
		r.Shuffle(len(succ[i]), func(a, b int) { succ[i][a], succ[i][b] = succ[i][b], succ[i][a] })
	}
	return succ
}

// author writes code by chance.
type author struct {
	*rand.Rand
	f    api.Ir
	free []int   // values that nothing makes yet
	seen [][]int // of each part what is made at its end
	at   int     // no two nodes are of one instruction
}

func (w *author) fresh() int {
	id := w.free[0]
	w.free = w.free[1:]
	return id
}

// someCode answers code that may be, of which some is needed by nobody.
func someCode(r *rand.Rand) api.Ir {
	succ := someWays(r, 1+r.IntN(9))
	w := &author{Rand: r, free: r.Perm(18 * (1 + len(succ))), seen: make([][]int, len(succ))}
	w.f = api.Ir{Parts: make([]api.Part, len(succ)), Values: len(w.free)}
	for i, row := range succ {
		for _, to := range row {
			w.f.Parts[to].Pred = append(w.f.Parts[to].Pred, i)
		}
	}
	up := dom.Idom(succ)
	for _, i := range dom.Order(succ) {
		if i > 0 {
			w.seen[i] = slices.Clone(w.seen[up[i]])
		}
		w.part(i, succ[i])
	}
	for _, p := range w.f.Parts {
		for _, x := range p.Phis {
			for way, from := range p.Pred {
				x.From[way] = w.use(w.seen[from])
			}
		}
	}
	return w.f
}

// use answers a value of a list, mostly one of the last.
func (w *author) use(l []int) int {
	if w.IntN(2) == 0 {
		return l[len(l)-1-w.IntN(min(6, len(l)))]
	}
	return some(w.Rand, l)
}

func (w *author) part(i int, row []int) {
	p := &w.f.Parts[i]
	for range w.IntN(5) {
		if i > 0 {
			p.Phis = append(p.Phis, phi(w.fresh(), make([]int, len(p.Pred))...))
			w.seen[i] = append(w.seen[i], p.Phis[len(p.Phis)-1].Id)
		}
	}
	if i == 0 {
		for _, n := range []api.Node{now(0), num(0, 0), num(0, mem.Address(3, 0)), num(0, mem.Address(3, 8)), context(0), frame(0)} {
			w.put(i, n)
		}
	}
	for range w.IntN(12) {
		w.put(i, w.node(w.seen[i]))
	}
	switch len(row) {
	case 0:
		p.End = back(w.use(w.seen[i]))
	case 1:
		p.End = on(row[0])
	case 2:
		p.End = when(some(w.Rand, conditions), w.use(w.seen[i]), w.use(w.seen[i]), row[0], row[1])
		p.End.Wide = w.IntN(2) == 0
	}
}

func (w *author) put(i int, n api.Node) {
	w.at++
	n.At = w.at
	if n.Op != api.NodeStore {
		n.Id = w.fresh()
		w.seen[i] = append(w.seen[i], n.Id)
	}
	w.f.Parts[i].Nodes = append(w.f.Parts[i].Nodes, n)
}

// node answers a node that uses some of the values of a list.
func (w *author) node(l []int) api.Node {
	a, b := w.use(l), w.use(l)
	place := w.f.Parts[0].Nodes[2+w.IntN(2)].Id // in a map that may be written
	if w.IntN(8) == 0 {
		place = a
	}
	switch w.IntN(16) {
	case 0, 1, 2:
		return some(w.Rand, []api.Node{num(0, some(w.Rand, few)), num(0, some(w.Rand, few)), context(0), frame(0)})
	case 3, 4:
		return load(0, place, w.IntN(20))
	case 5:
		return guarded(load(0, place, w.IntN(20)))
	case 6:
		n := store(place, w.IntN(20), b)
		n.Guard = w.IntN(2) == 0
		return n
	case 7:
		return some(w.Rand, []api.Node{now(0), call(0, 2, a), call(0, 5, a, b, a)})
	}
	return alu(0, 16*w.IntN(13), a, b)
}

func someAnswers(r *rand.Rand) []uint64 {
	var l []uint64
	for range r.IntN(8) {
		l = append(l, some(r, few))
	}
	return l
}

// tally counts what came about.
type tally struct {
	needed, not, phis, loads, nodes, astray int
	ends                                    map[api.EndKind]int
	traps                                   map[api.TrapKind]int
}

// count counts what went.
func (c *tally) count(f, g api.Ir) {
	for i, p := range f.Parts {
		c.phis += len(p.Phis) - len(g.Parts[i].Phis)
		c.nodes += len(p.Nodes) - len(g.Parts[i].Nodes)
		for _, n := range p.Nodes {
			if n.Op == api.NodeLoad && !slices.ContainsFunc(g.Parts[i].Nodes, func(m api.Node) bool { return m.At == n.At }) {
				c.loads++
			}
		}
	}
	for _, is := range dead.Needed(f) {
		if is {
			c.needed++
		} else {
			c.not++
		}
	}
}

// TestByChanceAgainstTheModel: what is needed, what stays, and that it does the same.
func TestByChanceAgainstTheModel(t *testing.T) {
	r := chance()
	c := &tally{ends: map[api.EndKind]int{}, traps: map[api.TrapKind]int{}}
	for range 7000 {
		f := someCode(r)
		if e := ir.Check(f); e != api.OK {
			t.Fatalf("%v may not be: %d", f, e)
		}
		before := copied(f)
		if got, want := dead.Needed(f), modelNeeded(f); !slices.Equal(got, want) {
			t.Fatalf("Needed(%v)\n= %v;\nwant %v", f, got, want)
		}
		g, e := dead.Dead(f)
		if e != api.OK || !sameCode(g, modelDead(f)) {
			t.Fatalf("Dead(%v)\n= %v, %d;\nwant %v", f, g, e, modelDead(f))
		}
		if !sameCode(f, before) {
			t.Fatalf("%v was changed: %v", before, f)
		}
		again, e := dead.Dead(g)
		if e != api.OK || !sameCode(again, g) || !slices.Equal(dead.Needed(g), dead.Needed(f)) {
			t.Fatalf("Dead(%v) = %v, %d, but all that is not needed is gone", g, again, e)
		}
		c.count(f, g)
		for range 3 {
			end := does(t, f, g, someAnswers(r), 300)
			c.ends[end.Kind]++
			c.traps[end.Trap]++
			if astray(f, end) {
				c.astray++
			}
		}
	}
	if c.needed < 50000 || c.not < 100000 || c.phis < 10000 || c.loads < 5000 || c.nodes < 50000 || c.astray < 200 {
		t.Errorf("too few: %+v", c)
	}
	if c.ends[api.EndReturn] < 5000 || c.ends[api.EndFuel] < 3000 || c.traps[api.TrapWild] < 1000 || c.traps[api.TrapGuard] < 1000 {
		t.Errorf("too few: %+v", c)
	}
}

// TestCountByChance: so many phis and nodes as are left out are fewer.
func TestCountByChance(t *testing.T) {
	r := chance()
	for range 3000 {
		f := someCode(r)
		all := 0
		for _, p := range f.Parts {
			for range p.Phis {
				all++
			}
			for range p.Nodes {
				all++
			}
		}
		if got := dead.Count(f); got != all {
			t.Fatalf("Count(%v) = %d; want %d", f, got, all)
		}
		g, _ := dead.Dead(f)
		for i, p := range g.Parts {
			all -= len(f.Parts[i].Phis) - len(p.Phis) + len(f.Parts[i].Nodes) - len(p.Nodes)
		}
		if got := dead.Count(g); got != all {
			t.Fatalf("Count(%v) = %d; want %d", g, got, all)
		}
	}
}

// TestWhatIsNotNeededMayBeAnything: another number in its place changes nothing of what is done.
func TestWhatIsNotNeededMayBeAnything(t *testing.T) {
	r := chance()
	changed, returned := 0, 0
	for range 5000 {
		f := someCode(r)
		needed := dead.Needed(f)
		g := copied(f)
		for i := range g.Parts {
			for j, n := range g.Parts[i].Nodes {
				pure := n.Op == api.NodeNum || n.Op == api.NodeContext || n.Op == api.NodeFrame || n.Op == api.NodeAlu
				if pure && !needed[n.Id] {
					g.Parts[i].Nodes[j] = from(n.At, num(n.Id, some(r, few)))
					changed++
				}
			}
			for _, x := range g.Parts[i].Phis {
				if !needed[x.Id] {
					for way := range x.From {
						x.From[way] = g.Parts[0].Nodes[r.IntN(6)].Id
						changed++
					}
				}
			}
		}
		h, _ := dead.Dead(g)
		k, _ := dead.Dead(f)
		if !sameCode(h, k) {
			t.Fatalf("Dead(%v) = %v, though Dead(%v) = %v", g, h, f, k)
		}
		if does(t, f, h, someAnswers(r), 300).Kind == api.EndReturn {
			returned++
		}
	}
	if changed < 30000 || returned < 1000 {
		t.Errorf("only %d changed, %d returned", changed, returned)
	}
}

// someProgram answers a program that reckons with few numbers, and goes round, or on.
func someProgram(r *rand.Rand) []api.Ins {
	p := []api.Ins{{Op: 0x18, Dst: 6, Imm: 0, Wide: mem.Address(3, 0)}, {}, {Op: 0x85, Imm: 1}}
	for d := range 6 {
		p = append(p, api.Ins{Op: 0xb7, Dst: (d + 1) % 6, Imm: r.IntN(3)})
	}
	if r.IntN(2) == 0 {
		p[3] = api.Ins{Op: 0x79, Dst: 1, Src: 6}
	}
	first := len(p)
	for range 2 + r.IntN(20) {
		d, s, imm := r.IntN(6), r.IntN(6), r.IntN(3)
		switch r.IntN(7) {
		case 0, 1:
			p = append(p, api.Ins{Op: some(r, conditions) + some(r, []int{5, 6}), Dst: d, Imm: imm})
		case 2:
			p = append(p, api.Ins{Op: 0x7b, Dst: 6, Src: s, Off: 8 * r.IntN(8)})
		case 3:
			p = append(p, api.Ins{Op: 0x79, Dst: d, Src: 6, Off: 8 * r.IntN(8)})
		case 4:
			p = append(p, api.Ins{Op: some(r, []int{0x07, 0x17, 0x27, 0x57, 0xb7, 0xb4, 0x37}), Dst: d, Imm: imm})
		default:
			p = append(p, api.Ins{Op: 8 + 16*some(r, []int{0, 1, 2, 3, 4, 5, 10, 11, 11}) + some(r, []int{4, 7}), Dst: d, Src: s})
		}
	}
	p = append(p, api.Ins{Op: 0x95})
	for i := first; i < len(p)-1; i++ {
		if p[i].Op&7 == api.ClsJmp || p[i].Op&7 == api.ClsJmp32 {
			p[i].Off = first + r.IntN(len(p)-first) - i - 1
		}
	}
	return p
}

// TestPrograms: what was built of a program, as it is and folded, does the same without what is dead.
func TestPrograms(t *testing.T) {
	r := chance()
	fewer, folded, returned := 0, 0, 0
	for range 5000 {
		p := someProgram(r)
		f, e := ssa.Build(p)
		if e != api.OK {
			t.Fatalf("%v: %d", p, e)
		}
		g, _ := dead.Dead(f)
		h, _ := fold.Fold(f)
		h, e = dead.Dead(h)
		if e != api.OK || !sameCode(g, modelDead(f)) || ir.Check(g) != api.OK || ir.Check(h) != api.OK {
			t.Fatalf("Dead(%v) = %v; folded %v, %d", f, g, h, e)
		}
		fewer += dead.Count(f) - dead.Count(g)
		folded += dead.Count(g) - dead.Count(h)
		answers := someAnswers(r)
		if does(t, f, g, answers, 500).Kind == api.EndReturn {
			returned++
		}
		does(t, f, h, answers, 500)
	}
	if fewer < 20000 || folded < 10000 || returned < 2000 {
		t.Errorf("%d phis and nodes less, folded %d, %d returned", fewer, folded, returned)
	}
}
