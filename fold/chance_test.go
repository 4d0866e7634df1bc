package fold_test

import (
	"math"
	"math/rand/v2"
	"slices"
	"testing"

	"clevis/api"
	"clevis/dom"
	"clevis/fold"
	"clevis/ir"
	"clevis/mem"
	"clevis/ssa"
)

// chance is a row of numbers that is the same one each time.
func chance() *rand.Rand { return rand.New(rand.NewPCG(18, 180)) }

// some answers an element of a list.
func some[T any](r *rand.Rand, l []T) T { return l[r.IntN(len(l))] }

// few are numbers, so few that often two are the same one.
var few = []uint64{0, 0, 1, 2, 5, 1 << 32, math.MaxUint64}

// someWays answers how parts lead to one another: each to at most two, none to the first, and one may come to all of them, in no order.
func someWays(r *rand.Rand, n int) [][]int {
	succ := make([][]int, n)
	met := []int{0}
	for _, i := range r.Perm(n - 1) {
		from := some(r, met)
		for len(succ[from]) > 1 {
			from = some(r, met)
		}
		succ[from] = append(succ[from], i+1)
		met = append(met, i+1)
	}
	for i := range succ {
		if n > 1 && len(succ[i]) < 2 && r.IntN(2) == 0 {
			if to := 1 + r.IntN(n-1); !slices.Contains(succ[i], to) {
				succ[i] = append(succ[i], to)
			}
		}
		r.Shuffle(len(succ[i]), func(a, b int) { succ[i][a], succ[i][b] = succ[i][b], succ[i][a] })
	}
	return succ
}

// author writes code by chance.
type author struct {
	*rand.Rand
	f    api.Ir
	free []int   // values that nothing makes yet
	seen [][]int // of each part what is made at its end
}

func (w *author) fresh() int {
	id := w.free[0]
	w.free = w.free[1:]
	return id
}

// someCode answers code that may be, of which much is known.
func someCode(r *rand.Rand) api.Ir {
	succ := someWays(r, 1+r.IntN(9))
	w := &author{Rand: r, free: r.Perm(16 * (1 + len(succ))), seen: make([][]int, len(succ))}
	w.f = api.Ir{Parts: make([]api.Part, len(succ)), Values: len(w.free)}
	for i, row := range succ {
		for _, to := range row {
			w.f.Parts[to].Pred = append(w.f.Parts[to].Pred, i)
		}
	}
	up := dom.Idom(succ)
	for _, i := range dom.Order(succ) {
		if i > 0 {
			w.seen[i] = slices.Clone(w.seen[up[i]])
		}
		w.part(i, succ[i])
	}
	for _, p := range w.f.Parts {
		for _, x := range p.Phis {
			for way, from := range p.Pred {
				x.From[way] = w.use(w.seen[from])
			}
			if len(x.From) > 0 && r.IntN(3) > 0 { // mostly of one number
				w.agree(x, p.Pred)
			}
		}
	}
	return w.f
}

// agree lets a phi choose one value, or itself, where it can.
func (w *author) agree(x api.Phi, pred []int) {
	one := w.use(w.seen[pred[0]])
	for way, from := range pred {
		for _, id := range []int{one, x.Id} {
			if slices.Contains(w.seen[from], id) {
				x.From[way] = id
				break
			}
		}
	}
}

// use answers a value of a list, mostly one of the last.
func (w *author) use(l []int) int {
	if w.IntN(2) == 0 {
		return l[len(l)-1-w.IntN(min(6, len(l)))]
	}
	return some(w.Rand, l)
}

func (w *author) part(i int, row []int) {
	p := &w.f.Parts[i]
	for range w.IntN(4) {
		if i > 0 {
			p.Phis = append(p.Phis, phi(w.fresh(), make([]int, len(p.Pred))...))
			w.seen[i] = append(w.seen[i], p.Phis[len(p.Phis)-1].Id)
		}
	}
	if i == 0 {
		for _, n := range []api.Node{now(0), num(0, 0), num(0, mem.Address(3, 0)), num(0, mem.Address(3, 8)), context(0), frame(0)} {
			w.put(i, n)
		}
	}
	for range w.IntN(10) {
		w.put(i, w.node(w.seen[i]))
	}
	a, b := w.use(w.seen[i]), w.use(w.seen[i])
	switch len(row) {
	case 0:
		p.End = back(a)
	case 1:
		p.End = on(row[0])
	case 2:
		if w.IntN(4) == 0 {
			b = a
		}
		p.End = when(some(w.Rand, conditions), a, b, row[0], row[1])
		p.End.Wide = w.IntN(2) == 0
	}
}

func (w *author) put(i int, n api.Node) {
	n.At = w.IntN(4096)
	if n.Op != api.NodeStore {
		n.Id = w.fresh()
		w.seen[i] = append(w.seen[i], n.Id)
	}
	w.f.Parts[i].Nodes = append(w.f.Parts[i].Nodes, n)
}

// node answers a node that uses some of the values of a list.
func (w *author) node(l []int) api.Node {
	a, b := w.use(l), w.use(l)
	place := w.f.Parts[0].Nodes[2+w.IntN(2)].Id // in a map that may be written
	switch w.IntN(12) {
	case 0, 1:
		return num(0, some(w.Rand, few))
	case 2:
		return load(0, some(w.Rand, []int{place, place, place, a}), w.IntN(20))
	case 3:
		return store(some(w.Rand, []int{place, place, place, a}), w.IntN(20), b)
	case 4:
		return some(w.Rand, []api.Node{now(0), call(0, 2, a), call(0, 5, a, b, a)})
	case 5:
		return alu(0, some(w.Rand, []int{api.Sub, api.Xor}), w.IntN(2) == 0, a, a)
	}
	return alu(0, 16*w.IntN(13), w.IntN(2) == 0, a, b)
}

func someAnswers(r *rand.Rand) []uint64 {
	var l []uint64
	for range r.IntN(8) {
		l = append(l, some(r, few))
	}
	return l
}

// TestByChanceAgainstTheModel: what is known, what folded code is, and that it does the same.
func TestByChanceAgainstTheModel(t *testing.T) {
	r := chance()
	ends, known, open, gone, changed := map[api.EndKind]int{}, 0, 0, 0, 0
	for range 15000 {
		f := someCode(r)
		if e := ir.Check(f); e != api.OK {
			t.Fatalf("%v may not be: %d", f, e)
		}
		before := copied(f)
		want := modelKnown(f)
		if got := fold.Known(f); !slices.Equal(got, want) {
			t.Fatalf("Known(%v)\n= %v;\nwant %v", f, got, want)
		}
		for _, x := range want {
			if x == unknown {
				open++
			} else {
				known++
			}
		}
		g, e := fold.Fold(f)
		if e != api.OK || !sameCode(g, modelFold(f)) {
			t.Fatalf("Fold(%v)\n= %v, %d;\nwant %v", f, g, e, modelFold(f))
		}
		if !sameCode(f, before) {
			t.Fatalf("%v was changed: %v", before, f)
		}
		gone += len(f.Parts) - len(g.Parts)
		if !sameCode(f, g) {
			changed++
		}
		for range 3 {
			ends[does(t, f, g, someAnswers(r), 300).Kind]++
		}
	}
	if known < 100000 || open < 100000 || gone < 10000 || changed < 10000 || ends[api.EndReturn] < 10000 || ends[api.EndTrap] < 3000 {
		t.Errorf("%d known, %d not, %d parts left out, %d changed, ended %v", known, open, gone, changed, ends)
	}
}

// mark is what stands ahead of a value's number in the first argument of a call that tells of it.
const mark = 0xfedc << 48

// telling answers code that calls a helper with each value as soon as that is made.
func telling(f api.Ir) api.Ir {
	f = copied(f)
	for i := range f.Parts {
		p := &f.Parts[i]
		var made []int
		for _, x := range p.Phis {
			made = append(made, x.Id)
		}
		var l []api.Node
		for at := -1; at < len(p.Nodes); at++ {
			if at >= 0 {
				l = append(l, p.Nodes[at])
				if p.Nodes[at].Op != api.NodeStore {
					made = []int{p.Nodes[at].Id}
				}
			}
			for _, id := range made {
				l = append(l, num(f.Values, mark+uint64(id)), call(f.Values+1, 5, f.Values, id, id))
				f.Values += 2
			}
			made = nil
		}
		p.Nodes = l
	}
	return f
}

// TestKnownIsWhatItIs: in every run each value that is known is that, whenever it is made.
func TestKnownIsWhatItIs(t *testing.T) {
	r := chance()
	l, m := sample()
	asked := 0
	for range 5000 {
		f := someCode(r)
		g := telling(f)
		known := fold.Known(f)
		if !slices.Equal(known, fold.Known(g)[:f.Values]) {
			t.Fatalf("of %v other numbers are known than of %v", f, g)
		}
		e, code := ir.Run(l, g, m, someAnswers(r), 1000)
		if code != api.OK {
			t.Fatalf("%v: %d", g, code)
		}
		for _, told := range e.Told {
			if told.Helper != 5 || told.Args[0]>>48 != mark>>48 {
				continue
			}
			id := told.Args[0] & (1<<48 - 1)
			if known[id] != unknown {
				asked++
			}
			if known[id] != unknown && known[id] != is(told.Args[1]) {
				t.Fatalf("%v: value %d is known as %v, but is %d", f, id, known[id], told.Args[1])
			}
		}
	}
	if asked < 50000 {
		t.Errorf("only %d values were asked for", asked)
	}
}

// someProgram answers a program that reckons with few numbers, and goes round, or on.
func someProgram(r *rand.Rand) []api.Ins {
	p := []api.Ins{{Op: 0x18, Dst: 6, Imm: 0, Wide: mem.Address(3, 0)}, {}, {Op: 0x85, Imm: 1}}
	for d := range 6 {
		p = append(p, api.Ins{Op: 0xb7, Dst: (d + 1) % 6, Imm: r.IntN(3)})
	}
	if r.IntN(2) == 0 {
		p[3] = api.Ins{Op: 0x79, Dst: 1, Src: 6}
	}
	from := len(p)
	for range 2 + r.IntN(20) {
		d, s, imm := r.IntN(6), r.IntN(6), r.IntN(3)
		switch r.IntN(6) {
		case 0, 1:
			p = append(p, api.Ins{Op: some(r, conditions) + some(r, []int{5, 6}), Dst: d, Imm: imm})
		case 2:
			p = append(p, api.Ins{Op: 0x7b, Dst: 6, Src: s, Off: 8 * r.IntN(8)})
		case 3:
			p = append(p, api.Ins{Op: some(r, []int{0x07, 0x17, 0x27, 0x57, 0xb7, 0xb4, 0x37}), Dst: d, Imm: imm})
		default:
			p = append(p, api.Ins{Op: 8 + 16*some(r, []int{0, 1, 2, 3, 4, 5, 10, 11, 11}) + some(r, []int{4, 7}), Dst: d, Src: s})
		}
	}
	p = append(p, api.Ins{Op: 0x95})
	for i := from; i < len(p)-1; i++ {
		if p[i].Op&7 == api.ClsJmp || p[i].Op&7 == api.ClsJmp32 {
			p[i].Off = from + r.IntN(len(p)-from) - i - 1
		}
	}
	return p
}

// TestPrograms: what was built of a program, folded again and again till nothing changes, does the same.
func TestPrograms(t *testing.T) {
	r := chance()
	shorter, returned := 0, 0
	for range 6000 {
		p := someProgram(r)
		f, e := ssa.Build(p)
		if e != api.OK {
			t.Fatalf("%v: %d", p, e)
		}
		for g := f; ; {
			h, e := fold.Fold(g)
			if e != api.OK || !sameCode(h, modelFold(g)) || ir.Check(h) != api.OK {
				t.Fatalf("Fold(%v) = %v, %d; want %v", g, h, e, modelFold(g))
			}
			if does(t, f, h, someAnswers(r), 500).Kind == api.EndReturn {
				returned++
			}
			if sameCode(g, h) {
				shorter += len(f.Parts) - len(h.Parts)
				break
			}
			g = h
		}
	}
	if shorter < 5000 || returned < 5000 {
		t.Errorf("%d parts less, %d returned", shorter, returned)
	}
}
