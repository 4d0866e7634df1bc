package checks_test

import (
	"math"
	"math/rand/v2"
	"slices"
	"testing"

	"clevis/api"
	"clevis/checks"
	"clevis/dom"
	"clevis/ir"
	"clevis/mem"
)

// chance is a row of numbers that is the same one each time.
func chance() *rand.Rand { return rand.New(rand.NewPCG(20, 200)) }

// some answers an element of a list.
func some[T any](r *rand.Rand, l []T) T { return l[r.IntN(len(l))] }

// conditions are all there are.
var conditions = []int{api.Jeq, api.Jgt, api.Jge, api.Jset, api.Jne, api.Jsgt, api.Jsge, api.Jlt, api.Jle, api.Jslt, api.Jsle}

// instructions are those that nodes are of: a few, so that several nodes are of one.
const instructions = 24

// someWays answers how parts lead to one another: each to at most two, none to the first, and one may come to all of them, in no order.
func someWays(r *rand.Rand, n int) [][]int {
	succ := make([][]int, n)
	met := []int{0}
	for _, i := range r.Perm(n - 1) {
		from := some(r, met)
		for len(succ[from]) > 1 {
			from = some(r, met)
		}
		succ[from] = append(succ[from], i+1)
		met = append(met, i+1)
	}
	for i := range succ {
		if n > 1 && len(succ[i]) < 2 && r.IntN(2) == 0 {
			if to := 1 + r.IntN(n-1); !slices.Contains(succ[i], to) {
				succ[i] = append(succ[i], to)
			}
		}
		r.Shuffle(len(succ[i]), func(a, b int) { succ[i][a], succ[i][b] = succ[i][b], succ[i][a] })
	}
	return succ
}

// author writes code by chance, mostly of accesses.
type author struct {
	*rand.Rand
	f      api.Ir
	free   []int   // values that nothing makes yet
	seen   [][]int // of each part what is made at its end
	places [][]int // of those what is an address
}

func (w *author) fresh() int {
	id := w.free[0]
	w.free = w.free[1:]
	return id
}

// someCode answers code that may be.
func someCode(r *rand.Rand) api.Ir {
	succ := someWays(r, 1+r.IntN(6))
	w := &author{Rand: r, free: r.Perm(40 * (1 + len(succ))), seen: make([][]int, len(succ)), places: make([][]int, len(succ))}
	w.f = api.Ir{Parts: make([]api.Part, len(succ)), Values: len(w.free)}
	for i, row := range succ {
		for _, to := range row {
			w.f.Parts[to].Pred = append(w.f.Parts[to].Pred, i)
		}
	}
	up := dom.Idom(succ)
	for _, i := range dom.Order(succ) {
		if i > 0 {
			w.seen[i], w.places[i] = slices.Clone(w.seen[up[i]]), slices.Clone(w.places[up[i]])
		}
		w.part(i, succ[i])
	}
	for _, p := range w.f.Parts {
		for at, x := range p.Phis {
			for way, from := range p.Pred {
				x.From[way] = some(r, w.seen[from])
				if at == 0 {
					x.From[way] = some(r, w.places[from])
				}
			}
		}
	}
	return w.f
}

func (w *author) part(i int, row []int) {
	p := &w.f.Parts[i]
	for at := range w.IntN(4) {
		if i == 0 {
			break
		}
		p.Phis = append(p.Phis, phi(w.fresh(), make([]int, len(p.Pred))...))
		w.seen[i] = append(w.seen[i], p.Phis[at].Id)
		if at == 0 { // it chooses an address
			w.places[i] = append(w.places[i], p.Phis[0].Id)
		}
	}
	if i == 0 {
		for _, n := range []api.Node{context(0), frame(0), num(0, mem.Address(3, 0)), num(0, mem.Address(4, 0)), num(0, mem.Address(5, 1)), num(0, 3), num(0, 4), call(0, 1)} {
			id := w.put(i, n)
			if n.Op != api.NodeCall && (n.Op != api.NodeNum || n.Imm > 8) {
				w.places[i] = append(w.places[i], id)
			}
		}
	}
	for range w.IntN(9) {
		w.some(i)
	}
	switch len(row) {
	case 0:
		p.End = back(some(w.Rand, w.seen[i]))
	case 1:
		p.End = on(row[0])
	case 2:
		p.End = when(some(w.Rand, conditions), some(w.Rand, w.seen[i]), some(w.Rand, w.seen[i]), row[0], row[1])
		p.End.Wide = w.IntN(2) == 0
	}
}

// put writes a node of any instruction, and answers its value.
func (w *author) put(i int, n api.Node) int {
	n.At = w.IntN(instructions)
	if n.Op != api.NodeStore {
		n.Id = w.fresh()
		w.seen[i] = append(w.seen[i], n.Id)
	}
	w.f.Parts[i].Nodes = append(w.f.Parts[i].Nodes, n)
	return n.Id
}

// some writes nodes that use what is made ahead.
func (w *author) some(i int) {
	a, b := some(w.Rand, w.seen[i]), some(w.Rand, w.seen[i])
	first := w.f.Parts[0].Nodes
	place, off, size := some(w.Rand, w.places[i]), w.IntN(5), some(w.Rand, []int{1, 1, 2, 4, 8})
	if w.IntN(20) == 0 {
		off = w.IntN(80) - 40
	}
	if place == first[1].Id {
		off -= 16
	}
	switch w.IntN(12) {
	case 0:
		w.put(i, num(0, some(w.Rand, []uint64{0, 1, 2, 7, 1 << 32, math.MaxUint64})))
	case 1, 2: // an address, and a few bytes further on
		few := w.put(i, alu(0, api.And, a, first[5+w.IntN(2)].Id))
		w.places[i] = append(w.places[i], w.put(i, alu(0, api.Add, place, few)))
	case 3:
		n := alu(0, 16*w.IntN(13), a, b)
		n.Wide = w.IntN(2) == 0
		w.put(i, n)
	case 4:
		w.put(i, some(w.Rand, []api.Node{call(0, 1), call(0, 2, a), call(0, 5, a, b, a), call(0, 3, place, first[5].Id)}))
	case 5, 6, 7, 8:
		n := load(0, size, place, off)
		n.Guard = w.IntN(8) > 0
		w.put(i, n)
	default:
		if w.IntN(8) > 0 { // most regions may not be written
			place = first[2].Id
		}
		n := store(size, place, off, b)
		n.Guard = w.IntN(8) > 0
		w.put(i, n)
	}
}

// someFacts answers facts of instructions, mostly such as prove something.
func someFacts(r *rand.Rand) []api.Fact {
	facts := make([]api.Fact, r.IntN(instructions+8))
	for i := range facts {
		x := int64(some(r, []int{-1, 0, 1, 4, 8, 32, 60, 500, 508}))
		facts[i] = api.Fact{Seen: r.IntN(8) > 0, Region: r.IntN(7), Low: x, High: x + int64(r.IntN(8)-1)}
	}
	return facts
}

func someAnswers(r *rand.Rand) []uint64 {
	var l []uint64
	for range r.IntN(8) {
		l = append(l, r.Uint64()>>r.IntN(64))
	}
	return l
}

// TestByChanceAgainstTheModel asks of any code and any facts, which are mostly not right of it.
func TestByChanceAgainstTheModel(t *testing.T) {
	r := chance()
	l := []api.Layout{sample, {}, {Context: api.Area{Size: 9, Write: true}}, {Maps: []api.Area{{Size: 4096}, {Size: 1}, {Size: 64, Write: true}}}, {Maps: []api.Area{{}}}}
	gone, stay := 0, 0
	for range 10000 {
		f, facts, at := someCode(r), someFacts(r), some(r, l)
		if e := ir.Check(f); e != api.OK {
			t.Fatalf("%v may not be: %d", f, e)
		}
		before, told := copied(f), slices.Clone(facts)
		g, n, e := checks.Free(at, f, facts)
		want, count := modelFree(at, f, facts)
		if e != api.OK || n != count || !sameCode(g, want) {
			t.Fatalf("Free(%v, %v, %v)\n= %v, %d, %d;\nwant %v, %d", at, f, facts, g, n, e, want, count)
		}
		if !sameCode(f, before) || !slices.Equal(facts, told) {
			t.Fatalf("%v, %v were changed: %v, %v", before, told, f, facts)
		}
		if ir.Check(g) != api.OK {
			t.Fatalf("Free(%v) = %v, which may not be", f, g)
		}
		gone += n
		stay += guards(g)
	}
	if gone < 5000 || stay < 20000 {
		t.Errorf("%d guards went, %d stay", gone, stay)
	}
}

// TestRightFacts: where facts are right of a run, it is the same one without the guards that they prove; also where it traps.
func TestRightFacts(t *testing.T) {
	r := chance()
	ends, traps := map[api.EndKind]int{}, map[api.TrapKind]int{}
	gone, accesses := 0, 0
	for range 15000 {
		f, answers, fuel := someCode(r), someAnswers(r), 20+r.IntN(200)
		want := runs(t, f, fresh(), answers, fuel)
		told := traced(f, fresh(), answers, fuel, instructions)
		if want.Kind != api.EndTrap && told.steps != want.Steps || want.Kind == api.EndTrap && told.steps != want.Steps-1 {
			t.Fatalf("%v: %d steps were traced; it ended %s", f, told.steps, brief(want))
		}
		g, n, e := checks.Free(sample, f, told.facts)
		if got := runs(t, g, fresh(), answers, fuel); e != api.OK || !sameEnd(got, want) {
			t.Fatalf("%v\nends %s;\nfreed by %v, %v\nends %s", f, brief(want), told.facts, g, brief(got))
		}
		ends[want.Kind]++
		traps[want.Trap]++
		gone += n
		accesses += told.done
	}
	if ends[api.EndReturn] < 1000 || ends[api.EndFuel] < 1000 || traps[api.TrapGuard] < 1000 || traps[api.TrapHelper] < 200 || gone < 20000 || accesses < 50000 {
		t.Errorf("ends %v, traps %v, %d guards went, %d accesses", ends, traps, gone, accesses)
	}
}

// TestAnyFacts: whatever the facts, all that may become of a run without guards is that it goes astray where a guard fired that is gone.
func TestAnyFacts(t *testing.T) {
	r := chance()
	same, astray := 0, 0
	for range 10000 {
		f, answers, facts := someCode(r), someAnswers(r), someFacts(r)
		g, _, _ := checks.Free(sample, f, facts)
		want, got := runs(t, f, fresh(), answers, 100), runs(t, g, fresh(), answers, 100)
		if sameEnd(got, want) {
			same++
			continue
		}
		if want.Trap != api.TrapGuard || got.Trap != api.TrapWild || !slices.ContainsFunc(facts, func(x api.Fact) bool { return x.Seen }) {
			t.Fatalf("%v\nends %s;\nfreed by %v, %v\nends %s", f, brief(want), facts, g, brief(got))
		}
		if got.Trap = api.TrapGuard; !sameEnd(got, want) {
			t.Fatalf("%v\nends %s;\nfreed by %v, %v\nends %s", f, brief(want), facts, g, brief(got))
		}
		astray++
	}
	if same < 5000 || astray < 200 {
		t.Errorf("%d runs are the same, %d went astray", same, astray)
	}
}
