package ir_test

import (
	"math"
	"testing"

	"clevis/api"
)

func TestUsedIsMadeAhead(t *testing.T) {
	node := func(part, node int, do func(n *api.Node)) change {
		return change{"a node", func(f *api.Ir) { do(&f.Parts[part].Nodes[node]) }}
	}
	end := func(part int, do func(t *api.Term)) change {
		return change{"an End", func(f *api.Ir) { do(&f.Parts[part].End) }}
	}
	a := func(part, at, v int) change { return node(part, at, func(n *api.Node) { n.A = v }) }
	b := func(part, at, v int) change { return node(part, at, func(n *api.Node) { n.B = v }) }
	arg := func(at, v int) change { return node(3, 1, func(n *api.Node) { n.Args[at] = v }) }
	changed(t, no, []change{
		// none
		a(2, 0, -1), a(2, 0, 15), b(2, 0, -1), b(2, 0, 99), a(2, 2, -1), a(2, 4, math.MinInt), b(2, 4, math.MaxInt), arg(0, -1), arg(1, 15), arg(2, math.MaxInt),
		// made by itself, or behind it
		a(2, 0, 8), b(2, 0, 8), a(2, 0, 9), b(2, 0, 11), a(2, 2, 14), a(2, 2, 11), a(0, 5, 13), b(0, 5, 13), arg(0, 12),
		// in a part that does not dominate it
		a(0, 5, 5), a(0, 5, 8), b(0, 5, 12), a(3, 0, 8), arg(0, 9), arg(2, 14), a(2, 0, 10), b(2, 4, 12),
		end(1, func(t *api.Term) { t.A = 8 }), end(1, func(t *api.Term) { t.B = 12 }), end(1, func(t *api.Term) { t.A = -1 }), end(1, func(t *api.Term) { t.B = 15 }),
		end(3, func(t *api.Term) { t.A = 8 }), end(3, func(t *api.Term) { t.A = -1 }), end(3, func(t *api.Term) { t.A = 15 }),
	})
	changed(t, yes, []change{
		a(2, 0, 7), b(2, 0, 6), a(2, 1, 8), b(2, 1, 8), a(2, 2, 9), a(2, 4, 14), b(2, 4, 8), arg(0, 10), arg(1, 10), arg(2, 0), a(0, 5, 0),
		end(1, func(t *api.Term) { t.A, t.B = t.B, t.A }), end(1, func(t *api.Term) { t.A, t.B = 7, 13 }), end(3, func(t *api.Term) { t.A = 10 }), end(3, func(t *api.Term) { t.A = 5 }), end(3, func(t *api.Term) { t.A = 0 }),
	})
	// all that Uses says, whether the operation needs it or not
	asks(t, "Neg", spots(alu(2, api.Neg, 0, 2)), no)
	asks(t, "Mov", spots(alu(2, api.Mov, 2, 0)), no)
	asks(t, "itself", spots(alu(2, api.Xor, 2, 2)), no)
	asks(t, "one value twice", spots(alu(2, api.Xor, 1, 1)), yes)
	asks(t, "End of a value of its own part", spots(alu(2, api.Mov, 1, 1)), yes)
}

func TestPhisUse(t *testing.T) {
	choice := func(at int, from ...int) change {
		return change{"a phi", func(f *api.Ir) { f.Parts[1].Phis[at].From = from }}
	}
	changed(t, no, []change{
		choice(0), choice(0, 2), choice(0, 2, 8, 8), choice(2, 2), choice(1, 4, 9, 9),
		choice(0, -1, 8), choice(0, 2, -1), choice(0, 15, 8), choice(0, 2, 15), choice(0, math.MinInt, 8), choice(0, 2, math.MaxInt),
		// made on one way, used on the other
		choice(0, 8, 2), choice(0, 8, 8), choice(0, 5, 8), choice(0, 7, 8), choice(0, 10, 8), choice(0, 2, 10), choice(0, 2, 12),
	})
	changed(t, yes, []change{
		choice(0, 2, 2), choice(0, 2, 5), choice(0, 2, 6), choice(0, 2, 7), choice(1, 13, 11), choice(2, 0, 14), choice(0, 13, 13),
	})
	// a part with one way, and the first one, may have phis, too
	f := looped()
	f.Parts[3] = chosen(f.Parts[3], phi(15, 7))
	f.Values = 16
	f.Parts[3].End.A = 15
	asks(t, "one way", f, yes)
	f.Parts[3].Phis[0].From = []int{10}
	asks(t, "one way, what is made behind it", f, no)
	f.Parts[3].Phis[0].From = nil
	asks(t, "one way, chosen of none", f, no)
	asks(t, "no way", code(1, chosen(part(nil, back(0)), phi(0))), yes)
	asks(t, "no way, chosen of one", code(1, chosen(part(nil, back(0)), phi(0, 0))), no)
	asks(t, "no way, chosen of what there is", code(2, chosen(part(nil, back(0), num(1, 5)), phi(0, 1))), no)
}

// TestPhisOfPhis: all of a part's phis choose at once, at the ends of the ways there.
func TestPhisOfPhis(t *testing.T) {
	of := func(phis ...api.Phi) api.Ir {
		return code(5, part(nil, on(1), num(0, 0), num(1, 1)), chosen(part([]int{0, 1}, when(api.Jeq, 2, 3, 1, 2)), phis...), part([]int{1}, back(2)))
	}
	asks(t, "one another", of(phi(2, 0, 3), phi(3, 1, 2)), yes)
	asks(t, "themselves", of(phi(2, 0, 2), phi(3, 1, 3)), yes)
	asks(t, "on the way in, one another", of(phi(2, 3, 0), phi(3, 1, 1)), no)
	asks(t, "on the way in, one ahead", of(phi(2, 0, 0), phi(3, 2, 1)), no)
	asks(t, "on the way in, themselves", of(phi(2, 2, 0), phi(3, 1, 1)), no)
	asks(t, "one that nobody makes", of(phi(2, 0, 4), phi(3, 1, 2)), no)
}

// TestEndsAreBehindAllNodes, be there more than in other parts or fewer.
func TestEndsAreBehindAllNodes(t *testing.T) {
	few, many := []api.Node{num(0, 1)}, []api.Node{num(1, 2), num(2, 3), num(3, 4)}
	last := chosen(part([]int{1}, back(4)), phi(4, 3))
	asks(t, "more", code(5, part(nil, on(1), few...), part([]int{0}, when(api.Jeq, 3, 2, 2, 3), many...), last, part([]int{1}, back(3))), yes)
	last.Phis = []api.Phi{phi(4, 0)}
	asks(t, "fewer", code(5, part(nil, on(1), many...), part([]int{0}, when(api.Jeq, 0, 3, 2, 3), few...), last, part([]int{1}, back(0))), yes)
	asks(t, "none", code(5, part(nil, on(1)), part([]int{0}, back(3), many...)), yes)
}

// place is a spot of code: of a part, -1 its phis, the nodes, or last its End.
type place struct{ part, at int }

const last = 3

// around answers the places that one may come to, if one goes no further than a closed one.
func around(f api.Ir, closed place) map[place]bool {
	met := map[place]bool{}
	todo := []place{{0, -1}}
	for len(todo) > 0 {
		p := todo[0]
		todo = todo[1:]
		if met[p] {
			continue
		}
		met[p] = true
		switch {
		case p == closed:
		case p.at < last:
			todo = append(todo, place{p.part, p.at + 1})
		default:
			for _, to := range modelSucc(f.Parts[p.part].End) {
				todo = append(todo, place{to, -1})
			}
		}
	}
	return met
}

// graphs hands over all code of so many parts that one can come to. Each part has three nodes, of which the first makes the value of its number; value 0 is used by all others, and n by nobody.
func graphs(n int, do func(f api.Ir)) {
	ends := []api.Term{back(0)}
	for to := 1; to < n; to++ {
		ends = append(ends, on(to))
		for otherwise := to + 1; otherwise < n; otherwise++ {
			ends = append(ends, when(api.Jeq, 0, 0, to, otherwise))
		}
	}
	for choice := range int(math.Pow(float64(len(ends)), float64(n))) {
		f := code(n + 2)
		for i := range n {
			f.Parts = append(f.Parts, part(nil, ends[choice%len(ends)], num(i, 1), store(1, 0, 0, 0), store(1, 0, 0, 0)))
			choice /= len(ends)
		}
		for i := range f.Parts {
			for _, to := range modelSucc(f.Parts[i].End) {
				f.Parts[to].Pred = append(f.Parts[to].Pred, i)
			}
		}
		if modelWays(f) {
			do(f)
		}
	}
}

// TestEveryWay makes a value at each place and uses it at each: it may be used, if no way there goes around its making.
func TestEveryWay(t *testing.T) {
	count := 0
	for n := 1; n <= 4; n++ {
		graphs(n, func(f api.Ir) {
			count++
			for i, p := range f.Parts {
				makes(t, f, place{i, 1})
				makes(t, f, place{i, 2})
				if len(p.Pred) > 0 {
					makes(t, f, place{i, -1})
				}
			}
		})
	}
	if count < 500 {
		t.Errorf("only %d graphs", count)
	}
}

// makes makes a value at a place.
func makes(t *testing.T, f api.Ir, at place) {
	t.Helper()
	f = copied(f)
	v, p := len(f.Parts), &f.Parts[at.part]
	if at.at < 0 {
		p.Phis = append(p.Phis, phi(v, make([]int, len(p.Pred))...))
	} else {
		p.Nodes[at.at] = num(v, 5)
	}
	met := around(f, at)
	for i := range f.Parts {
		usesAt(t, f, i, met)
	}
}

// usesAt uses that value at each place of a part, and by a phi there; it may not, where one may have come without.
func usesAt(t *testing.T, f api.Ir, i int, without map[place]bool) {
	t.Helper()
	v := len(f.Parts)
	for at := 1; at < last; at++ {
		g := copied(f)
		if n := &g.Parts[i].Nodes[at]; n.Op == api.NodeStore {
			n.B = v
			asks(t, "a node's use", g, !without[place{i, at}])
		}
	}
	if f.Parts[i].End.Op != api.TermGo {
		g := copied(f)
		g.Parts[i].End.A = v
		asks(t, "an End's use", g, !without[place{i, last}])
	}
	for way, pred := range f.Parts[i].Pred {
		g := copied(f)
		x := phi(v+1, make([]int, len(f.Parts[i].Pred))...)
		x.From[way] = v
		g.Parts[i].Phis = append(g.Parts[i].Phis, x)
		asks(t, "a phi's use", g, !without[place{pred, last}])
	}
}
