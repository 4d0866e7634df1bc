package fold_test

import (
	"slices"
	"testing"

	"clevis/api"
	"clevis/fold"
	"clevis/ir"
	"clevis/mem"
)

// tells asks of large code what is known of a value, and answers it folded.
func tells(t *testing.T, name string, f api.Ir, id int, want api.Tnum) api.Ir {
	t.Helper()
	if e := ir.Check(f); e != api.OK {
		t.Fatalf("%s may not be: %d", name, e)
	}
	if l := fold.Known(f); len(l) != f.Values || l[id] != want {
		t.Errorf("%s: of %d values %d is %v; want %v", name, len(l), id, l[id], want)
	}
	g, e := fold.Fold(f)
	if e != api.OK || ir.Check(g) != api.OK {
		t.Fatalf("%s: %d; of what is folded Check says %d", name, e, ir.Check(g))
	}
	return g
}

// chain answers parts that one comes to from the last one down, but for the first; each reckons with the value ahead.
func chain(n, each int) api.Ir {
	f := api.Ir{Parts: make([]api.Part, n), Values: 1}
	last := 0 // the part that leads on
	f.Parts[0] = part(nil, on(n-1), num(0, 1))
	for i := n - 1; i > 0; i-- {
		p := part([]int{last}, on(i-1))
		for range each {
			p.Nodes = append(p.Nodes, add(f.Values, f.Values-1, 0))
			f.Values++
		}
		f.Parts[i], last = p, i
	}
	f.Parts[1].End = back(f.Values - 1)
	return f
}

// TestTheMostValues: each known by the one ahead of it, in code that stands the other way round.
func TestTheMostValues(t *testing.T) {
	f := chain(8192, 8)
	f.Parts[1].Nodes = append(f.Parts[1].Nodes, add(f.Values, f.Values-1, 0))
	f.Values = 65536
	g := tells(t, "a chain", f, 8*8191, is(8*8191+1))
	for _, p := range g.Parts {
		for _, n := range p.Nodes {
			if n.Op != api.NodeNum || n.Imm != uint64(n.Id)+1 {
				t.Fatalf("a node became %v", n)
			}
		}
	}
	m, _ := mem.Fresh(api.Layout{})
	if e, code := ir.Run(api.Layout{}, g, m, nil, 1<<20); code != api.OK || e.Value != 8*8191+1 {
		t.Errorf("%s, %d", brief(e), code)
	}
	f.Parts[0].Nodes[0] = now(0)
	tells(t, "a chain of what is not known", f, 8*8191, unknown)
}

// TestManyFrom: phis that choose of thousands, each of which is known by the one ahead of it.
func TestManyFrom(t *testing.T) {
	n := 4000
	f := code(2+n, part(nil, on(0), now(0), num(1, 0)))
	f.Parts = append(f.Parts, make([]api.Part, 2*n)...)
	last := 2 * n
	var pred, from []int
	for i := range n {
		p := &f.Parts[i]
		if i > 0 {
			p.Pred = []int{i - 1}
		}
		p.Nodes = append(p.Nodes, add(2+i, 1+i, 1))
		p.End = when(api.Jne, 0, 1, i+1, n+i)
		if i == n-1 {
			p.End = on(n + i)
		}
		f.Parts[n+i] = part([]int{i}, on(last))
		pred, from = append(pred, n+i), append(from, 2+i)
	}
	f.Parts[last] = part(pred, back(2+n))
	for range 200 {
		p := &f.Parts[last]
		p.Phis = append(p.Phis, phi(f.Values, slices.Clone(from)...))
		f.Values++
	}
	tells(t, "all nought", f, 2+n, is(0))
	f.Parts[last].Phis[0].From[n-1] = 0
	tells(t, "the last one is not known", f, 2+n, unknown)
	tells(t, "the last one of another phi is not known", f, 2+n+1, is(0))
}

// TestManyNodes: stores make no value, so a part may have any number of them.
func TestManyNodes(t *testing.T) {
	n := 1 << 20
	f := one(3, back(2), append([]api.Node{frame(0), num(1, 4), add(2, 1, 1)}, slices.Repeat([]api.Node{store(0, -8, 2)}, n)...)...)
	g := tells(t, "2^20 stores", f, 2, is(8))
	if len(g.Parts) != 1 || len(g.Parts[0].Nodes) != n+3 || g.Parts[0].Nodes[2].Op != api.NodeNum || g.Parts[0].Nodes[n+2].Op != api.NodeStore {
		t.Error("nodes were lost")
	}
}

// TestManyPartsLeftOut: all but two of the most, be they a row or all led to by one another.
func TestManyPartsLeftOut(t *testing.T) {
	f := chain(8191, 1)
	f.Parts = append(f.Parts, part([]int{0}, back(0)))
	f.Parts[0].End = when(api.Jne, 0, 0, 8190, 8191)
	g := tells(t, "a row", f, 8190, is(8191))
	if !sameCode(g, code(f.Values, part(nil, on(1), num(0, 1)), part([]int{0}, back(0)))) {
		t.Errorf("of a row %d parts stay", len(g.Parts))
	}
	f.Parts[0].End.Cond = api.Jeq
	if g = tells(t, "the other way", f, 8190, is(8191)); len(g.Parts) != 8191 || g.Parts[8190].Pred[0] != 0 {
		t.Errorf("the other way %d parts stay", len(g.Parts))
	}
	f.Parts[0].Nodes[0] = now(0)
	f.Parts[0].End.Cond = api.Jset
	if g = tells(t, "both ways", f, 8190, unknown); !sameCode(f, g) {
		t.Errorf("both ways %d parts stay", len(g.Parts))
	}
}
