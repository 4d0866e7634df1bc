package dead_test

import (
	"slices"
	"testing"

	"clevis/api"
	"clevis/dead"
	"clevis/ir"
)

// tells asks of large code how many of its values are needed, and how many phis and nodes stay. It answers what stays.
func tells(t *testing.T, name string, f api.Ir, needed, stay int) api.Ir {
	t.Helper()
	if e := ir.Check(f); e != api.OK {
		t.Fatalf("%s may not be: %d", name, e)
	}
	count := 0
	for _, is := range dead.Needed(f) {
		if is {
			count++
		}
	}
	g, e := dead.Dead(f)
	if count != needed || e != api.OK || dead.Count(g) != stay || ir.Check(g) != api.OK {
		t.Errorf("%s: %d needed, %d; %d stay, of which Check says %d; want %d, %d", name, count, e, dead.Count(g), ir.Check(g), needed, stay)
	}
	return g
}

// chain answers parts that one comes to from the last one down, but for the first; each reckons with the value ahead.
func chain(n, each int) api.Ir {
	f := api.Ir{Parts: make([]api.Part, n), Values: 1}
	last := 0 // the part that leads on
	f.Parts[0] = part(nil, on(n-1), num(0, 1))
	for i := n - 1; i > 0; i-- {
		p := part([]int{last}, on(i-1))
		for range each {
			p.Nodes = append(p.Nodes, add(f.Values, f.Values-1, 0))
			f.Values++
		}
		f.Parts[i], last = p, i
	}
	f.Parts[1].End = back(f.Values - 1)
	return f
}

// TestTheMostValues: each needs the one ahead of it, in code that stands the other way round.
func TestTheMostValues(t *testing.T) {
	f := chain(8192, 8)
	f.Parts[1].Nodes = append(f.Parts[1].Nodes, add(f.Values, f.Values-1, 0))
	f.Values = 65536
	stay := dead.Count(f)
	f.Parts[1].End = back(0)
	tells(t, "none", f, 1, 1)
	f.Parts[1].End = back(stay - 1)
	tells(t, "all", f, stay, stay)
	f.Parts[1].End = back(stay / 2)
	g := tells(t, "half", f, stay/2+1, stay/2+1)
	if len(g.Parts) != 8192 || g.Parts[1].End.A != stay/2 || g.Values != 65536 {
		t.Errorf("%d parts, End %v, %d values", len(g.Parts), g.Parts[1].End, g.Values)
	}
}

// TestOnePart: the most values in one part, of which every second one is needed.
func TestOnePart(t *testing.T) {
	f := one(65536, back(65534), num(0, 1), num(1, 2))
	for id := 2; id < 65536; id++ {
		f.Parts[0].Nodes = append(f.Parts[0].Nodes, add(id, id-2, id-2))
	}
	g := tells(t, "every second one", f, 32768, 32768)
	for at, n := range g.Parts[0].Nodes {
		if n.Id != 2*at {
			t.Fatalf("node %d is %v", at, n)
		}
	}
}

// TestManyPhis: phis of thousands of From, each of which needs the one ahead of it; some are needed, or none.
func TestManyPhis(t *testing.T) {
	n := 4000
	f := code(2+n, part(nil, on(0), now(0), num(1, 0)))
	f.Parts = append(f.Parts, make([]api.Part, 2*n)...)
	last := 2 * n
	var pred, from []int
	for i := range n {
		p := &f.Parts[i]
		if i > 0 {
			p.Pred = []int{i - 1}
		}
		p.Nodes = append(p.Nodes, num(2+i, uint64(i)))
		p.End = when(api.Jne, 0, 1, i+1, n+i)
		if i == n-1 {
			p.End = on(n + i)
		}
		f.Parts[n+i] = part([]int{i}, on(last))
		pred, from = append(pred, n+i), append(from, 2+i)
	}
	f.Parts[last] = part(append(pred, last), when(api.Jne, 0, 1, last, last+1))
	for i := range 200 {
		p := &f.Parts[last]
		p.Phis = append(p.Phis, phi(f.Values, append(slices.Clone(from), f.Values+min(1, 199-i))...))
		f.Values++
	}
	f.Parts = append(f.Parts, part([]int{last}, back(0)))
	tells(t, "none", f, 2, 2)
	f.Parts[last+1].End.A = 2 + n
	tells(t, "all", f, f.Values, f.Values)
	f.Parts[last+1].End.A = 2 + n + 100
	g := tells(t, "half", f, 2+n+100, 2+n+100)
	if x := g.Parts[last].Phis[0]; x.Id != 2+n+100 || !slices.Equal(x.From[:n], from) {
		t.Errorf("the first phi that stays is %d", x.Id)
	}
}

// TestManyNodes: stores make no value, so a part may have any number of them.
func TestManyNodes(t *testing.T) {
	n := 1 << 20
	f := one(4, back(2), append([]api.Node{frame(0), num(1, 4), add(2, 1, 1), num(3, 5)}, slices.Repeat([]api.Node{store(0, -8, 2)}, n)...)...)
	g := tells(t, "2^20 stores", f, 3, n+3)
	if last := g.Parts[0].Nodes[n+2]; last.Op != api.NodeStore {
		t.Errorf("the last node is %v", last)
	}
}
