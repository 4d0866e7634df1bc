package checks_test

import (
	"slices"
	"testing"

	"clevis/api"
	"clevis/checks"
	"clevis/ir"
)

// tells asks of large code how many guards go. It answers what stays.
func tells(t *testing.T, name string, f api.Ir, facts []api.Fact, count int) api.Ir {
	t.Helper()
	if e := ir.Check(f); e != api.OK {
		t.Fatalf("%s may not be: %d", name, e)
	}
	g, n, e := checks.Free(sample, f, facts)
	if e != api.OK || n != count || guards(g) != guards(f)-count || g.Values != f.Values || len(g.Parts) != len(f.Parts) || ir.Check(g) != api.OK {
		t.Errorf("%s: %d guards go, %d; of %d %d stay; want %d", name, n, e, guards(f), guards(g), count)
	}
	return g
}

// TestTheMostValues: in the most parts, a load each of the address ahead.
func TestTheMostValues(t *testing.T) {
	f := api.Ir{Parts: make([]api.Part, 8192), Values: 65536}
	last := 0
	for i := range f.Parts {
		p := part([]int{i - 1}, on(i+1))
		for range 8 {
			n := from(last, load(last, 8, 0, 0))
			if last == 0 {
				n = frame(0)
			}
			p.Nodes = append(p.Nodes, n)
			last++
		}
		f.Parts[i] = p
	}
	f.Parts[0].Pred, f.Parts[8191].End = nil, back(65535)
	facts := slices.Repeat([]api.Fact{seen(2, 0, 504), {}}, 4096)
	tells(t, "half of the first ones", f, facts, 4095)
	g := tells(t, "all", f, slices.Repeat([]api.Fact{seen(2, 0, 504)}, 65536), 65535)
	tells(t, "none", g, facts, 0)
	g = tells(t, "all but the last", f, slices.Repeat([]api.Fact{seen(2, 0, 504)}, 65535), 65534)
	if n := g.Parts[8191].Nodes[7]; !n.Guard || n.At != 65535 {
		t.Errorf("the last node is %v", n)
	}
}

// TestManyFrom: phis of thousands of From.
func TestManyFrom(t *testing.T) {
	n := 4000
	f := api.Ir{Parts: []api.Part{part(nil, on(1), frame(0))}, Values: 1 + n + 100}
	var ways, from []int
	for i := 1; i < n; i++ {
		f.Parts = append(f.Parts, part([]int{i - 1}, when(api.Jeq, 0, 0, i+1, n+1), load(i, 1, 0, -i%512-1)))
		ways, from = append(ways, i), append(from, i)
	}
	f.Parts = append(f.Parts, part([]int{n - 1}, on(n+1), load(n, 1, 0, -1)))
	last := part(append(ways, n), back(1+n))
	from = append(from, n)
	for i := range 100 {
		last.Phis = append(last.Phis, api.Phi{Id: 1 + n + i, From: slices.Clone(from)})
	}
	f.Parts = append(f.Parts, last)
	g := tells(t, "a way from each", f, []api.Fact{seen(2, 0, 511)}, n)
	if p := g.Parts[n+1]; len(p.Phis) != 100 || !slices.Equal(p.Phis[99].From, from) || !slices.Equal(p.Pred, from) {
		t.Errorf("the last part has %d phis", len(p.Phis))
	}
	tells(t, "none", f, []api.Fact{seen(2, 0, 512)}, 0)
}

// TestManyNodes: stores make no value, so a part may have any number of them; and there may be any number of facts.
func TestManyNodes(t *testing.T) {
	n := 1 << 20
	f := one(1, back(0), slices.Repeat([]api.Node{store(8, 0, -8, 0)}, n+1)...)
	f.Parts[0].Nodes[0] = frame(0)
	for i := range f.Parts[0].Nodes {
		f.Parts[0].Nodes[i].At = i
	}
	facts := slices.Repeat([]api.Fact{seen(2, 504, 504)}, n+1)
	g := tells(t, "2^20 stores", f, facts, n)
	if last := g.Parts[0].Nodes[n]; last.Op != api.NodeStore || last.Guard {
		t.Errorf("the last node is %v", last)
	}
	facts[n].High++
	g = tells(t, "all but the last", f, facts, n-1)
	if last := g.Parts[0].Nodes[n]; !last.Guard {
		t.Errorf("the last node is %v", last)
	}
	tells(t, "the first half", f, facts[:n/2], n/2-1)
}
