package dead_test

import (
	"slices"
	"testing"

	"clevis/api"
	"clevis/dead"
)

// TestAllSmallLoops: two phis and two nodes in a loop, that use one another in all ways, an End that asks any of them, and one that returns any.
func TestAllSmallLoops(t *testing.T) {
	acts := map[bool]int{}
	for choice := range 6 * 6 * 4 * 4 * 5 * 6 * 6 {
		pick := func(n int) int {
			x := choice % n
			choice /= n
			return x
		}
		// 0 and 1 are made ahead, 2 and 3 are the phis, 4 and 5 the nodes
		f := code(6, part(nil, on(1), num(0, 0), num(1, 1)),
			chosen([]int{0, 1}, phis(phi(2, 0, pick(6)), phi(3, 1, pick(6))), on(0)), part([]int{1}, on(0)))
		p := &f.Parts[1]
		p.Nodes = []api.Node{add(4, pick(4), 0)}
		kind, a := pick(4), pick(5)
		p.Nodes = append(p.Nodes, []api.Node{add(5, a, a), load(5, a, 0), guarded(load(5, a, 0)), call(5, 2, a)}[kind])
		p.End = when(api.Jeq, pick(6), 0, 1, 2)
		f.Parts[2].End = back(pick(6))
		want := modelNeeded(f)
		if got := dead.Needed(f); !slices.Equal(got, want) {
			t.Fatalf("Needed(%v) = %v; want %v", f, got, want)
		}
		acts[want[5]]++
		if g, e := dead.Dead(f); e != api.OK || !sameCode(g, modelDead(f)) {
			t.Fatalf("Dead(%v)\n= %v, %d;\nwant %v", f, g, e, modelDead(f))
		}
	}
	if acts[true] < 10000 || acts[false] < 10000 {
		t.Error(acts)
	}
}

// TestAllSmallRows: of five nodes in a row each is of any kind, and uses any ahead.
func TestAllSmallRows(t *testing.T) {
	count := 0
	var lay func(nodes []api.Node)
	lay = func(nodes []api.Node) {
		if id := len(nodes); id < 5 {
			for a := range id {
				for _, n := range []api.Node{num(id, 1), add(id, a, id-1), load(id, a, 0), guarded(load(id, a, 0)), call(id, 2, a)} {
					lay(append(nodes[:id:id], n))
				}
			}
			return
		}
		for end := range 5 {
			f := one(5, back(end), nodes...)
			count++
			if got, want := dead.Needed(f), modelNeeded(f); !slices.Equal(got, want) {
				t.Fatalf("Needed(%v) = %v; want %v", f, got, want)
			}
			if g, e := dead.Dead(f); e != api.OK || !sameCode(g, modelDead(f)) {
				t.Fatalf("Dead(%v)\n= %v, %d;\nwant %v", f, g, e, modelDead(f))
			}
		}
	}
	lay([]api.Node{frame(0)})
	if count != 5*5*10*15*20 {
		t.Error(count)
	}
}
