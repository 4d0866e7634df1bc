package dom_test

import (
	"math/rand/v2"
	"slices"
	"testing"

	"clevis/api"
	"clevis/dom"
	"clevis/flow"
	"clevis/interp"
	"clevis/mem"
)

// chance is a row of numbers that is the same one each time.
func chance() *rand.Rand { return rand.New(rand.NewPCG(15, 150)) }

// rows answers all rows of at most so many of the numbers.
func rows(numbers []int, most int) [][]int {
	all := [][]int{{}}
	for from := 0; most > 0; most-- {
		to := len(all)
		for _, row := range all[from:to] {
			for _, n := range numbers {
				all = append(all, append(slices.Clone(row), n))
			}
		}
		from = to
	}
	return all
}

// each does something with all graphs of so many nodes with these rows.
func each(n int, rows [][]int, do func(g graph)) {
	g := make(graph, n)
	var put func(at int)
	put = func(at int) {
		if at == n {
			do(g)
			return
		}
		for _, row := range rows {
			g[at] = row
			put(at + 1)
		}
	}
	put(0)
}

// TestAllSmallGraphs asks of all graphs of at most three nodes, with rows of at most three, two and two of all numbers that are and of two that are none.
func TestAllSmallGraphs(t *testing.T) {
	for n, most := range []int{0, 3, 3, 2} {
		each(n, rows(append(upTo(n), -1, n), most), func(g graph) { against(t, g) })
	}
}

// TestAllGraphsOfFour asks of all sets of edges between four nodes, with rows that rise, or fall.
func TestAllGraphsOfFour(t *testing.T) {
	var sets [][]int
	for set := range 16 {
		row := slices.DeleteFunc(upTo(4), func(n int) bool { return set>>n&1 == 0 })
		if set%3 == 0 {
			slices.Reverse(row)
		}
		sets = append(sets, row)
	}
	each(4, sets, func(g graph) { against(t, g) })
}

// ways answers all ways from 0 to a node that come to no node twice.
func ways(g graph, to int) [][]int {
	var all [][]int
	var walk func(way []int)
	walk = func(way []int) {
		last := way[len(way)-1]
		if last == to {
			all = append(all, slices.Clone(way))
		}
		for _, next := range g[last] {
			if next >= 0 && next < len(g) && !slices.Contains(way, next) {
				walk(append(slices.Clone(way), next))
			}
		}
	}
	walk([]int{0})
	return all
}

// TestEveryWay asks the words of the chapter: every way from 0 to b comes through a. (Of a way that comes to a node twice what lies between may be left out.)
func TestEveryWay(t *testing.T) {
	r := chance()
	for range 3000 {
		g := someGraph(r, 1+r.IntN(7))
		for b := range g {
			all := ways(g, b)
			for a := range g {
				want := len(all) > 0
				for _, way := range all {
					want = want && slices.Contains(way, a)
				}
				if dom.Dominates(g, a, b) != want {
					t.Fatalf("Dominates(%v, %d, %d) = %v; the ways there are %v", g, a, b, !want, all)
				}
			}
		}
	}
}

// someGraph answers a graph of so many nodes, of few edges or of many, most of them not far; some numbers in it are none.
func someGraph(r *rand.Rand, n int) graph {
	g := make(graph, n)
	near := r.IntN(2) == 0
	for i := range g {
		if i+1 < n && r.IntN(8) > 0 {
			g[i] = append(g[i], i+1)
		}
		for range r.IntN(3) {
			to := r.IntN(n+2) - 1
			if near {
				to = i + r.IntN(9) - 4
			}
			g[i] = append(g[i], to)
		}
		r.Shuffle(len(g[i]), func(a, b int) { g[i][a], g[i][b] = g[i][b], g[i][a] })
	}
	names := r.Perm(n - 1)
	named := make(graph, n)
	for i, row := range g { // nodes have numbers in no order, but for the first
		at := i
		if i > 0 {
			at = names[i-1] + 1
		}
		for _, to := range row {
			if to > 0 && to < n {
				to = names[to-1] + 1
			}
			named[at] = append(named[at], to)
		}
	}
	return named
}

func TestAgainstTheModel(t *testing.T) {
	r := chance()
	deep, left := 0, 0
	for range 3000 {
		g := someGraph(r, 1+r.IntN(24))
		against(t, g)
		up := dom.Idom(g)
		for i := range g {
			steps := 0
			for n := i; up[n] >= 0; n = up[n] {
				steps++
			}
			if steps > 5 {
				deep++
			}
			if i > 0 && up[i] < 0 {
				left++
			}
		}
	}
	if deep < 2000 || left < 2000 {
		t.Errorf("%d nodes with many dominators, %d with none: too few of one kind", deep, left)
	}
}

// TestWalksComeThroughDominators: whatever way one goes, one has been at all that dominate where one is.
func TestWalksComeThroughDominators(t *testing.T) {
	r := chance()
	for range 300 {
		g := someGraph(r, 40)
		up := dom.Idom(g)
		for range 20 {
			been := map[int]bool{0: true}
			for at, steps := 0, 0; steps < 100 && len(g[at]) > 0; steps++ {
				next := g[at][r.IntN(len(g[at]))]
				if next < 0 || next >= len(g) {
					continue
				}
				at = next
				been[at] = true
				if at > 0 && (up[at] < 0 || !been[up[at]]) {
					t.Fatalf("%v: at %d, been at %v, but Idom is %d", g, at, been, up[at])
				}
			}
		}
	}
}

// TestRunsComeThroughDominators: a run has done all blocks that dominate the one that it is in.
func TestRunsComeThroughDominators(t *testing.T) {
	p := []api.Ins{ // a loop in a loop, with a way round within
		{Op: 0xb7, Dst: 0}, {Op: 0xb7, Dst: 2},
		{Op: 0xb7, Dst: 3}, // 2
		{Op: 0x15, Dst: 3, Imm: 1, Off: 1},
		{Op: 0x07, Dst: 0, Imm: 1},
		{Op: 0x07, Dst: 3, Imm: 1}, // 5
		{Op: 0xa5, Dst: 3, Imm: 3, Off: -4},
		{Op: 0x07, Dst: 2, Imm: 1},
		{Op: 0xa5, Dst: 2, Imm: 3, Off: -7},
		{Op: 0x95},
	}
	blocks, _ := flow.Blocks(p)
	var g graph
	for _, b := range blocks {
		g = append(g, b.Succ)
	}
	asks(t, g, told{
		slices.Repeat([]bool{yes}, 7),
		[]int{-1, 0, 1, 2, 2, 4, 5},
		[][]int{{}, {1}, {1, 2}, {4}, {1, 2}, {1}, {}},
		[]int{0, 1, 2, 3, 4, 5, 6},
	})
	m, _ := mem.Fresh(api.Layout{})
	end, e := interp.Run(api.Layout{}, p, m, nil, 1000)
	if e != api.OK || end.Kind != api.EndReturn || end.Value != 6 {
		t.Fatalf("%v, %d", end, e)
	}
	been := map[int]bool{}
	for fuel := range end.Steps {
		now, _ := interp.Run(api.Layout{}, p, m, nil, fuel)
		at := flow.Find(blocks, now.At)
		been[at] = true
		for a := range blocks {
			if dom.Dominates(g, a, at) && !been[a] {
				t.Errorf("in block %d, but not yet through %d", at, a)
			}
		}
	}
	if len(been) != len(blocks) {
		t.Errorf("of %d blocks %d were done", len(blocks), len(been))
	}
}
