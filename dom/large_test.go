package dom_test

import (
	"math/rand/v2"
	"slices"
	"testing"

	"clevis/dom"
)

// chain answers a graph in which each node leads to the next one, and the last one to what is handed in.
func chain(n int, last ...int) graph {
	g := make(graph, n)
	to := upTo(n)
	for i := range n - 1 {
		g[i] = to[i+1 : i+2 : i+2]
	}
	g[n-1] = last
	return g
}

// TestDeepOnes: ways of any length, with more on each node's row than the way.
func TestDeepOnes(t *testing.T) {
	for _, n := range []int{2, 10, 100, 998, 999, 1000, 1001, 1002, 1003, 1004, 1005, 1999, 2000, 2001, 2002, 2003, 2004, 2005, 3003, 4004, 5005, 1 << 16, 100001} {
		first, then := make(graph, 2*n), make(graph, 2*n)
		var ahead, behind []int
		for i := range n {
			first[i], then[i] = []int{i + 1, n + i, i}, []int{n + i, i + 1, i}
			ahead = append(ahead, i, n+i)
			behind = append(behind, i)
		}
		first[n-1], then[n-1] = []int{2*n - 1}, []int{2*n - 1}
		for i := range n {
			behind = append(behind, 2*n-1-i)
		}
		if !slices.Equal(dom.Order(first), ahead) || !slices.Equal(dom.Order(then), behind) {
			t.Errorf("Order of ways of %d nodes", n)
		}
		for _, g := range []graph{first, then} {
			up := dom.Idom(g)
			for i := range n {
				if up[i] != i-1 || up[n+i] != i {
					t.Fatalf("Idom of node %d of %d is %d, and of what it leads to %d", i, n, up[i], up[n+i])
				}
			}
		}
	}
}

// deepGraph answers a graph whose walk goes deep, back a little, and deep again.
func deepGraph(r *rand.Rand, n int) graph {
	g := make(graph, n)
	for i := 1; i < n; i++ {
		from := i - 1
		if r.IntN(50) == 0 {
			from = max(0, i-1-r.IntN(3000))
		}
		g[from] = append(g[from], i)
		if r.IntN(4) == 0 {
			g[i] = append(g[i], r.IntN(n))
		}
		if r.IntN(4) == 0 {
			g[r.IntN(i)] = append(g[r.IntN(i)], i)
		}
	}
	return g
}

func TestDeepOnesAgainstTheModel(t *testing.T) {
	r := chance()
	for range 3 {
		g := deepGraph(r, 2500)
		sets := modelSets(g)
		want := told{modelReach(g), modelIdom(sets), modelFrontier(modelPreds(g), sets), modelOrder(g)}
		if !same(tell(g), want) {
			t.Errorf("of a graph of %d nodes something else is told", len(g))
		}
		for range 300 {
			a, b := r.IntN(len(g)), r.IntN(len(g))
			if dom.Dominates(g, a, b) != (sets[b].Bit(a) == 1) {
				t.Errorf("Dominates(%d, %d) of a graph of %d nodes", a, b, len(g))
			}
		}
	}
	for range 5 {
		g := deepGraph(r, 30000)
		if !slices.Equal(dom.Order(g), modelOrder(g)) || !slices.Equal(dom.Reach(g), modelReach(g)) {
			t.Errorf("Order, Reach of a graph of %d nodes", len(g))
		}
	}
}

// TestTheLongestWay: as many nodes as there may be (a row and a number of each), one behind the other, and back.
func TestTheLongestWay(t *testing.T) {
	n := 1 << 23
	g := chain(n, 1)
	for i, node := range dom.Order(g) {
		if node != i {
			t.Fatalf("Order tells %d at %d", node, i)
		}
	}
	for i, up := range dom.Idom(g) {
		if up != i-1 {
			t.Fatalf("Idom of %d is %d", i, up)
		}
	}
}

// TestTheWidest: one row of all nodes, and one of no other node as often as may be.
func TestTheWidest(t *testing.T) {
	n := 1 << 20
	g := make(graph, n)
	g[0] = upTo(n)
	order := append([]int{0}, upTo(n)[1:]...)
	slices.Reverse(order[1:])
	if !slices.Equal(dom.Order(g), order) || slices.Contains(dom.Reach(g), no) || slices.Max(dom.Idom(g)) != 0 {
		t.Error("of a graph with one row of all nodes something else is told")
	}
	if l := dom.Frontier(g); !slices.Equal(l[0], []int{0}) || slices.ContainsFunc(l[1:], func(row []int) bool { return len(row) > 0 }) {
		t.Error("Frontier of a graph with one row of all nodes")
	}
	asks(t, graph{make([]int, 1<<22), make([]int, 1<<22)}, told{[]bool{yes, no}, []int{-1, -1}, [][]int{{0}, {}}, []int{0}})
}

// TestManyWaysBack: a long way, and from its end ways back to all of it: none is gone back along step by step for each.
func TestManyWaysBack(t *testing.T) {
	n := 1 << 19
	for i, up := range dom.Idom(chain(n, upTo(n)...)) {
		if up != i-1 {
			t.Fatalf("Idom of %d is %d", i, up)
		}
	}
	g := append(chain(n, upTo(2 * n)[n:]...), slices.Repeat(graph{{1, 1}}, n)...)
	for i, row := range dom.Frontier(g) {
		if i == 0 && len(row) > 0 || i > 0 && !slices.Equal(row, []int{1}) {
			t.Fatalf("Frontier of %d is %v", i, row)
		}
	}
	if !dom.Dominates(g, n-1, 2*n-1) || dom.Dominates(g, n, 2*n-1) {
		t.Error("Dominates at the end of a long way")
	}
}

// TestLargeFrontiers: of each node all those ahead of it.
func TestLargeFrontiers(t *testing.T) {
	n := 1 << 12
	all := upTo(n)
	for i, row := range dom.Frontier(chain(n, all...)) {
		if !slices.Equal(row, all[:i+1]) {
			t.Fatalf("Frontier of %d has %d nodes", i, len(row))
		}
	}
}
