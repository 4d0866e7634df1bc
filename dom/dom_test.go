package dom_test

import (
	"math"
	"slices"
	"testing"

	"clevis/dom"
)

const (
	yes = true
	no  = false
)

// TestTheExample is the chapter's.
func TestTheExample(t *testing.T) {
	asks(t, graph{{1, 2}, {3}, {3}, {}}, told{
		[]bool{yes, yes, yes, yes},
		[]int{-1, 0, 0, 0},
		[][]int{{}, {3}, {3}, {}},
		[]int{0, 2, 1, 3},
	})
}

func TestSmallOnes(t *testing.T) {
	asks(t, nil, told{})
	asks(t, graph{}, told{})
	asks(t, graph{{0}, {1}}[:0], told{})
	one := told{[]bool{yes}, []int{-1}, [][]int{{}}, []int{0}}
	asks(t, graph{nil}, one)
	asks(t, graph{{}}, one)
	asks(t, graph{{0}, {1}}[:1], told{[]bool{yes}, []int{-1}, [][]int{{0}}, []int{0}})
	asks(t, graph{{0, 0}}, told{[]bool{yes}, []int{-1}, [][]int{{0}}, []int{0}})
	asks(t, graph{{1}, {}}, told{[]bool{yes, yes}, []int{-1, 0}, [][]int{{}, {}}, []int{0, 1}})
	asks(t, graph{{1}, {1}}, told{[]bool{yes, yes}, []int{-1, 0}, [][]int{{}, {1}}, []int{0, 1}})
}

// TestBackToTheFirst: node 0 has no Idom, though one comes to it from others.
func TestBackToTheFirst(t *testing.T) {
	asks(t, graph{{1}, {0}}, told{[]bool{yes, yes}, []int{-1, 0}, [][]int{{0}, {0}}, []int{0, 1}})
	asks(t, graph{{1}, {2}, {0, 1}}, told{[]bool{yes, yes, yes}, []int{-1, 0, 1}, [][]int{{0}, {0, 1}, {0, 1}}, []int{0, 1, 2}})
	asks(t, graph{{1, 2}, {0}, {0}}, told{[]bool{yes, yes, yes}, []int{-1, 0, 0}, [][]int{{0}, {0}, {0}}, []int{0, 2, 1}})
}

// TestWhatOneCannotComeTo is dominated by nothing, and what it leads to is not asked.
func TestWhatOneCannotComeTo(t *testing.T) {
	asks(t, graph{{2}, {2}, {}}, told{[]bool{yes, no, yes}, []int{-1, -1, 0}, [][]int{{}, {}, {}}, []int{0, 2}})
	asks(t, graph{{}, {0, 1, 2}, {1}}, told{[]bool{yes, no, no}, []int{-1, -1, -1}, [][]int{{}, {}, {}}, []int{0}})
	// 5 and 6 lead into a row of two
	asks(t, graph{{1}, {3}, {}, {}, {}, {1, 6}, {3, 5}}, told{
		[]bool{yes, yes, no, yes, no, no, no},
		[]int{-1, 0, -1, 1, -1, -1, -1},
		make([][]int, 7),
		[]int{0, 1, 3},
	})
}

// TestNumbersThatAreNone are passed over.
func TestNumbersThatAreNone(t *testing.T) {
	asks(t, graph{{-1, 1, 2, math.MaxInt, math.MinInt}, {2, -2}}, told{[]bool{yes, yes}, []int{-1, 0}, [][]int{{}, {}}, []int{0, 1}})
	asks(t, graph{{-1}}, told{[]bool{yes}, []int{-1}, [][]int{{}}, []int{0}})
	asks(t, graph{{1, 0}}, told{[]bool{yes}, []int{-1}, [][]int{{0}}, []int{0}})
	asks(t, graph{{4, 1, -1, 2}, {3, 4}, {math.MinInt, 3}, {1 << 32, 5}}, told{
		[]bool{yes, yes, yes, yes},
		[]int{-1, 0, 0, 0},
		[][]int{{}, {3}, {3}, {}},
		[]int{0, 2, 1, 3},
	})
	// rows are of the nodes below their number alone
	asks(t, graph{{1, 2}, {3}, {3}, {}}[:3], told{[]bool{yes, yes, yes}, []int{-1, 0, 0}, [][]int{{}, {}, {}}, []int{0, 2, 1}})
	asks(t, graph{upTo(9)[1:2], {}, {}}, told{[]bool{yes, yes, no}, []int{-1, 0, -1}, [][]int{{}, {}, {}}, []int{0, 1}})
}

// TestSeveralTimes: a row may hold a node more than once; it is told once.
func TestSeveralTimes(t *testing.T) {
	asks(t, graph{{1, 1, 2, 1, 2}, {3, 3}, {3, 3, 3}, {}}, told{
		[]bool{yes, yes, yes, yes},
		[]int{-1, 0, 0, 0},
		[][]int{{}, {3}, {3}, {}},
		[]int{0, 2, 1, 3},
	})
	asks(t, graph{{1, 1}, {2, 2}, {}}, told{[]bool{yes, yes, yes}, []int{-1, 0, 1}, [][]int{{}, {}, {}}, []int{0, 1, 2}})
}

// TestOrderGoesByRows: a walk goes on to a row's nodes as they stand there.
func TestOrderGoesByRows(t *testing.T) {
	for _, c := range []struct {
		g    graph
		want []int
	}{
		{graph{{1, 2, 3}, {}, {}, {}}, []int{0, 3, 2, 1}},
		{graph{{3, 1, 2}, {}, {}, {}}, []int{0, 2, 1, 3}},
		{graph{{2, 1}, {3}, {3}, {}}, []int{0, 1, 2, 3}},
		{graph{{1, 2}, {2}, {}}, []int{0, 1, 2}},
		{graph{{2, 1}, {2}, {}}, []int{0, 1, 2}},
		{graph{{1, 2}, {}, {1}}, []int{0, 2, 1}},
		{graph{{1}, {2, 3}, {1}, {}}, []int{0, 1, 3, 2}},
		{graph{{1}, {3, 2}, {1}, {}}, []int{0, 1, 2, 3}},
		{graph{{1, 3}, {2}, {3, 0}, {1}}, []int{0, 1, 2, 3}}, // 3 is met from 2, ahead of 0's row
		{graph{{1, 4}, {2}, {3}, {4}, {2}}, []int{0, 1, 2, 3, 4}},
		{graph{{4, 1}, {2}, {3}, {4}, {2}}, []int{0, 1, 4, 2, 3}},
	} {
		if got := dom.Order(c.g); !slices.Equal(got, c.want) {
			t.Errorf("Order(%v) = %v; want %v", c.g, got, c.want)
		}
	}
}

// TestLoops: what a loop leads back to is in its own frontier.
func TestLoops(t *testing.T) {
	asks(t, graph{{1}, {2, 3}, {1}, {}}, told{
		[]bool{yes, yes, yes, yes},
		[]int{-1, 0, 1, 1},
		[][]int{{}, {1}, {1}, {}},
		[]int{0, 1, 3, 2},
	})
	// with two ways in
	asks(t, graph{{1, 2}, {2}, {1}}, told{
		[]bool{yes, yes, yes},
		[]int{-1, 0, 0},
		[][]int{{}, {2}, {1}},
		[]int{0, 1, 2},
	})
	// one within another, and both left from the inner one
	asks(t, graph{{1}, {2}, {3}, {2, 1, 4}, {}}, told{
		[]bool{yes, yes, yes, yes, yes},
		[]int{-1, 0, 1, 2, 3},
		[][]int{{}, {1}, {1, 2}, {1, 2}, {}},
		[]int{0, 1, 2, 3, 4},
	})
}

// TestFrontierRises, in whatever order a walk meets what is in it.
func TestFrontierRises(t *testing.T) {
	asks(t, graph{{1, 2}, {4, 3}, {4, 3}, {}, {}}, told{
		[]bool{yes, yes, yes, yes, yes},
		[]int{-1, 0, 0, 0, 0},
		[][]int{{}, {3, 4}, {3, 4}, {}, {}},
		[]int{0, 2, 1, 3, 4},
	})
	// what a node dominates, but for itself, is not in its frontier, though there are two ways
	asks(t, graph{{5}, {2, 0}, {}, {4}, {1, 2}, {3, 6}, {1}}, told{
		[]bool{yes, yes, yes, yes, yes, yes, yes},
		[]int{-1, 5, 5, 5, 3, 0, 5},
		[][]int{{0}, {0, 2}, {}, {1, 2}, {1, 2}, {0}, {1}},
		[]int{0, 5, 6, 3, 4, 1, 2},
	})
}

// lengauerTarjan is the graph of their paper, R, A to L: many ways in and out of loops.
var lengauerTarjan = graph{{1, 2, 3}, {4}, {1, 4, 5}, {6, 7}, {12}, {8}, {9}, {9, 10}, {5, 11}, {11}, {9}, {0, 9}, {8}}

func TestManyWays(t *testing.T) {
	if got, want := dom.Idom(lengauerTarjan), []int{-1, 0, 0, 0, 0, 0, 3, 3, 0, 0, 7, 0, 4}; !slices.Equal(got, want) {
		t.Errorf("Idom(%v) = %v; want %v", lengauerTarjan, got, want)
	}
	against(t, lengauerTarjan)
}

func TestDominates(t *testing.T) {
	g := graph{{1}, {2, 3, 5}, {4}, {4, 4}, {1}, {7, -1}, {4, 6}, {}}
	want := map[int][]int{0: {0}, 1: {0, 1}, 2: {0, 1, 2}, 3: {0, 1, 3}, 4: {0, 1, 4}, 5: {0, 1, 5}, 7: {0, 1, 5, 7}}
	wrong := []int{math.MinInt, -9, -2, -1, 8, 9, 1 << 32, math.MaxInt}
	for _, a := range append(wrong, upTo(8)...) {
		for _, b := range append(wrong, upTo(8)...) {
			if got := dom.Dominates(g, a, b); got != slices.Contains(want[b], a) {
				t.Errorf("Dominates(%v, %d, %d) = %v", g, a, b, got)
			}
		}
	}
}

// TestDominatesOfSmallOnes: of nodes that one cannot come to nothing is true, and a node that is none has no ways.
func TestDominatesOfSmallOnes(t *testing.T) {
	for _, c := range []struct {
		g    graph
		a, b int
		want bool
	}{
		{nil, 0, 0, no},
		{graph{}, 0, 0, no},
		{graph{{0}}[:0], 0, 0, no},
		{graph{nil}, 0, 0, yes},
		{graph{{0}}, 0, 0, yes},
		{graph{{}}, 0, 1, no},
		{graph{{}}, 1, 0, no},
		{graph{{1}}, 1, 1, no},
		{graph{{-1}}, -1, 0, no},
		{graph{{-1}}, -1, -1, no},
		{graph{{-1}}, 0, -1, no},
		{graph{{}, {}}, 0, 1, no},
		{graph{{}, {}}, 1, 0, no},
		{graph{{}, {}}, 1, 1, no},
		{graph{{}, {0, 1}}, 1, 0, no},
		{graph{{}, {1}}, 1, 1, no},
		{graph{{1}, {0}}, 0, 1, yes},
		{graph{{1}, {0}}, 1, 0, no},
		{graph{{1}, {0}}, 1, 1, yes},
		{graph{{1, 2}, {2}, {}}, 1, 2, no},
		{graph{{1}, {2}, {}}, 1, 2, yes},
		{graph{{1}, {2}, {}}, 0, 2, yes},
		{graph{{1}, {2}, {}, {2}}, 1, 2, yes}, // nobody comes to 3
		{graph{{1}, {2}, {}, {2}}, 3, 2, no},
		{graph{{1}, {2, 3}, {1}, {}}, 2, 3, no}, // a loop need not be gone round
		{graph{{1}, {2, 3}, {1}, {}}, 1, 3, yes},
	} {
		if got := dom.Dominates(c.g, c.a, c.b); got != c.want {
			t.Errorf("Dominates(%v, %d, %d) = %v", c.g, c.a, c.b, got)
		}
	}
}
