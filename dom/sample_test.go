package dom_test

import (
	"slices"
	"testing"

	"clevis/dom"
)

// graph is the rows of a graph.
type graph = [][]int

// told is all that the package tells of a graph, but for pairs of nodes.
type told struct {
	reach    []bool
	idom     []int
	frontier [][]int
	order    []int
}

// tell asks for all that the package tells of a graph.
func tell(g graph) told {
	return told{dom.Reach(g), dom.Idom(g), dom.Frontier(g), dom.Order(g)}
}

// same tells whether two answers are; of lists that are empty one may be nil.
func same(a, b told) bool {
	return slices.Equal(a.reach, b.reach) && slices.Equal(a.idom, b.idom) && slices.EqualFunc(a.frontier, b.frontier, slices.Equal) && slices.Equal(a.order, b.order)
}

// copied answers rows that share nothing with those handed in.
func copied(g graph) graph {
	l := make(graph, len(g))
	for i, row := range g {
		l[i] = slices.Clone(row)
	}
	return l
}

// upTo answers the numbers from 0 below n.
func upTo(n int) []int {
	var l []int
	for i := range n {
		l = append(l, i)
	}
	return l
}

// asks asks for what is told of a graph.
func asks(t *testing.T, g graph, want told) {
	t.Helper()
	before := copied(g)
	if got := tell(g); !same(got, want) {
		t.Errorf("of %v is told\n%v; want\n%v", before, got, want)
	}
	if !slices.EqualFunc(g, before, slices.Equal) {
		t.Errorf("%v was changed: %v", before, g)
	}
}
