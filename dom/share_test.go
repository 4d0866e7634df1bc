package dom_test

import (
	"slices"
	"sync"
	"testing"

	"clevis/dom"
)

// branchy has nodes with the same Frontier as others, several in a Frontier, loops, and nodes that one cannot come to.
var branchy = graph{{1, 2}, {3, 4, 3}, {4, 3}, {5, 1}, {5, 4}, {0, 6}, {}, {6, -1}, {9, 7}}

// TestListsShareNothing: to write on one, behind its end too, changes no other, of the same answer or another.
func TestListsShareNothing(t *testing.T) {
	want := told{modelReach(branchy), modelIdom(modelSets(branchy)), modelFrontier(modelPreds(branchy), modelSets(branchy)), modelOrder(branchy)}
	one, other := tell(branchy), tell(branchy)
	for i, row := range one.frontier {
		row = row[:cap(row)]
		for j := range row {
			row[j] = 1000 + i
		}
	}
	for i, row := range one.frontier {
		for _, n := range row {
			if n != 1000+i {
				t.Fatalf("two lists share their numbers: %v", one.frontier)
			}
		}
	}
	for i := range one.frontier {
		one.frontier[i] = []int{77}
	}
	for i := range one.reach {
		one.reach[i] = !one.reach[i]
	}
	for i := range one.idom {
		one.idom[i] = 77
	}
	for i := range one.order {
		one.order[i] = 77
	}
	if !same(other, want) || !same(tell(branchy), want) {
		t.Error("two answers share what they hold")
	}
}

// TestAnswersShareNothingWithRows: to write on what was handed in changes no answer, and the other way round.
func TestAnswersShareNothingWithRows(t *testing.T) {
	g := copied(branchy)
	want, got := tell(g), tell(g)
	for _, row := range g {
		for i := range row {
			row[i] = 77
		}
	}
	if !same(got, want) {
		t.Error("an answer shares what it holds with what was handed in")
	}
	g = copied(branchy)
	for _, row := range tell(g).frontier {
		for i := range row {
			row[i] = 77
		}
	}
	if !slices.EqualFunc(g, branchy, slices.Equal) {
		t.Error("what was handed in is shared with an answer")
	}
}

// TestNothingIsChanged: nor is what lies behind the ends of lists, and it is not asked.
func TestNothingIsChanged(t *testing.T) {
	for _, g := range []graph{branchy, lengauerTarjan, {}, {{}}, {{0}}, {{7, -7}, {1}}} {
		want := tell(g)
		behind := append(copied(g), []int{0, 1}, []int{-5})
		for i, row := range behind[:len(g)] {
			behind[i] = append(slices.Clone(row), 0, 1, 2, 99)[:len(row)]
		}
		if !same(tell(behind[:len(g)]), want) {
			t.Errorf("%v: what lies behind the end is asked", g)
		}
		for a := -1; a <= len(g); a++ {
			dom.Dominates(behind[:len(g)], a, 0)
		}
		for i, row := range behind[:len(g)] {
			if whole := row[:len(row)+4]; !slices.Equal(whole, append(slices.Clone(g[i]), 0, 1, 2, 99)) {
				t.Errorf("%v was changed: %v", g[i], whole)
			}
		}
		if !slices.EqualFunc(behind[len(g):], graph{{0, 1}, {-5}}, slices.Equal) {
			t.Errorf("what lies behind %v was changed", g)
		}
	}
}

// TestRowsThatAreOne: a list that stands in several places is as good as its copies.
func TestRowsThatAreOne(t *testing.T) {
	row := []int{2, 1, 3, 5}
	g := graph{row, row[:1], row[1:2], row, row[2:], row}
	want := tell(copied(g))
	if got := tell(g); !same(got, want) || !slices.Equal(row, []int{2, 1, 3, 5}) {
		t.Errorf("of %v is told %v; want %v", g, got, want)
	}
}

// TestNothingIsKept: an answer hangs on no other graph, and calls may be done at the same time.
func TestNothingIsKept(t *testing.T) {
	want, other := tell(branchy), tell(lengauerTarjan)
	var all sync.WaitGroup
	for i := range 64 {
		all.Go(func() {
			switch i % 4 {
			case 0:
				asks(t, lengauerTarjan, other)
			case 1:
				if dom.Dominates(branchy, 1, 3) || !dom.Dominates(branchy, 0, 3) {
					t.Error("Dominates answers something else")
				}
			default:
				asks(t, branchy, want)
			}
		})
	}
	all.Wait()
}

// TestAnswersHangOnNoOrder: nodes that were met stand in a map, which is gone through in any order.
func TestAnswersHangOnNoOrder(t *testing.T) {
	g := someGraph(chance(), 300)
	want := tell(g)
	for range 50 {
		if got := tell(copied(g)); !same(got, want) {
			t.Fatalf("of %v is told %v, then %v", g, want, got)
		}
	}
}
