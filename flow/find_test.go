package flow_test

import (
	"math"
	"testing"

	"clevis/api"
	"clevis/flow"
)

// finds asks for the places of the blocks in which instructions stand.
func finds(t *testing.T, l []api.Block, want map[int]int) {
	t.Helper()
	before := copied(l)
	for i, place := range want {
		if got := flow.Find(l, i); got != place {
			t.Errorf("Find(%v, %d) = %d; want %d", l, i, got, place)
		}
	}
	if !same(l, before) {
		t.Errorf("Find changed %v", before)
	}
}

func TestFind(t *testing.T) {
	l, _ := flow.Blocks(row(jeq(3), mov(0), wide(5), mov(1), ja(1), mov(2), exit, mov(3), exit))
	finds(t, l, map[int]int{
		math.MinInt: -1, -2: -1, -1: -1,
		0: 0,
		1: 1, 2: 1, 3: 1, // the hole, too, lies below To
		4: 2, 5: 2,
		6: -1, // nobody comes there
		7: 3,
		8: -1, 9: -1, 10: -1, math.MaxInt: -1,
	})
}

// TestFindOfAnyList asks the words of the chapter of lists that no program has.
func TestFindOfAnyList(t *testing.T) {
	for _, l := range [][]api.Block{nil, {}, {{}}, {{}, {}}, make([]api.Block, 5000)} {
		finds(t, l, map[int]int{math.MinInt: -1, -1: -1, 0: -1, 1: -1, math.MaxInt: -1})
	}
	finds(t, []api.Block{{From: 7, To: 9}, {From: 2, To: 5}, {From: 0, To: 1}}, map[int]int{0: 2, 1: -1, 2: 1, 4: 1, 5: -1, 6: -1, 7: 0, 8: 0, 9: -1})
	// of several the first, whichever begins ahead or is longer
	finds(t, []api.Block{{From: 3, To: 6}, {From: 0, To: 9}, {From: 3, To: 4}, {From: 9, To: 10}, {From: 9, To: 12}}, map[int]int{0: 1, 2: 1, 3: 0, 5: 0, 6: 1, 8: 1, 9: 3, 10: 4})
	// nothing stands in one that ends where it begins, or ahead of it
	finds(t, []api.Block{{From: 3, To: 3}, {From: 5, To: 2}, {From: 3, To: 4}}, map[int]int{2: -1, 3: 2, 4: -1, 5: -1})
	// Last, and what leads where, is not asked
	finds(t, []api.Block{{From: 1, To: 3, Last: 99, Succ: []int{7}, Pred: []int{-7}}, {Last: 5}}, map[int]int{0: -1, 1: 0, 2: 0, 3: -1, 5: -1, 99: -1})
	finds(t, []api.Block{{From: math.MinInt, To: -3}, {From: -2, To: math.MaxInt}}, map[int]int{math.MinInt: 0, -4: 0, -3: -1, -2: 1, 0: 1, math.MaxInt - 1: 1, math.MaxInt: -1})
	finds(t, []api.Block{{To: 1}, {From: 1, To: 2}}[:1], map[int]int{0: 0, 1: -1}) // what lies behind the end is nobody's
}
