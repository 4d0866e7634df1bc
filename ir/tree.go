package ir

import (
	"slices"

	"clevis/dom"
)

// tree is which parts dominate which. Each part has a number, and what it dominates has those from its own on, so that to ask it once for each use is no walk each time.
type tree struct {
	number []int
	count  []int // how many it dominates
}

// grow answers the tree of parts that one can all come to.
func grow(succ [][]int) tree {
	t := tree{number: make([]int, len(succ)), count: slices.Repeat([]int{1}, len(succ))}
	up, order := dom.Idom(succ), dom.Order(succ)
	below := order[1:]
	for _, part := range slices.Backward(below) {
		t.count[up[part]] += t.count[part]
	}
	free := slices.Repeat([]int{1}, len(succ)) // the next number for what a part dominates
	for _, part := range below {
		over := up[part]
		t.number[part] = free[over]
		free[over] += t.count[part]
		free[part] = t.number[part] + 1
	}
	return t
}

// dominates tells whether part a dominates part b.
func (t tree) dominates(a, b int) bool {
	behind := t.number[b] - t.number[a]
	return 0 <= behind && behind < t.count[a]
}
