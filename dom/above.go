package dom

import "slices"

// forest is trees of nodes of a walk, by their numbers. A way towards a root is made shorter whenever it is gone, so that none is long for long.
type forest struct {
	up    []int // nobody of a root
	semi  []int // the least number from which a way leads here with none between but those greater than this one
	least []int // of the node and those that its up leaves out, the one of the least semi
	way   []int // room for a way, used again
}

// plant answers a forest of as many roots.
func plant(n int) *forest {
	f := &forest{up: slices.Repeat([]int{nobody}, n), semi: make([]int, n), least: make([]int, n)}
	for at := range n {
		f.semi[at], f.least[at] = at, at
	}
	return f
}

// best answers of a node and those above it, but the root, that of the least semi. It is no call within a call, since a tree may be deep.
func (f *forest) best(at int) int {
	if f.up[at] == nobody {
		return at
	}
	f.way = f.way[:0]
	for n := at; f.up[f.up[n]] != nobody; n = f.up[n] {
		f.way = append(f.way, n)
	}
	for _, n := range slices.Backward(f.way) {
		over := f.up[n]
		if f.semi[f.least[over]] < f.semi[f.least[n]] {
			f.least[n] = f.least[over]
		}
		f.up[n] = f.up[over]
	}
	return f.least[at]
}

// above answers by number the numbers of the nearest ones that one must have come through, as Lengauer and Tarjan find them: to try until nothing more changes would take too long in large graphs.
func above(t *tour, preds [][]int) []int {
	f := plant(len(preds))
	up := slices.Repeat([]int{nobody}, len(preds))
	wait := make([][]int, len(preds)) // at their semi, till the trees reach up to there
	for at := len(preds) - 1; at > 0; at-- {
		for _, p := range preds[at] {
			f.semi[at] = min(f.semi[at], f.semi[f.best(p)])
		}
		wait[f.semi[at]] = append(wait[f.semi[at]], at)
		from := t.from[at]
		f.up[at] = from
		for _, n := range wait[from] {
			up[n] = from
			if b := f.best(n); f.semi[b] < from {
				up[n] = b // the same ones are above both
			}
		}
		wait[from] = nil
	}
	for at := range up {
		if up[at] != nobody && up[at] != f.semi[at] {
			up[at] = up[up[at]]
		}
	}
	return up
}
