package dom

// deepest is how many calls of a walk may stand within one: a way may be longer than a stack may be deep.
const deepest = 1000

// tour is what a walk met. Nodes have numbers in it: the first one met has 0.
type tour struct {
	numbers map[int]int // of the nodes that were met
	nodes   []int       // by number
	from    []int       // by number: the number of the one from which it was met
	done    []int       // by number: how much of its row was gone through
	left    []int       // nodes, as they were left
}

// met tells whether the walk came to a node.
func (t *tour) met(node int) bool {
	_, ok := t.numbers[node]
	return ok
}

// meet gives a node its number.
func (t *tour) meet(node, from int) int {
	number := len(t.nodes)
	t.numbers[node] = number
	t.nodes = append(t.nodes, node)
	t.from = append(t.from, from)
	t.done = append(t.done, 0)
	return number
}

// walk goes from node 0 to all that one may come to, but not into the closed one.
func walk(succ [][]int, closed int) *tour {
	t := &tour{numbers: map[int]int{}}
	open := func(node int) bool {
		return 0 <= node && node < len(succ) && node != closed && !t.met(node)
	}
	// visit goes on with a node's row till it can leave the node, or answers how far it came when there is no room for one more call.
	var visit func(at, room int) int
	visit = func(at, room int) int {
		row := succ[t.nodes[at]]
		for t.done[at] < len(row) {
			node := row[t.done[at]]
			t.done[at]++
			if !open(node) {
				continue
			}
			next := t.meet(node, at)
			if room == 0 {
				return next
			}
			if stopped := visit(next, room-1); stopped != nobody {
				return stopped
			}
		}
		t.left = append(t.left, t.nodes[at])
		return nobody
	}
	if !open(0) {
		return t
	}
	for at := t.meet(0, nobody); at != nobody; {
		if stopped := visit(at, deepest); stopped != nobody {
			at = stopped
		} else {
			at = t.from[at]
		}
	}
	return t
}

// preds answers by number the numbers of those that lead there.
func (t *tour) preds(succ [][]int) [][]int {
	l := make([][]int, len(t.nodes))
	for at, node := range t.nodes {
		for _, next := range succ[node] {
			if number, met := t.numbers[next]; met {
				l[number] = append(l[number], at)
			}
		}
	}
	return l
}
