package dead_test

import (
	"slices"

	"clevis/api"
)

// The model says once more what the chapter says, by other means: who uses whom are pairs, and they are gone through until in a whole round nothing more is needed.

// nobody is a user that makes no value and is there whoever needs it.
const nobody = -1

// pair is a value that is used, and the value of the phi or node that uses it.
type pair struct{ used, by int }

func modelPairs(f api.Ir) []pair {
	var l []pair
	for _, p := range f.Parts {
		for _, x := range p.Phis {
			for _, id := range x.From {
				l = append(l, pair{id, x.Id})
			}
		}
		for _, n := range p.Nodes {
			by := n.Id
			if modelStays(n) {
				by = nobody
			}
			for _, id := range modelUses(n) {
				l = append(l, pair{id, by})
			}
		}
		if p.End.Op == 2 {
			l = append(l, pair{p.End.B, nobody})
		}
		if p.End.Op != 1 {
			l = append(l, pair{p.End.A, nobody})
		}
	}
	return l
}

func modelStays(n api.Node) bool {
	return n.Op == 6 || n.Op == 7 || n.Op == 5 && n.Guard
}

func modelUses(n api.Node) []int {
	switch n.Op {
	case 4, 6:
		return []int{n.A, n.B}
	case 5:
		return []int{n.A}
	case 7:
		return n.Args
	}
	return nil
}

// modelNeeded is of code that may be.
func modelNeeded(f api.Ir) []bool {
	pairs := modelPairs(f)
	needed := make([]bool, f.Values)
	for more := true; more; {
		more = false
		for _, x := range pairs {
			if !needed[x.used] && (x.by == nobody || needed[x.by]) {
				needed[x.used], more = true, true
			}
		}
	}
	return needed
}

// modelDead is of code that may be.
func modelDead(f api.Ir) api.Ir {
	needed := modelNeeded(f)
	g := copied(f)
	for i := range g.Parts {
		p := &g.Parts[i]
		p.Phis = slices.DeleteFunc(p.Phis, func(x api.Phi) bool { return !needed[x.Id] })
		p.Nodes = slices.DeleteFunc(p.Nodes, func(n api.Node) bool { return !modelStays(n) && !needed[n.Id] })
	}
	return g
}
