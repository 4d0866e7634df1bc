package dom_test

import (
	"math/big"
	"slices"
	"testing"

	"clevis/dom"
)

// The model says once more what the chapter says, by other means: what one may come to is closed step by step, of each node the set of those that dominate it is made smaller until it stays, and all else is asked of these sets by the chapter's words.

// modelReach tells of each node whether one may come to it.
func modelReach(g graph) []bool {
	met := make([]bool, len(g))
	if len(g) > 0 {
		met[0] = true
	}
	for more := true; more; {
		more = false
		for i, row := range g {
			for _, next := range row {
				if met[i] && next >= 0 && next < len(g) && !met[next] {
					met[next], more = true, true
				}
			}
		}
	}
	return met
}

// modelPreds answers those that lead to each node, of which one may come to both.
func modelPreds(g graph) [][]int {
	met := modelReach(g)
	preds := make([][]int, len(g))
	for i, row := range g {
		for _, next := range row {
			if met[i] && next >= 0 && next < len(g) {
				preds[next] = append(preds[next], i)
			}
		}
	}
	return preds
}

// modelSets answers of each node the set of those that dominate it: with each pred's all of that pred's, and itself; of what one cannot come to an empty one.
func modelSets(g graph) []*big.Int {
	met, preds := modelReach(g), modelPreds(g)
	all := new(big.Int).Lsh(big.NewInt(1), uint(len(g)))
	all.Sub(all, big.NewInt(1))
	sets := make([]*big.Int, len(g))
	for i := range sets {
		sets[i] = new(big.Int)
		if met[i] {
			sets[i].Set(all)
		}
		if i == 0 {
			sets[i].SetInt64(1)
		}
	}
	for more := true; more; {
		more = false
		for i := 1; i < len(g); i++ {
			if !met[i] {
				continue
			}
			set := new(big.Int).Set(all)
			for _, p := range preds[i] {
				set.And(set, sets[p])
			}
			set.SetBit(set, i, 1)
			if set.Cmp(sets[i]) != 0 {
				sets[i], more = set, true
			}
		}
	}
	return sets
}

// modelIdom answers of each node the one that all others that dominate it dominate.
func modelIdom(sets []*big.Int) []int {
	l := make([]int, len(sets))
	for b, set := range sets {
		l[b] = -1
		rest := new(big.Int).SetBit(set, b, 0)
		for a := range sets {
			if rest.Bit(a) == 1 && new(big.Int).AndNot(rest, sets[a]).Sign() == 0 {
				l[b] = a
			}
		}
	}
	return l
}

// modelFrontier asks the chapter's words of each two nodes.
func modelFrontier(preds [][]int, sets []*big.Int) [][]int {
	l := make([][]int, len(sets))
	for a := range sets {
		for b := range sets {
			from := func(p int) bool { return sets[p].Bit(a) == 1 }
			if slices.ContainsFunc(preds[b], from) && (sets[b].Bit(a) == 0 || a == b) {
				l[a] = append(l[a], b)
			}
		}
	}
	return l
}

// modelOrder walks by calls alone, and puts what is left ahead of what was left before.
func modelOrder(g graph) []int {
	var left []int
	been := make([]bool, len(g))
	var walk func(i int)
	walk = func(i int) {
		if i < 0 || i >= len(g) || been[i] {
			return
		}
		been[i] = true
		for _, next := range g[i] {
			walk(next)
		}
		left = append(left, i)
	}
	walk(0)
	slices.Reverse(left)
	return left
}

// against asks all that is told of a graph of the model, and what follows of it.
func against(t *testing.T, g graph) {
	t.Helper()
	sets := modelSets(g)
	want := told{modelReach(g), modelIdom(sets), modelFrontier(modelPreds(g), sets), modelOrder(g)}
	got := tell(g)
	if !same(got, want) {
		t.Fatalf("of %v is told\n%v; want\n%v", g, got, want)
	}
	over := make([][]bool, len(g))
	for a := range g {
		for b := range g {
			over[a] = append(over[a], dom.Dominates(g, a, b))
			if over[a][b] != (sets[b].Bit(a) == 1) {
				t.Fatalf("Dominates(%v, %d, %d) = %v", g, a, b, over[a][b])
			}
		}
	}
	follows(t, g, got, over)
}

// follows asks whether dominators of a node are in a row, with Idom as the last one but the node, and whether one stands ahead of what it dominates in Order (P15.4).
func follows(t *testing.T, g graph, of told, over [][]bool) {
	t.Helper()
	var all [][]int
	for n := range g {
		above := slices.DeleteFunc(upTo(len(g)), func(a int) bool { return !over[a][n] })
		all = append(all, above)
		for _, a := range above {
			for _, b := range above {
				if !over[a][b] && !over[b][a] {
					t.Fatalf("%v: %d and %d dominate %d, and neither the other", g, a, b, n)
				}
			}
			if slices.Index(of.order, a) > slices.Index(of.order, n) || !slices.Contains(of.order, a) {
				t.Fatalf("%v: %d dominates %d, but does not stand ahead of it in %v", g, a, n, of.order)
			}
		}
	}
	for n, up := range of.idom {
		want := 0
		if up >= 0 {
			want = len(all[up]) + 1
		} else if n == 0 {
			want = 1
		}
		if len(all[n]) != want {
			t.Fatalf("%v: Idom of %d is %d, but it has the dominators %v", g, n, up, all[n])
		}
	}
}
