package fold_test

import (
	"slices"
	"testing"

	"clevis/api"
	"clevis/fold"
	"clevis/ir"
)

// smallEnds answers all Ends of code of n parts, by value 0, which is not known: to each part, or decided to go one of two ways, or not decided.
func smallEnds(n int) []api.Term {
	l := []api.Term{back(0)}
	for to := 1; to < n; to++ {
		l = append(l, on(to))
		for other := 1; other < n; other++ {
			if other != to {
				l = append(l, when(api.Jeq, 0, 0, to, other), when(api.Jlt, 1, 1, to, other), when(api.Jge, 0, 1, to, other))
			}
		}
	}
	return l
}

// smallCode answers code of these Ends. Each part but the first has a phi, which chooses the number of the part from which one comes.
func smallCode(ends []api.Term) api.Ir {
	f := api.Ir{Values: 2 + 2*len(ends)}
	for i, end := range ends {
		p := api.Part{End: end}
		for from, other := range ends {
			if slices.Contains(modelSuccessors(other), i) {
				p.Pred = append(p.Pred, from)
			}
		}
		if i == 0 {
			p.Nodes = []api.Node{now(0), num(1, 9)}
			for from := range ends {
				p.Nodes = append(p.Nodes, num(2+from, uint64(from)))
			}
		} else {
			x := phi(2 + len(ends) + i)
			for _, from := range p.Pred {
				x.From = append(x.From, 2+from)
			}
			p.Phis = phis(x)
		}
		f.Parts = append(f.Parts, p)
	}
	return f
}

func modelSuccessors(t api.Term) []int {
	return map[api.TermOp][]int{1: {t.To}, 2: {t.To, t.Else}}[t.Op]
}

// TestAllSmallGraphs: each way that up to four parts may lead to one another.
func TestAllSmallGraphs(t *testing.T) {
	right, gone := 0, 0
	for n := 1; n <= 4; n++ {
		all := smallEnds(n)
		at := make([]int, n)
		for more := true; more; {
			var ends []api.Term
			for _, i := range at {
				ends = append(ends, all[i])
			}
			f := smallCode(ends)
			g, e := fold.Fold(f)
			if may := ir.Check(f) == api.OK; may != (e == api.OK) {
				t.Fatalf("Fold(%v) = %d", f, e)
			} else if may {
				right++
				gone += len(f.Parts) - len(g.Parts)
				if ir.Check(g) != api.OK || !sameCode(g, modelFold(f)) {
					t.Fatalf("Fold(%v)\n= %v;\nwant %v", f, g, modelFold(f))
				}
				if right%8 == 0 {
					does(t, f, g, nil, 20)
				}
			}
			more = false
			for i := range at {
				at[i]++
				if more = at[i] < len(all); more {
					break
				}
				at[i] = 0
			}
		}
	}
	if right < 50000 || gone < 50000 {
		t.Errorf("only %d may be, %d parts were left out", right, gone)
	}
}

// TestAllSmallLoops: two phis and a reckoning, that use one another and some values in all ways.
func TestAllSmallLoops(t *testing.T) {
	count := 0
	for _, op := range []int{api.Add, api.Sub, api.Mul, api.Div, api.And, api.Neg, api.Mov, api.Xor} {
		for choice := range 3 * 6 * 3 * 6 * 5 * 5 {
			pick := func(n int) int {
				x := choice % n
				choice /= n
				return x
			}
			// 0 is not known, 1 is 0, 2 is 5, 3 and 4 are the phis, 5 is reckoned
			f := code(6,
				part(nil, on(1), now(0), num(1, 0), num(2, 5)),
				chosen([]int{0, 1}, phis(phi(3, pick(3), pick(6)), phi(4, pick(3), pick(6))), when(api.Jlt, 0, 2, 1, 2), alu(5, op, wide, pick(5), pick(5))),
				part([]int{1}, back(5)))
			if got, want := fold.Known(f), modelKnown(f); !slices.Equal(got, want) {
				t.Fatalf("Known(%v) = %v; want %v", f, got, want)
			}
			count++
		}
	}
	if count != 8*8100 {
		t.Error(count)
	}
}
