package fold_test

import (
	"slices"

	"clevis/api"
	"clevis/word"
)

// The model says once more what the chapter says, by other means: all values are gone through until in a whole round nothing more is known; of folded code the ways that stay are found first, as pairs of parts.

// modelKnown is of code that may be.
func modelKnown(f api.Ir) []api.Tnum {
	known := map[int]uint64{}
	for size := -1; size < len(known); {
		size = len(known)
		for _, p := range f.Parts {
			for _, x := range p.Phis {
				modelPhi(known, x)
			}
			for _, n := range p.Nodes {
				modelNode(known, n)
			}
		}
	}
	var l []api.Tnum
	for id := range f.Values {
		x, ok := known[id]
		if ok {
			l = append(l, api.Tnum{Value: x})
		} else {
			l = append(l, api.Tnum{Mask: 1<<64 - 1})
		}
	}
	return l
}

func modelPhi(known map[int]uint64, x api.Phi) {
	others := slices.DeleteFunc(slices.Clone(x.From), func(id int) bool { return id == x.Id })
	numbers := map[uint64]bool{}
	for _, id := range others {
		n, ok := known[id]
		if !ok {
			return
		}
		numbers[n] = true
	}
	if len(numbers) == 1 {
		known[x.Id] = known[others[0]]
	}
}

func modelNode(known map[int]uint64, n api.Node) {
	if n.Op == 1 {
		known[n.Id] = n.Imm
	}
	if n.Op != 4 {
		return
	}
	a, first := known[n.A]
	b, second := known[n.B]
	nought := first && a == 0
	noughtToo := second && b == 0
	switch {
	case (n.Alu == 0x50 || n.Alu == 0x20) && (nought || noughtToo),
		(n.Alu == 0x10 || n.Alu == 0xa0) && n.A == n.B,
		n.Alu == 0x30 && noughtToo:
		known[n.Id] = 0
	case first && second || n.Alu == 0xb0 && second || n.Alu == 0x80 && first:
		known[n.Id], _ = word.Alu(n.Alu, a, b, n.Wide)
	}
}

// modelWays answers where one goes on from a part: whether a condition holds or not, unless it is decided.
func modelWays(t api.Term, known []api.Tnum) []int {
	if t.Op == 1 {
		return []int{t.To}
	}
	if t.Op == 3 {
		return nil
	}
	a, b := known[t.A], known[t.B]
	holds, decided := false, false
	switch {
	case a.Mask == 0 && b.Mask == 0:
		holds, _ = word.Cond(t.Cond, a.Value, b.Value, t.Wide)
		decided = true
	case t.A == t.B && slices.Contains([]int{0x10, 0x30, 0xb0, 0x70, 0xd0}, t.Cond):
		holds, decided = true, true
	case t.A == t.B && slices.Contains([]int{0x50, 0x20, 0xa0, 0x60, 0xc0}, t.Cond):
		decided = true
	}
	switch {
	case !decided:
		return []int{t.To, t.Else}
	case holds:
		return []int{t.To}
	}
	return []int{t.Else}
}

// modelFold is of code that may be.
func modelFold(f api.Ir) api.Ir {
	known := modelKnown(f)
	met := map[int]bool{0: true}
	for size := 0; size < len(met); {
		size = len(met)
		for i, p := range f.Parts {
			for _, to := range modelWays(p.End, known) {
				if met[i] {
					met[to] = true
				}
			}
		}
	}
	stay := map[[2]int]bool{} // ways
	anew := map[int]int{}
	for i, p := range f.Parts {
		if met[i] {
			anew[i] = len(anew)
			for _, to := range modelWays(p.End, known) {
				stay[[2]int{i, to}] = true
			}
		}
	}
	g := api.Ir{Values: f.Values}
	for i, p := range f.Parts {
		if met[i] {
			g.Parts = append(g.Parts, modelPart(f, i, stay, anew, known))
			end := &g.Parts[anew[i]].End
			*end = p.End
			if ways := modelWays(p.End, known); len(ways) == 1 && p.End.Op == 2 {
				*end = api.Term{Op: 1, To: anew[ways[0]]}
			} else if len(ways) > 0 {
				end.To = anew[ways[0]]
				if len(ways) > 1 {
					end.Else = anew[ways[1]]
				}
			}
		}
	}
	return g
}

// modelPart answers a part without its End.
func modelPart(f api.Ir, i int, stay map[[2]int]bool, anew map[int]int, known []api.Tnum) api.Part {
	p := copied(f).Parts[i]
	for at := len(p.Pred) - 1; at >= 0; at-- {
		if stay[[2]int{p.Pred[at], i}] {
			p.Pred[at] = anew[p.Pred[at]]
			continue
		}
		p.Pred = slices.Delete(p.Pred, at, at+1)
		for j, x := range p.Phis {
			p.Phis[j].From = slices.Delete(x.From, at, at+1)
		}
	}
	for j, n := range p.Nodes {
		if n.Op == 4 && known[n.Id].Mask == 0 {
			p.Nodes[j] = api.Node{Op: 1, Id: n.Id, Imm: known[n.Id].Value, At: n.At}
		}
	}
	return p
}
