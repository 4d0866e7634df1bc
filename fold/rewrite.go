package fold

import (
	"slices"

	"clevis/api"
	"clevis/ir"
	"clevis/word"
)

// gone is the number of a part that is left out.
const gone = -1

// writer writes folded code.
type writer struct {
	known  []api.Tnum
	parts  []api.Part // as they were, but for their Ends
	succ   [][]int
	number []int // of each part its new one
}

// rewrite answers new code, by what is known.
func rewrite(f api.Ir, known []api.Tnum) api.Ir {
	w := &writer{known: known, parts: slices.Clone(f.Parts)}
	for i := range w.parts {
		w.parts[i].End = decide(w.parts[i].End, known)
	}
	w.succ = ir.Succ(api.Ir{Parts: w.parts})
	w.number = count(w.succ)
	g := api.Ir{Values: f.Values}
	for i := range w.parts {
		if w.number[i] != gone {
			g.Parts = append(g.Parts, w.part(i))
		}
	}
	return g
}

// decide answers an End that asks nothing, if what it asks is decided.
func decide(t api.Term, known []api.Tnum) api.Term {
	if t.Op != api.TermIf {
		return t
	}
	a, b := known[t.A], known[t.B]
	if t.A == t.B && t.Cond != api.Jset {
		a, b = number(0), number(0) // whichever it is, beside itself it fulfils the same conditions
	}
	if a == unknown || b == unknown {
		return t
	}
	if holds, _ := word.Cond(t.Cond, a.Value, b.Value, t.Wide); !holds {
		return api.Term{Op: api.TermGo, To: t.Else}
	}
	return api.Term{Op: api.TermGo, To: t.To}
}

// count numbers anew the parts that one may come to, in their order.
func count(succ [][]int) []int {
	met := make([]bool, len(succ))
	met[0] = true
	for todo := []int{0}; len(todo) > 0; {
		last := len(todo) - 1
		part := todo[last]
		todo = todo[:last]
		for _, to := range succ[part] {
			if !met[to] {
				met[to] = true
				todo = append(todo, to)
			}
		}
	}
	numbers, next := slices.Repeat([]int{gone}, len(succ)), 0
	for part := range numbers {
		if met[part] {
			numbers[part] = next
			next++
		}
	}
	return numbers
}

// part writes a part anew. It shares nothing with what it was.
func (w *writer) part(i int) api.Part {
	old := &w.parts[i]
	p := api.Part{End: w.end(old.End)}
	var ways []int // of those that led here the ones that still do
	for way, from := range old.Pred {
		if w.number[from] != gone && slices.Contains(w.succ[from], i) {
			ways = append(ways, way)
			p.Pred = append(p.Pred, w.number[from])
		}
	}
	for _, x := range old.Phis {
		from := make([]int, len(ways))
		for at, way := range ways {
			from[at] = x.From[way]
		}
		p.Phis = append(p.Phis, api.Phi{Id: x.Id, From: from})
	}
	for _, n := range old.Nodes {
		p.Nodes = append(p.Nodes, w.node(n))
	}
	return p
}

// end answers an End that leads to the parts' new numbers.
func (w *writer) end(t api.Term) api.Term {
	switch t.Op {
	case api.TermIf:
		t.Else = w.number[t.Else]
		fallthrough
	case api.TermGo:
		t.To = w.number[t.To]
	}
	return t
}

// node answers a node, as it was or reckoned ahead.
func (w *writer) node(n api.Node) api.Node {
	if n.Op == api.NodeAlu && w.known[n.Id] != unknown {
		return api.Node{Op: api.NodeNum, Id: n.Id, Imm: w.known[n.Id].Value, At: n.At}
	}
	n.Args = slices.Clone(n.Args)
	return n
}
