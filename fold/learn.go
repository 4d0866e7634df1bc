package fold

import (
	"slices"

	"clevis/api"
	"clevis/word"
)

// unknown is what is known of a value that is no known number.
var unknown = api.Tnum{Mask: 1<<64 - 1}

// number answers what is known of a number.
func number(x uint64) api.Tnum { return api.Tnum{Value: x} }

// learner finds what is known. Each value that may become known has a question of its own, which is asked again when something that it waits for is known: so code in any order is not gone through again and again.
type learner struct {
	known   []api.Tnum
	waiting [][]func() // of each value the questions that wait for it
	asking  []func()   // questions to be asked next
}

// learn answers what is known of each value of code that may be.
func learn(f api.Ir) []api.Tnum {
	l := &learner{known: slices.Repeat([]api.Tnum{unknown}, f.Values), waiting: make([][]func(), f.Values)}
	for i := range f.Parts {
		l.part(&f.Parts[i])
	}
	for len(l.asking) > 0 {
		last := len(l.asking) - 1
		ask := l.asking[last]
		l.asking = l.asking[:last]
		ask()
	}
	return l.known
}

// part makes the questions of a part.
func (l *learner) part(p *api.Part) {
	for _, x := range p.Phis {
		l.asking = append(l.asking, l.choice(x))
	}
	for i := range p.Nodes {
		switch n := &p.Nodes[i]; n.Op {
		case api.NodeNum:
			l.put(n.Id, number(n.Imm))
		case api.NodeAlu:
			ask := func() { l.put(n.Id, l.reckon(n)) }
			l.wait(n.A, ask)
			l.wait(n.B, ask)
			l.asking = append(l.asking, ask)
		}
	}
}

// wait lets a question be asked when a value becomes known.
func (l *learner) wait(id int, ask func()) { l.waiting[id] = append(l.waiting[id], ask) }

// put notes what is known of a value, and asks what waited for that.
func (l *learner) put(id int, x api.Tnum) {
	if x == unknown || l.known[id] != unknown {
		return
	}
	l.known[id] = x
	l.asking = append(l.asking, l.waiting[id]...)
}

// choice answers a phi's question. It waits for one From after the other, since to look at all of them each time would take long where there are thousands.
func (l *learner) choice(p api.Phi) func() {
	way, same := 0, unknown
	var ask func()
	ask = func() {
		for ; way < len(p.From); way++ {
			from := p.From[way]
			if from == p.Id {
				continue
			}
			x := l.known[from]
			if x == unknown {
				l.wait(from, ask)
				return
			}
			if same != unknown && same != x {
				return
			}
			same = x
		}
		l.put(p.Id, same)
	}
	return ask
}

// reckon answers what is known of what a NodeAlu makes.
func (l *learner) reckon(n *api.Node) api.Tnum {
	a, b, zero := l.known[n.A], l.known[n.B], number(0)
	switch n.Alu {
	case api.Mov:
		a = b // the other one is not used
	case api.Neg:
		b = a
	case api.And, api.Mul:
		if a == zero || b == zero {
			return zero
		}
	case api.Sub, api.Xor:
		if n.A == n.B {
			return zero
		}
	case api.Div:
		if b == zero {
			return zero
		}
	}
	if a == unknown || b == unknown {
		return unknown
	}
	x, _ := word.Alu(n.Alu, a.Value, b.Value, n.Wide)
	return number(x)
}
