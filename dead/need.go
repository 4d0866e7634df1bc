package dead

import (
	"clevis/api"
	"clevis/ir"
)

// seeker finds what is needed. What a value's phi or node uses is gone through once, when that value is found, so that rows of thousands of values that need one another take no longer than they are.
type seeker struct {
	uses   [][]int          // of each value what its phi or node uses
	wanted map[int]struct{} // what is needed
	found  []int            // needed, and what they need is yet to be put
}

// search answers which values of code that may be are needed.
func search(f api.Ir) map[int]struct{} {
	s := &seeker{uses: make([][]int, f.Values), wanted: map[int]struct{}{}}
	for i := range f.Parts {
		s.part(&f.Parts[i])
	}
	for len(s.found) > 0 {
		last := len(s.found) - 1
		id := s.found[last]
		s.found = s.found[:last]
		s.put(s.uses[id])
	}
	return s.wanted
}

// part notes what a part's phis and nodes use, and puts what is needed whoever needs them.
func (s *seeker) part(p *api.Part) {
	for _, x := range p.Phis {
		s.uses[x.Id] = x.From
	}
	for _, n := range p.Nodes {
		used := ir.Uses(n)
		if acts(n) {
			s.put(used)
		} else {
			s.uses[n.Id] = used
		}
	}
	s.put(asked(p.End))
}

// put notes that values are needed.
func (s *seeker) put(ids []int) {
	for _, id := range ids {
		if _, ok := s.wanted[id]; !ok {
			s.wanted[id] = struct{}{}
			s.found = append(s.found, id)
		}
	}
}

// acts tells whether a node stays even if nobody needs its value, since it does more than to make one.
func acts(n api.Node) bool {
	switch n.Op {
	case api.NodeStore, api.NodeCall:
		return true
	case api.NodeLoad:
		return n.Guard
	}
	return false
}

// asked answers what an End uses.
func asked(t api.Term) []int {
	switch t.Op {
	case api.TermIf:
		return []int{t.A, t.B}
	case api.TermReturn:
		return []int{t.A}
	}
	return nil
}
