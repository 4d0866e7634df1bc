package verify

import (
	"iter"
	"slices"
)

// few is how many visits, or groups, a group has at most.
const few = 16

// group is some visits of an instruction, in the order of their states' spans, or some groups of them, and a hull around all: it is asked first, since there may be a million visits to ask one by one.
type group struct {
	first  *visit
	hull   hull
	visits []*visit
	groups []*group
}

// past is the visits of an instruction that have begun.
type past struct{ all *group }

// near answers visits, among which are all that have a state with that hull within theirs.
func (p *past) near(b *book, h *hull) iter.Seq[*visit] {
	return func(yield func(*visit) bool) {
		if p.all != nil {
			p.all.hand(b, h, yield)
		}
	}
}

// hand hands over what is near in a group, and tells whether more is asked for.
func (g *group) hand(b *book, h *hull, yield func(*visit) bool) bool {
	if !g.hull.around(h) {
		return true
	}
	for _, part := range g.groups {
		if !part.hand(b, h, yield) {
			return false
		}
	}
	for _, v := range g.visits {
		if v.around(b, h) && !yield(v) {
			return false
		}
	}
	return true
}

// around tells whether the hull of the visit's state is around another.
func (v *visit) around(b *book, h *hull) bool {
	for i := range h {
		if !b.span(&v.state, i).around(h[i]) {
			return false
		}
	}
	return true
}

// compare compares the hull of the visit's state with another, span by span.
func (v *visit) compare(b *book, h *hull) int {
	for i := range h {
		if c := b.span(&v.state, i).compare(h[i]); c != 0 {
			return c
		}
	}
	return 0
}

// add adds a visit, of a state with a hull.
func (p *past) add(b *book, v *visit, h *hull) {
	if p.all == nil {
		p.all = newGroup(b, []*visit{v}, nil)
	} else if more := p.all.add(b, v, h); more != nil {
		p.all = newGroup(b, nil, []*group{p.all, more})
	}
}

// add adds a visit where it belongs. What there is no room for any more is answered as another group, which belongs behind this one.
func (g *group) add(b *book, v *visit, h *hull) *group {
	if len(g.groups) == 0 {
		at, _ := slices.BinarySearchFunc(g.visits, h, func(v *visit, h *hull) int { return v.compare(b, h) })
		g.visits = slices.Insert(g.visits, at, v)
	} else {
		at := g.place(b, h)
		if more := g.groups[at].add(b, v, h); more != nil {
			g.groups = slices.Insert(g.groups, at+1, more)
		}
	}
	if len(g.visits) > few || len(g.groups) > few {
		return g.split(b)
	}
	g.first = g.least()
	g.hull.widen(h)
	return nil
}

// place answers which of its groups a hull belongs in: the last one that does not begin behind it, or the first one.
func (g *group) place(b *book, h *hull) int {
	at, found := slices.BinarySearchFunc(g.groups, h, func(g *group, h *hull) int { return g.first.compare(b, h) })
	if found || at == 0 {
		return at
	}
	return at - 1
}

// split leaves a group with its first half, and answers one of the second.
func (g *group) split(b *book) *group {
	visits, groups := len(g.visits)/2, len(g.groups)/2
	more := newGroup(b, slices.Clone(g.visits[visits:]), slices.Clone(g.groups[groups:]))
	*g = *newGroup(b, slices.Clone(g.visits[:visits]), slices.Clone(g.groups[:groups]))
	return more
}

// newGroup answers a group of visits, or of groups.
func newGroup(b *book, visits []*visit, groups []*group) *group {
	g := &group{visits: visits, groups: groups}
	g.first = g.least()
	g.hull = *b.hull(g.first.state)
	for _, part := range groups {
		g.hull.widen(&part.hull)
	}
	for _, v := range visits {
		g.hull.widen(b.hull(v.state))
	}
	return g
}

// least answers the first of all visits.
func (g *group) least() *visit {
	if len(g.groups) > 0 {
		return g.groups[0].first
	}
	return g.visits[0]
}
