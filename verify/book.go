package verify

import (
	"clevis/api"
	"clevis/state"
)

const (
	eights = api.StackSize / 8      // of the stack, in each of which a register may lie
	knowns = api.Registers + eights // of a state
	bits   = 64                     // of a number
)

// brief is a state in few bytes, since there may be a million of them.
type brief struct {
	knowns [knowns]int32 // the numbers, in a book, of what is known of the registers, then of what lies on the stack
	set    [api.StackSize / bits]uint64
}

// book holds all that is known in any state, each once.
type book struct {
	list   []api.Known
	number map[api.Known]int32
}

// newBook answers a book in which what is not known has the number 0.
func newBook() *book {
	return &book{list: make([]api.Known, 1), number: map[api.Known]int32{}}
}

// note answers the number of what is known.
func (b *book) note(k api.Known) int32 {
	if k.Kind == api.Unset {
		return 0
	}
	n, ok := b.number[k]
	if !ok {
		n = int32(len(b.list))
		b.list = append(b.list, k)
		b.number[k] = n
	}
	return n
}

// brief makes a state brief.
func (b *book) brief(s api.Abs) brief {
	var r brief
	for i, k := range s.Regs {
		r.knowns[i] = b.note(k)
	}
	for i, k := range s.Saved {
		r.knowns[api.Registers+i] = b.note(k)
	}
	for i, set := range s.Set {
		if set {
			r.set[i/bits] |= 1 << (i % bits)
		}
	}
	return r
}

// state answers the state that was made brief.
func (b *book) state(r brief) api.Abs {
	s := state.Begin()
	for i := range s.Regs {
		s.Regs[i] = b.list[r.knowns[i]]
	}
	for i := range s.Saved {
		s.Saved[i] = b.list[r.knowns[api.Registers+i]]
	}
	for i := range s.Set {
		s.Set[i] = r.set[i/bits]>>(i%bits)&1 == 1
	}
	return s
}

// span answers that of what is known in a state at a place of its row.
func (b *book) span(r *brief, i int) span { return spanOf(b.list[r.knowns[i]]) }

// hull answers the hull of one state.
func (b *book) hull(r brief) *hull {
	var h hull
	for i := range h {
		h[i] = b.span(&r, i)
	}
	return &h
}
