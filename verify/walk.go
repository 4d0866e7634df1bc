package verify

import (
	"errors"
	"slices"

	"clevis/api"
	"clevis/astep"
	"clevis/legal"
	"clevis/mem"
	"clevis/state"
)

// visit is that of an instruction with a state. It may be one that is to come yet.
type visit struct {
	at    int
	state brief
	begun bool
	ended bool
}

// walk is a look at all ways that a program may go.
type walk struct {
	layout  api.Layout
	program []api.Ins
	budget  int
	visits  int
	facts   []api.Fact
	book    *book
	past    []past   // of each instruction
	todo    []*visit // what is to come, the next one last, each behind what led to it: calls within calls might lie a million deep
}

// look answers the fault that ended it, if there was one: it goes up as a panic from wherever it is found.
func (w *walk) look() (f fault) {
	f.code = api.ErrUnsafe // whatever else goes up: what was not looked at to the end is not accepted
	defer func() {
		if up, ok := recover().(error); ok {
			errors.As(up, &f)
		}
	}()
	w.check()
	w.begin()
	for len(w.todo) > 0 {
		w.goOn()
	}
	return fault{}
}

// check goes up with what is wrong ahead of any visit.
func (w *walk) check() {
	if e := mem.Check(w.layout); e != api.OK {
		panic(fault{e, 0})
	}
	if at, e := legal.Check(w.program); e != api.OK {
		panic(fault{e, at})
	}
	if w.budget < 1 || w.budget > api.MaxVisits {
		panic(fault{api.ErrArg, 0})
	}
}

func (w *walk) begin() {
	w.book = newBook()
	w.facts = make([]api.Fact, len(w.program))
	w.past = make([]past, len(w.program))
	w.plan(api.Next{At: 0, Abs: state.Begin()})
}

// plan puts a visit ahead of all others that are to come.
func (w *walk) plan(n api.Next) {
	w.todo = append(w.todo, &visit{at: n.At, state: w.book.brief(n.Abs)})
}

// goOn begins the next visit; or it ends one, if all that it led to has ended, or another one was of all that its state says.
func (w *walk) goOn() {
	last := len(w.todo) - 1
	v := w.todo[last]
	if !v.begun {
		s, h := w.book.state(v.state), w.book.hull(v.state)
		if !w.seen(v.at, s, h) {
			w.visit(v, s, h)
			return
		}
	}
	v.ended = true
	w.todo = w.todo[:last]
}

// seen tells whether a visit that has ended was of all that a state says. One that has not ended goes up as a loop.
func (w *walk) seen(at int, s api.Abs, h *hull) bool {
	loops := false
	for v := range w.past[at].near(w.book, h) {
		if !state.Within(w.book.state(v.state), s) {
			continue
		}
		if v.ended {
			return true
		}
		loops = true // another one may have ended
	}
	if loops {
		panic(fault{api.ErrLoop, at})
	}
	return false
}

// visit begins a visit: what it leads to comes next, in order.
func (w *walk) visit(v *visit, s api.Abs, h *hull) {
	if w.visits == w.budget {
		panic(fault{api.ErrVisits, v.at})
	}
	w.visits++
	ways, f, e := astep.Step(w.layout, w.program, v.at, s)
	if e != api.OK {
		panic(fault{e, v.at})
	}
	w.facts[v.at] = Merge(w.facts[v.at], f)
	w.past[v.at].add(w.book, v, h)
	v.begun = true
	for _, n := range slices.Backward(ways) {
		w.plan(n)
	}
}
