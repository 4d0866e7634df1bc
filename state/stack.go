package state

import (
	"clevis/api"
	"clevis/bound"
)

// access is one to the stack: of n bytes, the first of which lies from low to high.
type access struct{ low, high, n int }

// inside tells whether it is on the stack, wherever it lies.
func (a access) inside() bool {
	return a.n >= 1 && 0 <= a.low && a.low <= a.high && a.high <= api.StackSize-a.n
}

// end is behind the last byte that it may be of.
func (a access) end() int { return a.high + a.n }

// sure tells whether it is known which bytes it is of.
func (a access) sure() bool { return a.low == a.high }

// eight answers which of the stack's eights it is of, if it is known to be of just that one.
func (a access) eight() (int, bool) {
	return a.low / whole, a.sure() && a.n == whole && a.low%whole == 0
}

// Store stores to the stack.
func Store(s api.Abs, low int, high int, n int, k api.Known) api.Abs {
	a := access{low, high, n}
	fits := a.inside() && may(k) && Check(s)
	s = twin(s)
	if fits {
		store(s, a, k)
	}
	return s
}

// store changes the state that it is handed.
func store(s api.Abs, a access, k api.Known) {
	last := (a.end() - 1) / whole
	clear(s.Saved[a.low/whole : last+1])
	if !a.sure() {
		return
	}
	for i := a.low; i < a.end(); i++ {
		s.Set[i] = true
	}
	if i, ok := a.eight(); ok {
		s.Saved[i] = k
	}
}

// Load loads from the stack.
func Load(s api.Abs, low int, high int, n int) (api.Known, bool) {
	a := access{low, high, n}
	if !a.inside() || !Ready(s, low, a.end()) {
		return api.Known{}, false
	}
	if i, ok := a.eight(); ok && s.Saved[i].Kind != api.Unset {
		return s.Saved[i], true
	}
	return api.Known{Kind: api.Number, Num: bound.Size(n)}, true
}

// Ready tells whether stack bytes are set.
func Ready(s api.Abs, low int, high int) bool {
	return 0 <= low && low <= high && high <= api.StackSize && Check(s) && set(s, low, high)
}
