package verify

import (
	"cmp"
	"math"

	"clevis/api"
)

// span is from where to where a number is, or an offset.
type span struct{ from, to uint64 }

// spanOf is that of all numbers where nothing is known, since all that may be known is within that.
func spanOf(k api.Known) span {
	if k.Kind == api.Unset {
		return span{0, math.MaxUint64}
	}
	return span{k.Num.Umin, k.Num.Umax}
}

func (a span) around(b span) bool { return a.from <= b.from && b.to <= a.to }

func (a span) compare(b span) int {
	return cmp.Or(cmp.Compare(a.from, b.from), cmp.Compare(a.to, b.to))
}

// hull is the spans of all that is known in a state, or those that are around several states. If a state is within another one, the one's hull is within the other's, and within all that are around that.
type hull [knowns]span

func (h *hull) around(o *hull) bool {
	for i := range h {
		if !h[i].around(o[i]) {
			return false
		}
	}
	return true
}

// widen makes a hull one that is around another one, too.
func (h *hull) widen(o *hull) {
	for i, s := range o {
		h[i] = span{min(h[i].from, s.from), max(h[i].to, s.to)}
	}
}
