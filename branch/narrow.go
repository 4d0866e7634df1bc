package branch

import (
	"math/bits"

	"clevis/api"
	"clevis/bound"
	"clevis/tnum"
)

// narrowing narrows two bounds; false, if it cannot be.
type narrowing func(a *api.Bound, b *api.Bound) bool

// narrowed answers what is left of a and b, tidy; zero, false, if it cannot be.
func narrowed(a api.Bound, b api.Bound, narrow narrowing) (api.Bound, api.Bound, bool) {
	if !narrow(&a, &b) {
		return api.Bound{}, api.Bound{}, false
	}
	a, left := bound.Tidy(a)
	b, right := bound.Tidy(b)
	if !left || !right {
		return api.Bound{}, api.Bound{}, false
	}
	return a, b, true
}

// behind answers what narrows by a condition that holds, or does not.
func behind(op int, holds bool) narrowing {
	if !holds && op == api.Jset { // it alone has no opposite
		return apart
	}
	if !holds {
		op = Opposite(op)
	}
	switch op {
	case api.Jeq:
		return equal
	case api.Jne:
		return unequal
	case api.Jset:
		return common
	}
	return func(a *api.Bound, b *api.Bound) bool { return compared(op, a, b) }
}

func equal(a *api.Bound, b *api.Bound) bool {
	both, ok := bound.Meet(*a, *b)
	*a, *b = both, both
	return ok
}

func unequal(a *api.Bound, b *api.Bound) bool {
	x, left := bound.Value(*a)
	y, right := bound.Value(*b)
	if right {
		unsigned(a, b, not(y))
		signed(a, b, not(int64(y)))
	}
	if left {
		unsigned(b, a, not(x))
		signed(b, a, not(int64(x)))
	}
	return true
}

// common narrows by a and b having a bit in common: which one it is, is known of b's only bit alone.
func common(a *api.Bound, b *api.Bound) bool {
	y, ok := bound.Value(*b)
	if !ok || bits.OnesCount64(y) != 1 {
		return true
	}
	return learn(a, api.Tnum{Value: y, Mask: ^y})
}

// apart narrows by a and b having no bit in common.
func apart(a *api.Bound, b *api.Bound) bool {
	y, ok := bound.Value(*b)
	return !ok || learn(a, api.Tnum{Mask: ^y})
}

// learn narrows b by bits of it that are known; false, if they do not agree with its own.
func learn(b *api.Bound, known api.Tnum) bool {
	met, ok := tnum.Meet(b.Bits, known)
	b.Bits = met
	return ok
}

// compared narrows by a condition that says which number is the lesser.
func compared(op int, a *api.Bound, b *api.Bound) bool {
	switch op {
	case api.Jgt: // as Jlt, seen from b
		a, b = b, a
		fallthrough
	case api.Jlt:
		return unsigned(a, b, below)
	case api.Jge: // likewise
		a, b = b, a
		fallthrough
	case api.Jle:
		return unsigned(a, b, upTo)
	case api.Jsgt: // likewise
		a, b = b, a
		fallthrough
	case api.Jslt:
		return signed(a, b, below)
	case api.Jsge: // likewise
		a, b = b, a
		fallthrough
	default:
		return signed(a, b, upTo)
	}
}
