package state

import "clevis/api"

// Within tells whether all of b is within a.
func Within(a api.Abs, b api.Abs) bool {
	return full(a) && full(b) &&
		pairs(a.Regs, b.Regs, covers) &&
		pairs(a.Set, b.Set, func(here bool, there bool) bool { return !here || there }) &&
		pairs(a.Saved, b.Saved, covers) &&
		Check(a) && Check(b) // last, since most states that are held against one another differ in a register
}

// pairs tells whether something holds of each two that stand at the same place of two rows, which are equally long.
func pairs[T any](a []T, b []T, holds func(T, T) bool) bool {
	for i := range a {
		if !holds(a[i], b[i]) {
			return false
		}
	}
	return true
}
