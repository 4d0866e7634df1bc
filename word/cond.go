package word

import "clevis/api"

// Cond answers whether x and y fulfil a condition of api, and whether op is one.
func Cond(op int, x uint64, y uint64, wide bool) (bool, bool) {
	if !wide {
		x, y = low(x), low(y)
	}
	switch op {
	case api.Jeq:
		return x == y, true
	case api.Jne:
		return x != y, true
	case api.Jset:
		return x&y != 0, true
	case api.Jgt, api.Jge, api.Jlt, api.Jle:
		return ordered(op, x, y), true
	case api.Jsgt, api.Jsge, api.Jslt, api.Jsle:
		return ordered(op, signed(x, wide), signed(y, wide)), true
	}
	return false, false
}

// ordered compares numbers; whether they have signs is their type's matter, so each pair of conditions stands here once.
func ordered[N int64 | uint64](op int, x N, y N) bool {
	switch op {
	case api.Jgt, api.Jsgt: // the same as below, seen from y
		x, y = y, x
		fallthrough
	case api.Jlt, api.Jslt:
		return x < y
	case api.Jge, api.Jsge: // likewise
		x, y = y, x
		fallthrough
	default:
		return x <= y
	}
}
