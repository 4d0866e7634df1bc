// Package word is layer 1: numbers of 64 and 32 bits, and their bytes.
package word

import "clevis/api"

// Alu answers the number of x and y by an operation of api, and whether op is one.
func Alu(op int, x uint64, y uint64, wide bool) (uint64, bool) {
	if wide {
		return reckon(op, x, y, wide)
	}
	n, ok := reckon(op, low(x), low(y), wide)
	return low(n), ok
}

// reckon takes numbers that are cut already; what it answers may be longer than 32 bits.
func reckon(op int, x uint64, y uint64, wide bool) (uint64, bool) {
	switch op {
	case api.Add:
		return x + y, true
	case api.Sub:
		return x - y, true
	case api.Mul:
		return x * y, true
	case api.Div, api.Mod:
		return divide(op, x, y), true
	case api.Or:
		return x | y, true
	case api.And:
		return x & y, true
	case api.Xor:
		return x ^ y, true
	case api.Lsh, api.Rsh, api.Arsh:
		return shift(op, x, y, wide), true
	case api.Neg:
		return -x, true
	case api.Mov:
		return y, true
	}
	return 0, false
}

// divide gives y = 0 a meaning, since a division by 0 would panic: the quotient is 0, the rest x.
func divide(op int, x uint64, y uint64) uint64 {
	switch {
	case y == 0 && op == api.Div:
		return 0
	case y == 0:
		return x
	case op == api.Div:
		return x / y
	}
	return x % y
}

func shift(op int, x uint64, y uint64, wide bool) uint64 {
	n := y % uint64(8*width(wide))
	switch op {
	case api.Lsh:
		return x << n
	case api.Rsh:
		return x >> n
	}
	return uint64(signed(x, wide) >> n)
}

func low(x uint64) uint64 { return uint64(uint32(x)) }

// width is how many bytes a number has.
func width(wide bool) int {
	if wide {
		return 8
	}
	return 4
}

func signed(x uint64, wide bool) int64 { return int64(Sign(x, width(wide))) }
