package tnum

import (
	"math/bits"

	"clevis/api"
)

// Add adds.
func Add(a api.Tnum, b api.Tnum) api.Tnum {
	least := a.Value + b.Value
	most := least + a.Mask + b.Mask
	return carried(least, least^most, a, b)
}

// Sub subtracts.
func Sub(a api.Tnum, b api.Tnum) api.Tnum {
	d := a.Value - b.Value
	return carried(d, (d+a.Mask)^(d-b.Mask), a, b)
}

// carried answers a sum, or a difference, of a and b: where carries may differ it is unknown, and where an operand is.
func carried(x uint64, carries uint64, a api.Tnum, b api.Tnum) api.Tnum {
	return partly(x, carries|a.Mask|b.Mask)
}

// Mul multiplies.
func Mul(a api.Tnum, b api.Tnum) api.Tnum {
	product := Const(a.Value * b.Value)
	unsure := Const(0) // what the unknown bits may add to it
	for i := range bits.Len64(a.Value | a.Mask) {
		bit := uint64(1) << i
		switch {
		case a.Value&bit != 0:
			unsure = Add(unsure, api.Tnum{Mask: b.Mask << i})
		case a.Mask&bit != 0:
			unsure = Add(unsure, api.Tnum{Mask: (b.Value | b.Mask) << i})
		}
	}
	return Add(product, unsure)
}

// And is bit by bit.
func And(a api.Tnum, b api.Tnum) api.Tnum {
	ones := a.Value & b.Value
	return api.Tnum{Value: ones, Mask: (a.Value | a.Mask) & (b.Value | b.Mask) &^ ones}
}

// Or is bit by bit.
func Or(a api.Tnum, b api.Tnum) api.Tnum {
	ones := a.Value | b.Value
	return api.Tnum{Value: ones, Mask: (a.Mask | b.Mask) &^ ones}
}

// Xor is bit by bit.
func Xor(a api.Tnum, b api.Tnum) api.Tnum {
	return partly(a.Value^b.Value, a.Mask|b.Mask)
}

// Shift shifts.
func Shift(op int, a api.Tnum, n int) api.Tnum {
	by := uint64(n) % 64 // of n below 0, too, from 0 to 63
	switch op {
	case api.Lsh:
		return api.Tnum{Value: a.Value << by, Mask: a.Mask << by}
	case api.Rsh:
		return api.Tnum{Value: a.Value >> by, Mask: a.Mask >> by}
	case api.Arsh:
		return api.Tnum{Value: signed(a.Value, by), Mask: signed(a.Mask, by)}
	}
	return a
}

// signed shifts to the right, with the highest bit.
func signed(x uint64, by uint64) uint64 { return uint64(int64(x) >> by) }
