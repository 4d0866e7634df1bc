package bound

import (
	"math"

	"clevis/api"
	"clevis/tnum"
)

// Join answers what is in one.
func Join(a api.Bound, b api.Bound) api.Bound {
	return api.Bound{
		Umin: min(a.Umin, b.Umin), Umax: max(a.Umax, b.Umax),
		Smin: min(a.Smin, b.Smin), Smax: max(a.Smax, b.Smax),
		Bits: tnum.Join(a.Bits, b.Bits),
	}
}

// Meet answers what is in both.
func Meet(a api.Bound, b api.Bound) (api.Bound, bool) {
	bits, ok := tnum.Meet(a.Bits, b.Bits)
	if !ok {
		return api.Bound{}, false
	}
	return Tidy(api.Bound{
		Umin: max(a.Umin, b.Umin), Umax: min(a.Umax, b.Umax),
		Smin: max(a.Smin, b.Smin), Smax: min(a.Smax, b.Smax),
		Bits: bits,
	})
}

// Low answers the lowest 32 bits.
func Low(b api.Bound) api.Bound {
	if b.Umax <= math.MaxUint32 {
		return b
	}
	if low, ok := Tidy(upTo(math.MaxUint32, tnum.Low(b.Bits))); ok {
		return low
	}
	return Size(4)
}
