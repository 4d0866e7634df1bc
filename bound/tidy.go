package bound

import (
	"math"

	"clevis/api"
	"clevis/tnum"
)

// Tidy makes each part as narrow as the others say.
func Tidy(b api.Bound) (api.Bound, bool) {
	once, ok := narrow(b)
	if !ok || once == b {
		return once, ok // what stayed as it was stays so the second time
	}
	return narrow(once)
}

// narrow is what Tidy does twice; what is empty is zero, false.
func narrow(b api.Bound) (api.Bound, bool) {
	b = byBits(b)
	if !ordered(b) {
		return api.Bound{}, false
	}
	b = bySigns(b)
	bits, ok := tnum.Meet(b.Bits, tnum.Range(b.Umin, b.Umax))
	if !ok || !ordered(b) {
		return api.Bound{}, false
	}
	b.Bits = bits
	return b, true
}

// byBits narrows what is least and greatest by the bits: the least number has noughts where they are unknown, the greatest has ones. The highest bit goes the other way with signs.
func byBits(b api.Bound) api.Bound {
	value, unknown := b.Bits.Value, b.Bits.Mask
	sign := unknown & (1 << 63)
	b.Smin = max(b.Smin, int64(value|sign))
	b.Smax = min(b.Smax, int64(value|unknown&math.MaxInt64))
	b.Umin = max(b.Umin, value)
	b.Umax = min(b.Umax, value|unknown)
	return b
}

// bySigns narrows what is known without signs and with by one another, where all numbers have the same sign: then both go alike.
func bySigns(b api.Bound) api.Bound {
	switch {
	case b.Smin >= 0 || b.Smax < 0:
		b.Umin = max(b.Umin, uint64(b.Smin))
		b.Umax = min(b.Umax, uint64(b.Smax))
		b.Smin, b.Smax = int64(b.Umin), int64(b.Umax)
	case int64(b.Umax) >= 0:
		b.Smin = int64(b.Umin)
		b.Smax = min(b.Smax, int64(b.Umax))
		b.Umax = uint64(b.Smax)
	case int64(b.Umin) < 0:
		b.Smin = max(b.Smin, int64(b.Umin))
		b.Umin = uint64(b.Smin)
		b.Smax = int64(b.Umax)
	}
	return b
}
