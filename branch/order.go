package branch

import "clevis/api"

// number is a number without a sign, or with one.
type number interface{ uint64 | int64 }

// span is from where to where a number is.
type span[N number] struct{ low, high N }

// order narrows two spans by how their numbers stand to one another; false, if they cannot stand so.
type order[N number] func(x span[N], y span[N]) (span[N], span[N], bool)

// unsigned narrows from where to where two numbers are without signs.
func unsigned(a *api.Bound, b *api.Bound, narrow order[uint64]) bool {
	x, y, ok := narrow(span[uint64]{a.Umin, a.Umax}, span[uint64]{b.Umin, b.Umax})
	a.Umin, a.Umax, b.Umin, b.Umax = x.low, x.high, y.low, y.high
	return ok
}

// signed narrows from where to where they are with signs.
func signed(a *api.Bound, b *api.Bound, narrow order[int64]) bool {
	x, y, ok := narrow(span[int64]{a.Smin, a.Smax}, span[int64]{b.Smin, b.Smax})
	a.Smin, a.Smax, b.Smin, b.Smax = x.low, x.high, y.low, y.high
	return ok
}

// below is that x is less than y: nothing is less than the least number, nor more than the greatest.
func below[N number](x span[N], y span[N]) (span[N], span[N], bool) {
	high, low := y.high-1, x.low+1
	if high > y.high || low < x.low { // it came round
		return x, y, false
	}
	x.high, y.low = min(x.high, high), max(y.low, low)
	return x, y, true
}

// upTo is that x is at most y.
func upTo[N number](x span[N], y span[N]) (span[N], span[N], bool) {
	x.high, y.low = min(x.high, y.high), max(y.low, x.low)
	return x, y, true
}

// not is that x is not n: an end that is n moves by one, but where there is no number beyond.
func not[N number](n N) order[N] {
	return func(x span[N], y span[N]) (span[N], span[N], bool) {
		if x.low == n && n+1 > n {
			x.low++
		}
		if x.high == n && n-1 < n {
			x.high--
		}
		return x, y, true
	}
}
