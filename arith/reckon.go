package arith

import (
	"math"
	"math/bits"

	"clevis/api"
	"clevis/bound"
	"clevis/tnum"
)

// operands are what is known of the numbers of a reckoning: where it is not wide, of their lowest 32 bits.
type operands struct {
	a, b api.Bound
	wide bool
}

// from answers the numbers from low to high; more is not said.
func from(low uint64, high uint64) api.Bound {
	r := bound.Any()
	r.Umin, r.Umax = low, high
	return r
}

// having answers the numbers with such bits; more is not said.
func having(t api.Tnum) api.Bound {
	r := bound.Any()
	r.Bits = t
	return r
}

func (o operands) add() api.Bound {
	r := having(tnum.Add(o.a.Bits, o.b.Bits))
	if high, carry := bits.Add64(o.a.Umax, o.b.Umax, 0); carry == 0 {
		r.Umin, r.Umax = o.a.Umin+o.b.Umin, high
	}
	low, fits := sum(o.a.Smin, o.b.Smin)
	if high, both := sum(o.a.Smax, o.b.Smax); fits && both {
		r.Smin, r.Smax = low, high
	}
	return r
}

func (o operands) sub() api.Bound {
	r := having(tnum.Sub(o.a.Bits, o.b.Bits))
	if o.a.Umin >= o.b.Umax {
		r.Umin, r.Umax = o.a.Umin-o.b.Umax, o.a.Umax-o.b.Umin
	}
	low, fits := difference(o.a.Smin, o.b.Smax)
	if high, both := difference(o.a.Smax, o.b.Smin); fits && both {
		r.Smin, r.Smax = low, high
	}
	return r
}

// sum tells, too, whether it is one: what wraps round is not on y's side of x.
func sum(x int64, y int64) (int64, bool) {
	s := x + y
	return s, (s < x) == (y < 0)
}

// difference tells, too, whether it is one, likewise.
func difference(x int64, y int64) (int64, bool) {
	d := x - y
	return d, (d < x) == (y > 0)
}

func (o operands) neg() api.Bound {
	return operands{bound.Const(0), o.a, o.wide}.sub()
}

func (o operands) mul() api.Bound {
	r := having(tnum.Mul(o.a.Bits, o.b.Bits))
	if max(o.a.Umax, o.b.Umax) <= math.MaxUint32 { // else a product may wrap round
		r.Umin, r.Umax = o.a.Umin*o.b.Umin, o.a.Umax*o.b.Umax
	}
	return r
}

func (o operands) div() api.Bound {
	if y, ok := bound.Value(o.b); ok && y > 0 {
		return from(o.a.Umin/y, o.a.Umax/y)
	}
	return from(0, o.a.Umax) // by 0 it is 0
}

func (o operands) mod() api.Bound {
	high := o.a.Umax
	if o.b.Umin > 0 { // by 0 it is a
		high = min(high, o.b.Umax-1)
	}
	return from(0, high)
}

func (o operands) and() api.Bound {
	r := having(tnum.And(o.a.Bits, o.b.Bits))
	r.Umax = min(o.a.Umax, o.b.Umax)
	return r
}

func (o operands) or() api.Bound {
	r := having(tnum.Or(o.a.Bits, o.b.Bits))
	r.Umin = max(o.a.Umin, o.b.Umin)
	return r
}

func (o operands) xor() api.Bound {
	return having(tnum.Xor(o.a.Bits, o.b.Bits))
}

func (o operands) mov() api.Bound { return o.b }
