package arith

import (
	"math"

	"clevis/api"
	"clevis/bound"
	"clevis/tnum"
)

// count answers by how much to shift, and whether that is known.
func (o operands) count() (int, bool) {
	n, ok := bound.Value(o.b)
	if o.wide {
		return int(n % 64), ok
	}
	return int(n % 32), ok
}

// shifted answers the numbers with a's bits, shifted; more is not said.
func (o operands) shifted(op int, n int) api.Bound {
	return having(tnum.Shift(op, o.a.Bits, n))
}

func (o operands) lsh() api.Bound {
	n, ok := o.count()
	if !ok {
		return bound.Any()
	}
	r := o.shifted(api.Lsh, n)
	if o.a.Umax <= math.MaxUint64>>n { // else bits of a may be lost
		r.Umin, r.Umax = o.a.Umin<<n, o.a.Umax<<n
	}
	return r
}

func (o operands) rsh() api.Bound {
	n, ok := o.count()
	if !ok {
		return from(0, o.a.Umax)
	}
	r := o.shifted(api.Rsh, n)
	r.Umin, r.Umax = o.a.Umin>>n, o.a.Umax>>n
	return r
}

func (o operands) arsh() api.Bound {
	n, ok := o.count()
	switch {
	case !ok:
		return bound.Any()
	case !o.wide && o.a.Umax > math.MaxInt32: // the highest of the 32 bits may be a sign, which a's bound does not know as one
		return bound.Any()
	case !o.wide:
		return o.rsh()
	}
	r := o.shifted(api.Arsh, n)
	r.Smin, r.Smax = o.a.Smin>>n, o.a.Smax>>n
	return r
}
