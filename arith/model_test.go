package arith_test

import (
	"math/big"

	"clevis/api"
	"clevis/bound"
	"clevis/tnum"
)

// The model says the chapter's words once more, with numbers that have no end, and the calls of layers 7 and 8.

// said is what the chapter says of a number; what is nil is not said.
type said struct {
	u, s []*big.Int // from where to where
	bits *api.Tnum
}

func unsigned(x uint64) *big.Int { return new(big.Int).SetUint64(x) }

func power(n uint) *big.Int { return new(big.Int).Lsh(big.NewInt(1), n) }

func fits(x *big.Int) bool { return x.Sign() >= 0 && x.Cmp(power(64)) < 0 }

// fitsSigned tells whether x is from -2^63 to 2^63 - 1.
func fitsSigned(x *big.Int) bool { return fits(new(big.Int).Add(x, power(63))) }

// do answers what a method of big.Int makes of x and y.
func do(f func(z, x, y *big.Int) *big.Int, x, y *big.Int) *big.Int { return f(new(big.Int), x, y) }

// ends are a bound's numbers, from where to where, without end.
type ends struct{ umin, umax, smin, smax *big.Int }

func open(b api.Bound) ends {
	return ends{unsigned(b.Umin), unsigned(b.Umax), big.NewInt(b.Smin), big.NewInt(b.Smax)}
}

// close answers the bound: what is not said is as in Any, and it is tidy, or Any.
func (r said) close() api.Bound {
	b := api.Bound{Umax: full, Smin: least, Smax: most, Bits: api.Tnum{Mask: full}}
	if r.u != nil {
		b.Umin, b.Umax = r.u[0].Uint64(), r.u[1].Uint64()
	}
	if r.s != nil {
		b.Smin, b.Smax = r.s[0].Int64(), r.s[1].Int64()
	}
	if r.bits != nil {
		b.Bits = *r.bits
	}
	return tidied(b)
}

// tidied answers b tidy, or Any, if that is empty.
func tidied(b api.Bound) api.Bound {
	if t, ok := bound.Tidy(b); ok {
		return t
	}
	return bound.Any()
}

func from(low, high *big.Int) []*big.Int { return []*big.Int{low, high} }

func modelAdd(a, b api.Bound) said {
	x, y, t := open(a), open(b), tnum.Add(a.Bits, b.Bits)
	r := said{bits: &t}
	add := (*big.Int).Add
	if u := from(do(add, x.umin, y.umin), do(add, x.umax, y.umax)); fits(u[1]) {
		r.u = u
	}
	if s := from(do(add, x.smin, y.smin), do(add, x.smax, y.smax)); fitsSigned(s[0]) && fitsSigned(s[1]) {
		r.s = s
	}
	return r
}

func modelSub(a, b api.Bound) said {
	x, y, t := open(a), open(b), tnum.Sub(a.Bits, b.Bits)
	r := said{bits: &t}
	sub := (*big.Int).Sub
	if x.umin.Cmp(y.umax) >= 0 {
		r.u = from(do(sub, x.umin, y.umax), do(sub, x.umax, y.umin))
	}
	if s := from(do(sub, x.smin, y.smax), do(sub, x.smax, y.smin)); fitsSigned(s[0]) && fitsSigned(s[1]) {
		r.s = s
	}
	return r
}

func modelMul(a, b api.Bound) said {
	x, y, t := open(a), open(b), tnum.Mul(a.Bits, b.Bits)
	r := said{bits: &t}
	if x.umax.Cmp(power(32)) < 0 && y.umax.Cmp(power(32)) < 0 {
		r.u = from(do((*big.Int).Mul, x.umin, y.umin), do((*big.Int).Mul, x.umax, y.umax))
	}
	return r
}

func modelDiv(a, b api.Bound) said {
	x, y := open(a), open(b)
	if y.umin.Cmp(y.umax) == 0 && y.umin.Sign() > 0 {
		return said{u: from(do((*big.Int).Div, x.umin, y.umin), do((*big.Int).Div, x.umax, y.umin))}
	}
	return said{u: from(new(big.Int), x.umax)}
}

func modelMod(a, b api.Bound) said {
	x, y := open(a), open(b)
	high := x.umax
	if less := do((*big.Int).Sub, y.umax, big.NewInt(1)); y.umin.Sign() > 0 && less.Cmp(high) < 0 {
		high = less
	}
	return said{u: from(new(big.Int), high)}
}

// modelBits are And, Or, Xor.
func modelBits(op int, a, b api.Bound) said {
	x, y := open(a), open(b)
	switch op {
	case api.And:
		t, high := tnum.And(a.Bits, b.Bits), x.umax
		if y.umax.Cmp(high) < 0 {
			high = y.umax
		}
		return said{bits: &t, u: from(new(big.Int), high)}
	case api.Or:
		t, low := tnum.Or(a.Bits, b.Bits), x.umin
		if y.umin.Cmp(low) > 0 {
			low = y.umin
		}
		return said{bits: &t, u: from(low, unsigned(full))}
	}
	t := tnum.Xor(a.Bits, b.Bits)
	return said{bits: &t}
}

// modelShift is wide, or of a and b below 2^32.
func modelShift(op int, a, b api.Bound, wide bool) said {
	x, y := open(a), open(b)
	known := y.umin.Cmp(y.umax) == 0
	every, size := uint64(64), bound.Any()
	if !wide {
		every, size = 32, bound.Size(4)
	}
	number := said{u: from(unsigned(size.Umin), unsigned(size.Umax)), bits: &size.Bits}
	if !known && op == api.Rsh {
		return said{u: from(new(big.Int), x.umax)}
	}
	if !known {
		return number
	}
	if op == api.Arsh && !wide {
		if x.umax.Cmp(power(31)) >= 0 {
			return number
		}
		op = api.Rsh
	}
	n := uint(b.Umin % every)
	t := tnum.Shift(op, a.Bits, int(n))
	r := said{bits: &t}
	switch op {
	case api.Lsh:
		if x.umax.Cmp(new(big.Int).Rsh(unsigned(full), n)) <= 0 {
			r.u = from(new(big.Int).Lsh(x.umin, n), new(big.Int).Lsh(x.umax, n))
		}
	case api.Rsh:
		r.u = from(new(big.Int).Rsh(x.umin, n), new(big.Int).Rsh(x.umax, n))
	case api.Arsh:
		r.s = from(new(big.Int).Rsh(x.smin, n), new(big.Int).Rsh(x.smax, n))
	}
	return r
}

func modelSaid(op int, a, b api.Bound, wide bool) (said, bool) {
	switch op {
	case api.Add:
		return modelAdd(a, b), true
	case api.Sub:
		return modelSub(a, b), true
	case api.Neg:
		return modelSub(bound.Const(0), a), true
	case api.Mul:
		return modelMul(a, b), true
	case api.Div:
		return modelDiv(a, b), true
	case api.Mod:
		return modelMod(a, b), true
	case api.And, api.Or, api.Xor:
		return modelBits(op, a, b), true
	case api.Lsh, api.Rsh, api.Arsh:
		return modelShift(op, a, b, wide), true
	case api.Mov:
		y := open(b)
		return said{from(y.umin, y.umax), from(y.smin, y.smax), &b.Bits}, true
	}
	return said{}, false
}

func modelAlu(op int, a, b api.Bound, wide bool) (api.Bound, bool) {
	if _, ok := modelSaid(op, bound.Any(), bound.Any(), true); !ok {
		return bound.Any(), false
	}
	if !bound.Check(a) || !bound.Check(b) {
		return bound.Any(), true
	}
	if wide {
		r, _ := modelSaid(op, a, b, true)
		return r.close(), true
	}
	r, _ := modelSaid(op, bound.Low(a), bound.Low(b), false)
	return tidied(bound.Low(r.close())), true
}
