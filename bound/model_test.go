package bound_test

import (
	"math/big"

	"clevis/api"
	"clevis/tnum"
)

// The model says the chapter's words once more, with numbers that have no end, and layer 7's calls for the bits.

// wide is a bound of numbers without end.
type wide struct {
	umin, umax, smin, smax *big.Int
	bits                   api.Tnum
}

func unsigned(x uint64) *big.Int { return new(big.Int).SetUint64(x) }

func power(n int) *big.Int { return new(big.Int).Lsh(big.NewInt(1), uint(n)) }

// signed answers a number from -2^63 to 2^63 - 1 that is x modulo 2^64.
func signed(x *big.Int) *big.Int {
	r := new(big.Int).Mod(x, power(64))
	if r.Bit(63) == 1 {
		r.Sub(r, power(64))
	}
	return r
}

// modulo answers x modulo 2^64.
func modulo(x *big.Int) *big.Int { return new(big.Int).Mod(x, power(64)) }

func lesser(x, y *big.Int) *big.Int {
	if x.Cmp(y) < 0 {
		return x
	}
	return y
}

func greater(x, y *big.Int) *big.Int {
	if x.Cmp(y) > 0 {
		return x
	}
	return y
}

func open(b api.Bound) wide {
	return wide{unsigned(b.Umin), unsigned(b.Umax), big.NewInt(b.Smin), big.NewInt(b.Smax), b.Bits}
}

func (w wide) close() api.Bound {
	return api.Bound{Umin: w.umin.Uint64(), Umax: w.umax.Uint64(), Smin: w.smin.Int64(), Smax: w.smax.Int64(), Bits: w.bits}
}

// modelFirst is Tidy's step 1.
func modelFirst(w wide) wide {
	v, m := unsigned(w.bits.Value), unsigned(w.bits.Mask)
	highest := new(big.Int).And(m, power(63))
	rest := new(big.Int).And(m, new(big.Int).Sub(power(63), big.NewInt(1)))
	w.smin = greater(w.smin, signed(new(big.Int).Or(v, highest)))
	w.smax = lesser(w.smax, signed(new(big.Int).Or(v, rest)))
	w.umin = greater(w.umin, v)
	w.umax = lesser(w.umax, new(big.Int).Or(v, m))
	return w
}

// modelSecond is Tidy's step 2.
func modelSecond(w wide) wide {
	if w.smin.Sign() >= 0 || w.smax.Sign() < 0 {
		w.umin = greater(w.umin, modulo(w.smin))
		w.umax = lesser(w.umax, modulo(w.smax))
		w.smin, w.smax = signed(w.umin), signed(w.umax)
	} else if signed(w.umax).Sign() >= 0 {
		w.smin = signed(w.umin)
		w.smax = lesser(w.smax, signed(w.umax))
		w.umax = modulo(w.smax)
	} else if signed(w.umin).Sign() < 0 {
		w.smin = greater(w.smin, signed(w.umin))
		w.umin = modulo(w.smin)
		w.smax = signed(w.umax)
	}
	return w
}

func (w wide) crossed() bool { return w.umin.Cmp(w.umax) > 0 || w.smin.Cmp(w.smax) > 0 }

func modelTidy(b api.Bound) (api.Bound, bool) {
	w := open(b)
	for range 2 {
		w = modelFirst(w)
		if w.crossed() {
			return api.Bound{}, false
		}
		w = modelSecond(w)
		bits, ok := tnum.Meet(w.bits, tnum.Range(w.umin.Uint64(), w.umax.Uint64()))
		if !ok || w.crossed() {
			return api.Bound{}, false
		}
		w.bits = bits
	}
	return w.close(), true
}

func modelJoin(a, b api.Bound) api.Bound {
	x, y := open(a), open(b)
	return wide{
		lesser(x.umin, y.umin), greater(x.umax, y.umax), lesser(x.smin, y.smin), greater(x.smax, y.smax), tnum.Join(a.Bits, b.Bits),
	}.close()
}

func modelMeet(a, b api.Bound) (api.Bound, bool) {
	bits, ok := tnum.Meet(a.Bits, b.Bits)
	if !ok {
		return api.Bound{}, false
	}
	x, y := open(a), open(b)
	return modelTidy(wide{
		greater(x.umin, y.umin), lesser(x.umax, y.umax), greater(x.smin, y.smin), lesser(x.smax, y.smax), bits,
	}.close())
}

func modelLow(b api.Bound) api.Bound {
	if unsigned(b.Umax).Cmp(power(32)) < 0 {
		return b
	}
	low, ok := modelTidy(api.Bound{Umax: 1<<32 - 1, Smax: 1<<32 - 1, Bits: tnum.Low(b.Bits)})
	if !ok {
		return api.Bound{Umax: 1<<32 - 1, Smax: 1<<32 - 1, Bits: api.Tnum{Mask: 1<<32 - 1}}
	}
	return low
}

func modelCheck(b api.Bound) bool { return !open(b).crossed() && tnum.Check(b.Bits) }

// modelHas tells whether a number lies from where to where a bound says; its bits aside.
func modelHas(b api.Bound, u, s *big.Int) bool {
	w := open(b)
	return u.Cmp(w.umin) >= 0 && u.Cmp(w.umax) <= 0 && s.Cmp(w.smin) >= 0 && s.Cmp(w.smax) <= 0
}

func modelIn(b api.Bound, x uint64) bool {
	return modelHas(b, unsigned(x), signed(unsigned(x))) && tnum.In(b.Bits, x)
}

func modelWithin(a, b api.Bound) bool {
	w := open(b)
	return modelHas(a, w.umin, w.smin) && modelHas(a, w.umax, w.smax) && tnum.Within(a.Bits, b.Bits)
}
