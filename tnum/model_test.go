package tnum_test

import (
	"math/big"

	"clevis/api"
)

// The model says the chapter's words once more, with numbers that have no end: nothing is lost but where it is taken modulo 2^64.

var end = power(64)

func power(n int) *big.Int { return new(big.Int).Lsh(big.NewInt(1), uint(n)) }

func number(x uint64) *big.Int { return new(big.Int).SetUint64(x) }

func plus(x, y *big.Int) *big.Int { return new(big.Int).Add(x, y) }

func less(x, y *big.Int) *big.Int { return new(big.Int).Sub(x, y) }

func times(x, y *big.Int) *big.Int { return new(big.Int).Mul(x, y) }

// cut answers x modulo 2^64.
func cut(x *big.Int) uint64 { return new(big.Int).Mod(x, end).Uint64() }

// bit answers whether a number has a bit.
func bit(x uint64, i int) bool { return number(x).Bit(i) == 1 }

// bitwise makes known bits one by one: f answers Value's and Mask's bit i.
func bitwise(f func(i int) (bool, bool)) api.Tnum {
	var value, mask big.Int
	for i := range 64 {
		v, m := f(i)
		if v {
			value.SetBit(&value, i, 1)
		}
		if m {
			mask.SetBit(&mask, i, 1)
		}
	}
	return api.Tnum{Value: value.Uint64(), Mask: mask.Uint64()}
}

func modelCheck(t api.Tnum) bool {
	for i := range 64 {
		if bit(t.Value, i) && bit(t.Mask, i) {
			return false
		}
	}
	return true
}

func modelIn(t api.Tnum, x uint64) bool {
	for i := range 64 {
		if (bit(x, i) && !bit(t.Mask, i)) != bit(t.Value, i) {
			return false
		}
	}
	return true
}

func modelWithin(a, b api.Tnum) bool {
	for i := range 64 {
		if bit(b.Mask, i) && !bit(a.Mask, i) {
			return false
		}
		if (bit(b.Value, i) && !bit(a.Mask, i)) != bit(a.Value, i) {
			return false
		}
	}
	return true
}

func modelRange(low, high uint64) api.Tnum {
	b := new(big.Int).Xor(number(low), number(high)).BitLen()
	if b == 64 {
		return api.Tnum{Mask: 1<<64 - 1}
	}
	rest := new(big.Int).Mod(number(low), power(b))
	return api.Tnum{Value: less(number(low), rest).Uint64(), Mask: less(power(b), number(1)).Uint64()}
}

// modelCarried answers x without what is unknown of it: the bits by which one and other differ, and those of both masks.
func modelCarried(x, one, other *big.Int, a, b api.Tnum) api.Tnum {
	s, c, d := cut(x), cut(one), cut(other)
	return bitwise(func(i int) (bool, bool) {
		m := bit(c, i) != bit(d, i) || bit(a.Mask, i) || bit(b.Mask, i)
		return bit(s, i) && !m, m
	})
}

func modelAdd(a, b api.Tnum) api.Tnum {
	s := number(cut(plus(number(a.Value), number(b.Value))))
	return modelCarried(s, plus(plus(number(a.Mask), number(b.Mask)), s), s, a, b)
}

func modelSub(a, b api.Tnum) api.Tnum {
	d := number(cut(less(number(a.Value), number(b.Value))))
	return modelCarried(d, plus(d, number(a.Mask)), less(d, number(b.Mask)), a, b)
}

func modelMul(a, b api.Tnum) api.Tnum {
	p := cut(times(number(a.Value), number(b.Value)))
	var q api.Tnum
	value, mask := number(b.Value), number(b.Mask)
	for i := range 64 {
		if bit(a.Value, i) {
			q = modelAdd(q, api.Tnum{Mask: mask.Uint64()})
		} else if bit(a.Mask, i) {
			q = modelAdd(q, api.Tnum{Mask: new(big.Int).Or(value, mask).Uint64()})
		}
		value = number(cut(plus(value, value)))
		mask = number(cut(plus(mask, mask)))
	}
	return modelAdd(api.Tnum{Value: p}, q)
}

func modelAnd(a, b api.Tnum) api.Tnum {
	return bitwise(func(i int) (bool, bool) {
		v := bit(a.Value, i) && bit(b.Value, i)
		return v, (bit(a.Value, i) || bit(a.Mask, i)) && (bit(b.Value, i) || bit(b.Mask, i)) && !v
	})
}

func modelOr(a, b api.Tnum) api.Tnum {
	return bitwise(func(i int) (bool, bool) {
		v := bit(a.Value, i) || bit(b.Value, i)
		return v, (bit(a.Mask, i) || bit(b.Mask, i)) && !v
	})
}

func modelXor(a, b api.Tnum) api.Tnum {
	return bitwise(func(i int) (bool, bool) {
		m := bit(a.Mask, i) || bit(b.Mask, i)
		return bit(a.Value, i) != bit(b.Value, i) && !m, m
	})
}

func modelShift(op int, a api.Tnum, n int) api.Tnum {
	by := int(new(big.Int).Mod(big.NewInt(int64(n)), big.NewInt(64)).Int64())
	from := func(x uint64, i int) bool { // bit i of x shifted
		switch {
		case op == api.Lsh:
			return i >= by && bit(x, i-by)
		case i+by < 64:
			return bit(x, i+by)
		}
		return op == api.Arsh && bit(x, 63)
	}
	if op != api.Lsh && op != api.Rsh && op != api.Arsh {
		return a
	}
	return bitwise(func(i int) (bool, bool) { return from(a.Value, i), from(a.Mask, i) })
}

func modelMeet(a, b api.Tnum) (api.Tnum, bool) {
	agree := true
	t := bitwise(func(i int) (bool, bool) {
		m := bit(a.Mask, i) && bit(b.Mask, i)
		if bit(a.Value, i) != bit(b.Value, i) && !bit(a.Mask, i) && !bit(b.Mask, i) {
			agree = false
		}
		return (bit(a.Value, i) || bit(b.Value, i)) && !m, m
	})
	if !agree {
		return api.Tnum{}, false
	}
	return t, true
}

func modelJoin(a, b api.Tnum) api.Tnum {
	return bitwise(func(i int) (bool, bool) {
		m := bit(a.Mask, i) || bit(b.Mask, i) || bit(a.Value, i) != bit(b.Value, i)
		return bit(a.Value, i) && bit(b.Value, i) && !m, m
	})
}

func modelLow(a api.Tnum) api.Tnum {
	return bitwise(func(i int) (bool, bool) { return i < 32 && bit(a.Value, i), i < 32 && bit(a.Mask, i) })
}
