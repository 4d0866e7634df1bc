package branch_test

import (
	"math/big"

	"clevis/api"
	"clevis/bound"
	"clevis/tnum"
	"clevis/word"
)

// The model says the chapter's words once more, with numbers that have no end, and the calls of layers 1, 7 and 8.

// told is what is known of a number: from where to where without signs (at 0 and 1) and with (at 2 and 3), and its bits.
type told struct {
	ends [4]*big.Int
	bits api.Tnum
}

var one = big.NewInt(1)

func unsigned(x uint64) *big.Int { return new(big.Int).SetUint64(x) }

func power(n uint) *big.Int { return new(big.Int).Lsh(one, n) }

func open(b api.Bound) *told {
	return &told{[4]*big.Int{unsigned(b.Umin), unsigned(b.Umax), big.NewInt(b.Smin), big.NewInt(b.Smax)}, b.Bits}
}

func (k *told) close() api.Bound {
	return api.Bound{Umin: k.ends[0].Uint64(), Umax: k.ends[1].Uint64(), Smin: k.ends[2].Int64(), Smax: k.ends[3].Int64(), Bits: k.bits}
}

// limits are the least and the greatest of all numbers, without signs and with, in the order of a bound's ends.
func limits() [4]*big.Int {
	return [4]*big.Int{
		new(big.Int), new(big.Int).Sub(power(64), one), new(big.Int).Neg(power(63)), new(big.Int).Sub(power(63), one),
	}
}

func (k *told) atMost(i int, x *big.Int) {
	if k.ends[i].Cmp(x) > 0 {
		k.ends[i] = x
	}
}

func (k *told) atLeast(i int, x *big.Int) {
	if k.ends[i].Cmp(x) < 0 {
		k.ends[i] = x
	}
}

// modelBelow and modelUpto are the chapter's; at is 0 without signs, 2 with.
func modelBelow(x, y *told, at int) bool {
	high, low := new(big.Int).Sub(y.ends[at+1], one), new(big.Int).Add(x.ends[at], one)
	if high.Cmp(limits()[at]) < 0 || low.Cmp(limits()[at+1]) > 0 {
		return false
	}
	x.atMost(at+1, high)
	y.atLeast(at, low)
	return true
}

func modelUpto(x, y *told, at int) bool {
	x.atMost(at+1, y.ends[at+1])
	y.atLeast(at, x.ends[at])
	return true
}

// not is Jne's: k is not y, which is a Value.
func (k *told) not(y uint64) {
	as := [2]*big.Int{unsigned(y), big.NewInt(int64(y))}
	for i := range k.ends {
		beyond := limits()[i^1] // the end that the numbers go on to
		if k.ends[i].Cmp(as[i/2]) != 0 || as[i/2].Cmp(beyond) == 0 {
			continue
		}
		step := int64(1 - 2*(i%2))
		k.ends[i] = new(big.Int).Add(k.ends[i], big.NewInt(step))
	}
}

// meetBits learns bits, and tells whether they agree.
func (k *told) meetBits(t api.Tnum) bool {
	met, ok := tnum.Meet(k.bits, t)
	k.bits = met
	return ok
}

// modelHolds is what follows of a condition that holds; false: it cannot be.
func modelHolds(op int, a, b *told) bool {
	x, left := bound.Value(a.close())
	y, right := bound.Value(b.close())
	switch op {
	case api.Jeq:
		met, ok := bound.Meet(a.close(), b.close())
		*a, *b = *open(met), *open(met)
		return ok
	case api.Jne:
		if right {
			a.not(y)
		}
		if left {
			b.not(x)
		}
		return true
	case api.Jset:
		for i := range uint(64) {
			if right && y == 1<<i {
				return a.meetBits(api.Tnum{Value: 1 << i, Mask: full - 1<<i})
			}
		}
		return true
	}
	return map[int]func(x, y *told, at int) bool{
		api.Jgt: modelBelow, api.Jlt: modelBelow, api.Jsgt: modelBelow, api.Jslt: modelBelow,
		api.Jge: modelUpto, api.Jle: modelUpto, api.Jsge: modelUpto, api.Jsle: modelUpto,
	}[op](modelOrder(op, a, b))
}

// modelOrder answers first the lesser one, and whether signs count.
func modelOrder(op int, a, b *told) (*told, *told, int) {
	switch op {
	case api.Jgt, api.Jge:
		return b, a, 0
	case api.Jlt, api.Jle:
		return a, b, 0
	case api.Jsgt, api.Jsge:
		return b, a, 2
	}
	return a, b, 2
}

func modelOpposite(op int) int {
	for _, p := range pairs {
		if op == p[0] || op == p[1] {
			return p[0] + p[1] - op
		}
	}
	return -1
}

func hasSigns(op int) bool {
	return op == api.Jsgt || op == api.Jsge || op == api.Jslt || op == api.Jsle
}

// modelStays tells whether a and b stay as they are, though the condition is one and they may be.
func modelStays(op int, a, b api.Bound, wide bool) bool {
	end := power(32)
	if hasSigns(op) {
		end = power(31)
	}
	known := a.Umin == a.Umax && b.Umin == b.Umax
	return known || !wide && (unsigned(a.Umax).Cmp(end) >= 0 || unsigned(b.Umax).Cmp(end) >= 0)
}

func modelRefine(op int, a, b api.Bound, wide, holds bool) (api.Bound, api.Bound, bool) {
	if _, ok := word.Cond(op, 0, 0, true); !ok || !bound.Check(a) || !bound.Check(b) {
		return a, b, true
	}
	if met, _ := word.Cond(op, a.Umin, b.Umin, wide); a.Umin == a.Umax && b.Umin == b.Umax && met != holds {
		return api.Bound{}, api.Bound{}, false
	}
	if modelStays(op, a, b, wide) {
		return a, b, true
	}
	x, y, can := open(a), open(b), true
	switch known, ok := bound.Value(b); {
	case holds:
		can = modelHolds(op, x, y)
	case op != api.Jset:
		can = modelHolds(modelOpposite(op), x, y)
	case ok:
		can = x.meetBits(api.Tnum{Mask: full - known})
	}
	if !can {
		return api.Bound{}, api.Bound{}, false
	}
	left, ok := bound.Tidy(x.close())
	right, fits := bound.Tidy(y.close())
	if !ok || !fits {
		return api.Bound{}, api.Bound{}, false
	}
	return left, right, true
}
