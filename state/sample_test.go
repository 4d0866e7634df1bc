package state_test

import (
	"math"
	"math/rand"
	"slices"

	"clevis/api"
	"clevis/bound"
	"clevis/state"
)

const (
	full  = 1<<64 - 1
	least = math.MinInt
	most  = math.MaxInt
)

// What may be known, and what may not.
var (
	unset = api.Known{}
	all   = number(bound.Any())
	five  = number(bound.Const(5))
	few   = number(bound.Size(1))
	none  = api.Bound{Umin: 1}                                         // above its end
	signs = api.Bound{Umax: full, Smin: 1, Bits: api.Tnum{Mask: full}} // likewise, with signs
	bits  = api.Bound{Umax: full, Smin: least, Smax: most, Bits: api.Tnum{Value: 1, Mask: full}}
	empty = api.Bound{Umin: 4, Umax: 7, Smin: -5, Smax: -2, Bits: api.Tnum{Value: 64}} // it may be, though nothing is in
)

func number(b api.Bound) api.Known { return api.Known{Kind: api.Number, Num: b} }

func place(region int, b api.Bound) api.Known {
	return api.Known{Kind: api.Place, Num: b, Region: region}
}

// right may be known, wrong may not.
var right = []api.Known{
	unset, all, five, few, number(bound.Const(full)), number(api.Bound{}), number(empty),
	place(1, bound.Const(0)), place(2, bound.Const(512)), place(3, bound.Any()), place(9, bound.Size(2)), place(10, api.Bound{}), place(10, empty),
}

var wrong = []api.Known{
	{Num: bound.Const(5)}, {Num: bound.Any()}, {Region: 1}, {Region: -1}, {Region: 2, Num: bound.Any()},
	{Num: api.Bound{Umin: 1, Umax: 1}}, {Num: api.Bound{Smin: -1}}, {Num: api.Bound{Smax: 1}},
	{Num: api.Bound{Bits: api.Tnum{Mask: 1}}}, {Num: api.Bound{Bits: api.Tnum{Value: 1}}},
	number(none), number(signs), number(bits),
	{Kind: api.Number, Num: bound.Any(), Region: 1}, {Kind: api.Number, Num: bound.Any(), Region: -1}, {Kind: api.Number, Region: 10},
	place(0, bound.Any()), place(-1, bound.Any()), place(11, bound.Any()), place(least, bound.Const(0)), place(most, bound.Const(0)),
	place(1<<32+1, bound.Const(0)), place(1, none), place(2, signs), place(10, bits),
	{Kind: 3}, {Kind: -1}, {Kind: 3, Num: bound.Any(), Region: 1}, {Kind: 1 << 32}, {Kind: 1<<32 + 1, Num: bound.Any()},
	{Kind: least, Num: bound.Any()}, {Kind: most, Num: bound.Any(), Region: 2},
}

// blank answers a state of which nothing is known.
func blank() api.Abs {
	return api.Abs{Regs: make([]api.Known, 11), Set: make([]bool, 512), Saved: make([]api.Known, 64)}
}

// with answers what another state is, but for a change.
func with(s api.Abs, change func(s *api.Abs)) api.Abs {
	s = api.Abs{Regs: slices.Clone(s.Regs), Set: slices.Clone(s.Set), Saved: slices.Clone(s.Saved)}
	change(&s)
	return s
}

// having answers a state in which a number is known of register r.
func having(r int, k api.Known) api.Abs {
	return with(blank(), func(s *api.Abs) { s.Regs[r] = k })
}

// setFrom answers what another state is, with the bytes from low up to, not with, high set.
func setFrom(s api.Abs, low, high int) api.Abs {
	return with(s, func(s *api.Abs) {
		for i := low; i < high; i++ {
			s.Set[i] = true
		}
	})
}

// keeping answers a state in which the stack's eight i is set, and k saved there.
func keeping(i int, k api.Known) api.Abs {
	return with(setFrom(blank(), 8*i, 8*i+8), func(s *api.Abs) { s.Saved[i] = k })
}

// wrongStates are states that may not be.
func wrongStates() []api.Abs {
	l := []api.Abs{{}, {Regs: blank().Regs}, {Set: blank().Set}, {Saved: blank().Saved}}
	for _, n := range []int{0, 1, 10, 12, 64, 512} {
		l = append(l, with(blank(), func(s *api.Abs) { s.Regs = make([]api.Known, n) }))
	}
	for _, n := range []int{0, 8, 64, 511, 513, 1024} {
		l = append(l, with(blank(), func(s *api.Abs) { s.Set = make([]bool, n) }))
		l = append(l, with(setFrom(blank(), 0, 512), func(s *api.Abs) { s.Set = append(s.Set[:min(n, 511)], make([]bool, max(n-511, 0))...) }))
	}
	for _, n := range []int{0, 11, 63, 65, 512} {
		l = append(l, with(blank(), func(s *api.Abs) { s.Saved = make([]api.Known, n) }))
	}
	for i := range 8 { // one byte of an eight is not set
		l = append(l, with(keeping(3, five), func(s *api.Abs) { s.Set[24+i] = false }))
	}
	l = append(l, with(blank(), func(s *api.Abs) { s.Saved[0] = five }), with(blank(), func(s *api.Abs) { s.Saved[63] = place(2, bound.Any()) }))
	for i, k := range wrong {
		l = append(l, having(i%11, k), keeping(i%64, k))
	}
	return append(l, having(0, wrong[0]), having(10, wrong[0]), keeping(0, wrong[0]), keeping(63, wrong[0]))
}

// some answers a number near where something changes, of few bits, or any.
func some(chance *rand.Rand) uint64 {
	switch chance.Intn(3) {
	case 0:
		return uint64(chance.Intn(9)) - 4 + uint64(chance.Intn(3))<<31
	case 1:
		return chance.Uint64() >> chance.Intn(64)
	}
	return chance.Uint64()
}

// around answers a bound in which x is.
func around(chance *rand.Rand, x uint64) api.Bound {
	switch chance.Intn(4) {
	case 0:
		return bound.Const(x)
	case 1:
		return bound.Any()
	}
	y := x + chance.Uint64()>>chance.Intn(64)
	return bound.Join(bound.Const(x), bound.Const(y))
}

// holding answers something known that holds x.
func holding(chance *rand.Rand, x uint64) api.Known {
	switch chance.Intn(4) {
	case 0:
		return unset
	case 1:
		region := 1 + chance.Intn(10)
		return place(region, around(chance, x-uint64(region)<<32))
	}
	return number(around(chance, x))
}

// known answers what may be known; wrong things, too, if it may be anything.
func known(chance *rand.Rand, anything bool) api.Known {
	switch n := chance.Intn(6); {
	case n == 0 && anything:
		return wrong[chance.Intn(len(wrong))]
	case n == 1:
		return right[chance.Intn(len(right))]
	}
	return holding(chance, some(chance))
}

// stateBy answers a state that may be, of which much is known.
func stateBy(chance *rand.Rand) api.Abs {
	s := blank()
	for i := range s.Regs {
		s.Regs[i] = known(chance, false)
	}
	for i := range s.Saved {
		from, to := 8*i+chance.Intn(9), 8*i+chance.Intn(9)
		if chance.Intn(2) == 0 {
			from, to = 8*i, 8*i+8
			s.Saved[i] = known(chance, false)
		}
		for from < to {
			s.Set[from] = true
			from++
		}
	}
	return s
}

// changed answers what another state is, with a few changes: some make it wider, some narrower, some wrong.
func changed(chance *rand.Rand, s api.Abs) api.Abs {
	return with(s, func(s *api.Abs) {
		for range chance.Intn(3) {
			i := chance.Intn(64)
			switch chance.Intn(6) {
			case 0:
				s.Regs[i%11] = unset
			case 1:
				s.Saved[i] = unset
			case 2:
				s.Saved[i], s.Set[8*i+i%8] = unset, false
			case 3:
				s.Regs[i%11].Num = bound.Join(s.Regs[i%11].Num, bound.Const(some(chance)))
			case 4:
				s.Regs[i%11] = known(chance, true)
			case 5:
				s.Saved[i] = known(chance, true)
			}
		}
	})
}

var begin = state.Begin
