package state_test

import (
	"math/big"

	"clevis/api"
	"clevis/bound"
)

// The model says the chapter's words once more: bytes one by one, numbers without end, and the calls of layer 8.

var regions = map[int]bool{1: true, 2: true, 3: true, 4: true, 5: true, 6: true, 7: true, 8: true, 9: true, 10: true}

func modelMay(k api.Known) bool {
	isUnset := k.Kind == 0 && k.Region == 0 && k.Num == api.Bound{}
	isNumber := k.Kind == 1 && k.Region == 0 && bound.Check(k.Num)
	isPlace := k.Kind == 2 && regions[k.Region] && bound.Check(k.Num)
	return isUnset || isNumber || isPlace
}

func modelCheck(s api.Abs) bool {
	if len(s.Regs) != 11 || len(s.Set) != 512 || len(s.Saved) != 64 {
		return false
	}
	for _, k := range append(append([]api.Known{}, s.Regs...), s.Saved...) {
		if !modelMay(k) {
			return false
		}
	}
	for i, is := range s.Set {
		if !is && s.Saved[i/8].Kind != 0 {
			return false
		}
	}
	return true
}

func modelHolds(k api.Known, x uint64) bool {
	if k.Kind != 1 && k.Kind != 2 {
		return true
	}
	left := new(big.Int).SetUint64(x)
	if k.Kind == 2 {
		left.Sub(left, new(big.Int).Lsh(big.NewInt(int64(k.Region)), 32))
		left.Mod(left, new(big.Int).Lsh(big.NewInt(1), 64))
	}
	return bound.In(k.Num, left.Uint64())
}

// modelSays tells whether b says all that a says.
func modelSays(a, b api.Known) bool {
	switch {
	case a.Kind == 0:
		return true
	case a.Kind == 1 && b.Kind == 1, a.Kind == 2 && b.Kind == 2 && a.Region == b.Region:
		return bound.Within(a.Num, b.Num)
	}
	return false
}

func modelWithin(a, b api.Abs) bool {
	if !modelCheck(a) || !modelCheck(b) {
		return false
	}
	for i := range 11 {
		if !modelSays(a.Regs[i], b.Regs[i]) {
			return false
		}
	}
	for i := range 512 {
		if a.Set[i] && !b.Set[i] || !modelSays(a.Saved[i/8], b.Saved[i/8]) {
			return false
		}
	}
	return true
}

func modelPut(s api.Abs, r int, k api.Known) api.Abs {
	return with(s, func(s *api.Abs) {
		for i := range s.Regs {
			if i == r && modelCheck(*s) && modelMay(k) {
				s.Regs[i] = k
				return
			}
		}
	})
}

// modelBytes answers the bytes that some access of n bytes from low to high takes; false, if it may not be.
func modelBytes(low, high, n int) (map[int]bool, bool) {
	if low > high || low < 0 || n < 1 || high > 512 || n > 512 || high+n > 512 {
		return nil, false
	}
	taken := map[int]bool{}
	for first := low; first <= high; first++ {
		for i := range n {
			taken[first+i] = true
		}
	}
	return taken, true
}

func modelStore(s api.Abs, low, high, n int, k api.Known) api.Abs {
	return with(s, func(s *api.Abs) {
		taken, ok := modelBytes(low, high, n)
		if !ok || !modelCheck(*s) || !modelMay(k) {
			return
		}
		for i := range 512 {
			if taken[i] {
				s.Saved[i/8] = api.Known{}
			}
			if taken[i] && low == high {
				s.Set[i] = true
			}
		}
		for i := range 64 {
			if low == 8*i && high == 8*i && n == 8 {
				s.Saved[i] = k
			}
		}
	})
}

func modelReady(s api.Abs, low, high int) bool {
	if !modelCheck(s) || low < 0 || low > high || high > 512 {
		return false
	}
	for i, is := range s.Set {
		if low <= i && i < high && !is {
			return false
		}
	}
	return true
}

func modelLoad(s api.Abs, low, high, n int) (api.Known, bool) {
	taken, ok := modelBytes(low, high, n)
	if !ok || !modelCheck(s) {
		return api.Known{}, false
	}
	for i := range taken {
		if !s.Set[i] {
			return api.Known{}, false
		}
	}
	for i, k := range s.Saved {
		if low == 8*i && high == 8*i && n == 8 && k.Kind != 0 {
			return k, true
		}
	}
	return api.Known{Kind: 1, Num: bound.Size(n)}, true
}
