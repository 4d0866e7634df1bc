package astep_test

import (
	"math/rand"
	"slices"
	"testing"

	"clevis/api"
	"clevis/astep"
	"clevis/bound"
	"clevis/legal"
	"clevis/state"
)

// pick answers an element of a list.
func pick[T any](chance *rand.Rand, l []T) T { return l[chance.Intn(len(l))] }

// some answers a number near where something changes, of few bits, or any.
func some(chance *rand.Rand) uint64 {
	switch chance.Intn(3) {
	case 0:
		return uint64(chance.Intn(9)) - 4 + uint64(chance.Intn(3))<<31
	case 1:
		return uint64(chance.Intn(80))
	}
	return chance.Uint64() >> chance.Intn(64)
}

// boundOf answers a bound in which x is; not tidy, some of the time.
func boundOf(chance *rand.Rand, x uint64) api.Bound {
	switch chance.Intn(6) {
	case 0:
		return bound.Any()
	case 1:
		b := bound.Any()
		b.Smin, b.Smax = int64(x)-int64(chance.Intn(9)), int64(x)+int64(chance.Intn(9))
		if b.Smin > int64(x) || b.Smax < int64(x) { // it came round
			return bound.Const(x)
		}
		return b
	case 2, 3:
		return bound.Const(x)
	}
	return bound.Join(bound.Const(x), bound.Const(x+uint64(chance.Intn(20))))
}

// offset answers an offset that is mostly in a region, or in it together with Off.
func offset(chance *rand.Rand, region int) int {
	switch {
	case chance.Intn(12) == 0:
		return int(some(chance))
	case region == 2 && chance.Intn(2) == 0:
		return 8 * chance.Intn(65)
	case region == 2:
		return chance.Intn(513)
	}
	return chance.Intn(24) - 2
}

// known answers what may be known of a register.
func known(chance *rand.Rand) api.Known {
	switch chance.Intn(8) {
	case 0:
		return unset
	case 1:
		return number(api.Bound{Umin: 4, Umax: 7, Smin: -5, Smax: -2, Bits: api.Tnum{Value: 64}})
	case 2, 3, 4:
		region := pick(chance, []int{1, 2, 2, 2, 3, 4, 5, 6, 7, 10})
		return place(region, boundOf(chance, uint64(offset(chance, region))))
	}
	return number(boundOf(chance, some(chance)))
}

// stateBy answers a state that may be, of which much is known.
func stateBy(chance *rand.Rand) api.Abs {
	s := having(nil)
	for r := range s.Regs {
		s.Regs[r] = known(chance)
	}
	if chance.Intn(3) > 0 {
		s.Regs[10] = top
	}
	gaps := chance.Intn(4)
	for i := range s.Set {
		s.Set[i] = chance.Intn(20) >= gaps*gaps
	}
	for i := range s.Saved {
		if !slices.Contains(s.Set[8*i:8*i+8], false) && chance.Intn(2) == 0 {
			s.Saved[i] = known(chance)
		}
	}
	return s
}

// insBy answers an instruction that may be.
func insBy(chance *rand.Rand) api.Ins {
	x := api.Ins{Dst: chance.Intn(10), Src: chance.Intn(11)}
	switch chance.Intn(12) {
	case 0, 1, 2:
		x.Op = pick(chance, operations) + pick(chance, []int{0x04, 0x07, 0x0c, 0x0f})
		x.Imm = chance.Intn(32)
	case 3, 4:
		x.Op = pick(chance, conditions) + pick(chance, []int{0x05, 0x06, 0x0d, 0x0e})
		x.Dst, x.Imm, x.Off = chance.Intn(11), int(int32(some(chance))), chance.Intn(20)-10
	case 5:
		return pick(chance, []api.Ins{exit, ins(0x05, 0, 0, chance.Intn(20)-10, 0), ins(0x87, x.Dst, 0, 0, 0), ins(0x84, x.Dst, 0, 0, 0)})
	case 6:
		return pick(chance, []api.Ins{wide(x.Dst, some(chance)), wideMap(x.Dst, chance.Intn(8))})
	case 7, 8:
		return call(pick(chance, []int{1, 2, 3, 3, 3, 4, 4, 4, 5}))
	default:
		x = accessBy(chance)
	}
	if x.Op&8 != 0 {
		x.Imm = 0
	} else if x.Op&7 > 3 {
		x.Src = 0
	}
	return x
}

func accessBy(chance *rand.Rand) api.Ins {
	x := api.Ins{Dst: chance.Intn(10), Src: chance.Intn(11), Op: pick(chance, []int{0x61, 0x69, 0x71, 0x79}) + chance.Intn(3)}
	x.Off = pick(chance, []int{0, 0, 0, -1, 1, -8, 8, -2, -16, -64, 3, -512, -32768, 32767})
	switch x.Op & 7 {
	case 1:
		return x
	case 2:
		x.Imm, x.Src = int(int32(some(chance))), 0
	}
	x.Dst = chance.Intn(11)
	return x
}

// fits makes the registers such that an instruction does no harm, most times.
func fits(chance *rand.Rand, s api.Abs, x api.Ins) api.Abs {
	base := 1
	switch {
	case x.Op == 0x85:
		s = put(s, regs{2: number(boundOf(chance, 1+uint64(chance.Intn(9)))), 3: n(some(chance))})
		if x.Imm != 3 && x.Imm != 4 {
			return put(s, regs{1: n(some(chance))})
		}
	case x.Op%8 == 1:
		base = x.Src
	case x.Op%8 == 2, x.Op%8 == 3:
		base = x.Dst
	default:
		return s
	}
	region := pick(chance, []int{1, 2, 2, 2, 3, 4, 5})
	first := uint64(offset(chance, region) - x.Off)
	if chance.Intn(2) == 0 {
		return put(s, regs{base: at(region, int(first))})
	}
	return put(s, regs{base: place(region, bound.Join(bound.Const(first), bound.Const(first+uint64(chance.Intn(9)))))})
}

func TestAgainstTheModel(t *testing.T) {
	chance := rand.New(rand.NewSource(12))
	codes, kinds := map[api.Errno]int{}, map[int]int{}
	for range 60000 {
		s, x := stateBy(chance), insBy(chance)
		if chance.Intn(3) > 0 {
			s = fits(chance, s, x)
		}
		p := around(x)
		got, f, e := astep.Step(sample, p, here, s)
		want, fact, code := modelStep(sample, p, here, s)
		if e != code || f != fact || !alike(got, want) {
			t.Fatalf("Step(%v) of %v = %s, %v, %d; want %s, %v, %d", x, s, brief(got, s), f, e, brief(want, s), fact, code)
		}
		for _, w := range got {
			if !state.Check(w.Abs) {
				t.Fatalf("Step(%v) of %v: %s may not be", x, s, brief(got, s))
			}
		}
		codes[e]++
		if e == api.OK {
			kinds[x.Op&7]++
		}
	}
	if codes[api.ErrArg] != 0 || codes[api.ErrUnsafe] < 5000 || codes[api.OK] < 10000 {
		t.Errorf("so many of each error: %v", codes)
	}
	for class := range 8 {
		if kinds[class] < 500 {
			t.Errorf("only %d of class %d were done", kinds[class], class)
		}
	}
}

// TestProgramsAgainstTheModel asks at all places of programs with holes, and of such as may not be.
func TestProgramsAgainstTheModel(t *testing.T) {
	chance := rand.New(rand.NewSource(13))
	states := []api.Abs{put(filled(state.Begin(), 0, 512), regs{0: five, 2: few, 3: five, 4: top}), state.Begin(), {}}
	layouts := []api.Layout{sample, {}, {Context: api.Area{Size: 4096, Write: true}}, {Context: api.Area{Size: -1}}}
	for range 4000 {
		var p []api.Ins
		for range chance.Intn(8) {
			x := insBy(chance)
			switch chance.Intn(6) {
			case 0:
				x = wide(x.Dst, some(chance))
			case 1:
				x = api.Ins{Op: chance.Intn(300), Dst: chance.Intn(12), Src: chance.Intn(12), Off: chance.Intn(3), Imm: chance.Intn(70) - 1, Wide: uint64(chance.Intn(9) / 8)}
			}
			p = append(p, x)
			if x.Op == 0x18 && chance.Intn(2) == 0 {
				p = append(p, api.Ins{})
			}
		}
		l, s := pick(chance, layouts), pick(chance, states)
		for at := -1; at <= len(p); at++ {
			got, f, e := astep.Step(l, p, at, s)
			want, fact, code := modelStep(l, p, at, s)
			if e != code || f != fact || !alike(got, want) {
				t.Fatalf("Step(%v, %v, %d) of %v = %s, %v, %d; want %s, %v, %d", l, p, at, s, brief(got, s), f, e, brief(want, s), fact, code)
			}
			if e != api.ErrArg && !legal.Ins(p[at]) {
				t.Fatalf("Step(%v) is done, though it may not be", p[at])
			}
		}
	}
}
