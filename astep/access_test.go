package astep_test

import (
	"testing"

	"clevis/api"
	"clevis/bound"
	"clevis/state"
)

// The ops of accesses, by how many bytes they are of.
var (
	loads  = map[int]int{1: 0x71, 2: 0x69, 4: 0x61, 8: 0x79}
	puts   = map[int]int{1: 0x72, 2: 0x6a, 4: 0x62, 8: 0x7a}
	stores = map[int]int{1: 0x73, 2: 0x6b, 4: 0x63, 8: 0x7b}
)

// fact is of an access to a region, from low to high.
func fact(region, low, high int) api.Fact {
	return api.Fact{Seen: true, Region: region, Low: int64(low), High: int64(high)}
}

// accesses asks for a load, and two stores, of n bytes at a place and Off: whether they may be done.
func accesses(t *testing.T, l api.Layout, base api.Known, off, size int, may, write bool) {
	t.Helper()
	s := filled(having(regs{4: base, 5: few, 6: context}), 0, 512)
	f := fact(base.Region, int(base.Num.Smin)+off, int(base.Num.Smax)+off)
	load, imm, store := ins(loads[size], 7, 4, off, 0), ins(puts[size], 4, 0, off, -2), ins(stores[size], 4, 5, off, 0)
	if !may {
		harmsIn(t, l, s, load)
	} else {
		goesIn(t, l, s, load, f, next(1, put(s, regs{7: number(bound.Size(size))})))
	}
	if !may || !write {
		harmsIn(t, l, s, imm)
		harmsIn(t, l, s, store)
		return
	}
	kept, keptReg := s, s
	if base.Region == api.Stack {
		kept = state.Store(s, int(f.Low), int(f.High), size, n(full-1))
		keptReg = state.Store(s, int(f.Low), int(f.High), size, few)
	}
	goesIn(t, l, s, imm, f, next(1, kept))
	goesIn(t, l, s, store, f, next(1, keptReg))
}

// TestAccessesAtTheEndsOfRegions: each of the regions, each size, by the offset and by Off.
func TestAccessesAtTheEndsOfRegions(t *testing.T) {
	area := func(size int, write bool) api.Area { return api.Area{Size: size, Write: write} }
	for _, l := range []api.Layout{
		sample, {}, {Context: area(7, true), Maps: []api.Area{area(1, false)}}, {Context: area(4096, true), Maps: []api.Area{area(4096, true), area(8, false)}},
	} {
		regions := append([]api.Area{l.Context, area(512, true)}, l.Maps...)
		for region := 1; region <= 10; region++ {
			size, write, is := 0, false, region <= len(regions)
			if is {
				size, write = regions[region-1].Size, regions[region-1].Write
			}
			for bytes := range loads {
				for _, first := range []int{-bytes, -1, 0, 1, size - bytes - 1, size - bytes, size - bytes + 1, size, size + 1, 4096, 1 << 32} {
					may := is && first >= 0 && first+bytes <= size
					for _, off := range []int{0, -32768, -1, 1, 8, 32767} {
						accesses(t, l, at(region, first-off), off, bytes, may, write)
					}
				}
			}
		}
	}
}

// TestAccessesOfManyOffsets: the least and the greatest count.
func TestAccessesOfManyOffsets(t *testing.T) {
	for _, c := range []struct {
		region, low, high, off, size int
		may                          bool
	}{
		{3, 0, 12, 0, 8, true}, {3, 0, 13, 0, 8, false}, {3, -1, 12, 0, 8, false}, {3, -1, 12, 1, 8, false}, {3, -1, 11, 1, 8, true}, {3, 1, 13, -1, 8, true}, {3, 0, 13, -1, 8, false},
		{3, 0, 19, 0, 1, true}, {3, 0, 20, 0, 1, false}, {4, 60, 62, 0, 8, true}, {4, 60, 63, 0, 8, false}, {1, 0, 12, 0, 4, true}, {1, 0, 12, 1, 4, false},
		{2, 0, 504, 0, 8, true}, {2, 0, 505, 0, 8, false}, {2, 8, 512, -8, 8, true}, {2, 8, 512, -9, 8, false}, {2, 500, 512, -8, 8, true}, {2, 500, 512, -8, 4, true},
		{3, least, most, 0, 1, false}, {3, 0, most, 1, 1, false}, {3, 0, most, 32767, 1, false}, {3, least, 0, -1, 1, false}, {3, least, 0, -32768, 1, false},
		{3, most, most, 1, 1, false}, {3, least, least, -1, 1, false}, {3, least, least, -32768, 1, false}, {3, most - 5, most, 32767, 1, false}, {3, 5, 1 << 32, 0, 1, false},
		{3, reach, reach, 0, 1, false}, {3, -reach, -reach, 0, 1, false}, {3, -reach, reach, 0, 1, false}, {3, reach + 1, reach + 1, 0, 1, false}, {3, -reach - 1, 0, 0, 1, false},
	} {
		accesses(t, sample, place(c.region, signs(c.low, c.high)), c.off, c.size, c.may, c.region != 1 && c.region != 4)
	}
}

// TestAccessesGoBySigns: what else is known of an offset does not count.
func TestAccessesGoBySigns(t *testing.T) {
	low := bound.Any()
	low.Umax, low.Bits = 12, api.Tnum{Mask: 12}
	accesses(t, sample, place(3, low), 0, 8, false, false)
	low.Smin, low.Smax = 5, 5
	accesses(t, sample, place(3, low), 0, 8, true, true)
	odd := api.Bound{Umin: 100, Umax: full, Smin: 3, Smax: 7, Bits: api.Tnum{Value: 64}}
	accesses(t, sample, place(3, odd), 0, 8, true, true)
	accesses(t, sample, place(2, odd), 0, 8, true, true)
	accesses(t, sample, place(3, odd), 6, 8, false, true)
}

// TestAccessesNeedPlaces: neither a number nor what is not set is one.
func TestAccessesNeedPlaces(t *testing.T) {
	s := filled(having(regs{2: five, 3: all, 5: n(3 << 32), 6: n(2<<32 + 8)}), 0, 512)
	for size := range loads {
		for _, r := range []int{0, 2, 3, 5, 6, 10} {
			harms(t, s, ins(loads[size], 7, r, 0, 0))
			harms(t, s, ins(puts[size], r, 0, 0, 5))
			harms(t, s, ins(stores[size], r, 2, 0, 0))
		}
	}
}

// TestLoadsOfOtherRegions: of eight bytes nothing is known, and Dst may be where the address was.
func TestLoadsOfOtherRegions(t *testing.T) {
	s := having(regs{1: context, 2: five, 4: at(4, 8)})
	goes(t, s, ins(0x79, 2, 1, 8, 0), fact(1, 8, 8), next(1, put(s, regs{2: all})))
	goes(t, s, ins(0x71, 4, 4, -8, 0), fact(4, 0, 0), next(1, put(s, regs{4: few})))
	goes(t, s, ins(0x69, 9, 4, 1, 0), fact(4, 9, 9), next(1, put(s, regs{9: number(bound.Size(2))})))
	goes(t, s, ins(0x61, 0, 4, 1, 0), fact(4, 9, 9), next(1, put(s, regs{0: number(bound.Size(4))})))
}

// TestLoadsOfTheStack: what was saved is loaded, and nothing that may not be set.
func TestLoadsOfTheStack(t *testing.T) {
	s := keeping(keeping(filled(having(regs{1: context, 3: place(2, to(8, 16)), 10: top}), 11, 30), 16, at(4, 3)), 504, five)
	load := func(size, off int) api.Ins { return ins(loads[size], 2, 10, off-512, 0) }
	goes(t, s, load(8, 504), fact(2, 504, 504), next(1, put(s, regs{2: five})))
	goes(t, s, load(8, 16), fact(2, 16, 16), next(1, put(s, regs{2: at(4, 3)})))
	goes(t, s, load(8, 11), fact(2, 11, 11), next(1, put(s, regs{2: all})))
	goes(t, s, load(8, 22), fact(2, 22, 22), next(1, put(s, regs{2: all})))
	goes(t, s, load(4, 16), fact(2, 16, 16), next(1, put(s, regs{2: number(bound.Size(4))})))
	goes(t, s, load(1, 29), fact(2, 29, 29), next(1, put(s, regs{2: few})))
	goes(t, s, load(2, 510), fact(2, 510, 510), next(1, put(s, regs{2: number(bound.Size(2))})))
	goes(t, s, ins(0x79, 10-1, 3, 3, 0), fact(2, 11, 19), next(1, put(s, regs{9: all})))
	goes(t, s, ins(0x71, 3, 3, 3, 0), fact(2, 11, 19), next(1, put(s, regs{3: few})))
	for _, x := range []api.Ins{load(8, 10), load(8, 23), load(1, 10), load(1, 30), load(4, 27), load(8, 496), load(8, 503), load(2, 503), load(1, 503), load(8, 0), ins(0x71, 2, 3, 2, 0), ins(0x79, 2, 3, 7, 0)} {
		harms(t, s, x)
	}
	goes(t, s, ins(0x79, 2, 3, 6, 0), fact(2, 14, 22), next(1, put(s, regs{2: all})))
}

// TestStoresOnTheStack: what is stored whole lies there, what is not leaves bytes alone.
func TestStoresOnTheStack(t *testing.T) {
	s := keeping(keeping(having(regs{1: context, 2: few, 3: place(2, to(12, 20)), 10: top}), 16, five), 504, five)
	gone := with(s, func(s *api.Abs) { s.Saved[63] = unset })
	goes(t, s, ins(0x7b, 10, 1, -512, 0), fact(2, 0, 0), next(1, keeping(s, 0, context)))
	goes(t, s, ins(0x7b, 10, 10, -8, 0), fact(2, 504, 504), next(1, keeping(s, 504, top)))
	goes(t, s, ins(0x7a, 10, 0, -8, -3), fact(2, 504, 504), next(1, keeping(s, 504, n(full-2))))
	goes(t, s, ins(0x7a, 10, 0, -8, -1<<31), fact(2, 504, 504), next(1, keeping(s, 504, n(full-1<<31+1))))
	goes(t, s, ins(0x7a, 10, 0, -9, 3), fact(2, 503, 503), next(1, filled(gone, 503, 511)))
	goes(t, s, ins(0x73, 10, 1, -1, 0), fact(2, 511, 511), next(1, gone))
	goes(t, s, ins(0x62, 10, 0, -512, 7), fact(2, 0, 0), next(1, filled(s, 0, 4)))
	goes(t, s, ins(0x6b, 10, 2, -509, 0), fact(2, 3, 3), next(1, filled(s, 3, 5)))
	goes(t, s, ins(0x7b, 3, 2, 0, 0), fact(2, 12, 20), next(1, with(s, func(s *api.Abs) { s.Saved[2] = unset })))
	goes(t, s, ins(0x72, 3, 0, -5, 0), fact(2, 7, 15), next(1, s))
	goes(t, s, ins(0x72, 3, 0, -4, 0), fact(2, 8, 16), next(1, with(s, func(s *api.Abs) { s.Saved[2] = unset })))
}

// TestStoresElsewhere leave what is known of the stack as it is.
func TestStoresElsewhere(t *testing.T) {
	s := keeping(having(regs{1: context, 2: few, 3: at(3, 16), 10: top}), 16, five)
	goes(t, s, ins(0x7b, 3, 2, 0-4, 0), fact(3, 12, 12), next(1, s))
	goes(t, s, ins(0x7b, 3, 1, -16, 0), fact(3, 0, 0), next(1, s)) // an address may be stored
	goes(t, s, ins(0x72, 3, 0, 3, 5), fact(3, 19, 19), next(1, s))
	harms(t, s, ins(0x7b, 1, 2, 0, 0)) // the context may not be written
	goesIn(t, api.Layout{Context: api.Area{Size: 8, Write: true}}, s, ins(0x7b, 1, 2, 0, 0), fact(1, 0, 0), next(1, s))
}

func TestStoresNeedWhatIsStored(t *testing.T) {
	s := having(regs{2: few, 3: at(3, 0), 10: top})
	for size := range stores {
		for _, base := range []int{3, 10} {
			off := 0
			if base == 10 {
				off = -8
			}
			harms(t, s, ins(stores[size], base, 4, off, 0))
			harms(t, s, ins(stores[size], base, 1, off, 0))
		}
		goes(t, s, ins(puts[size], 3, 0, 0, 9), fact(3, 0, 0), next(1, s)) // Src is not asked for
		goes(t, s, ins(stores[size], 3, 3, 0, 0), fact(3, 0, 0), next(1, s))
	}
}
