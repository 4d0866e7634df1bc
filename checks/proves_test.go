package checks_test

import (
	"math"
	"slices"
	"testing"

	"clevis/api"
	"clevis/checks"
	"clevis/mem"
)

func TestExample(t *testing.T) {
	if !checks.Proves(sample, seen(api.Stack, 504, 504), 8, true) {
		t.Error("504 to 504 of the stack does not prove 8 bytes")
	}
	if checks.Proves(sample, seen(api.Stack, 505, 505), 8, false) {
		t.Error("505 to 505 of the stack proves 8 bytes")
	}
}

// TestWhatAFactMustSay: of each thing by itself that it is asked.
func TestWhatAFactMustSay(t *testing.T) {
	l := api.Layout{Context: api.Area{Size: 8}, Maps: []api.Area{{Size: 20, Write: true}, {Size: 20}}}
	full := api.Layout{Context: api.Area{Size: 4096, Write: true}, Maps: slices.Repeat([]api.Area{{Size: 4096, Write: true}}, 8)}
	for _, c := range []struct {
		name  string
		l     api.Layout
		f     api.Fact
		size  int
		write bool
		want  bool
	}{
		{"all is right", l, seen(3, 4, 16), 4, true, true},
		{"the whole map", l, seen(3, 0, 0), 20, true, true},
		{"each of its bytes", l, seen(3, 0, 19), 1, true, true},
		{"its last byte", l, seen(3, 19, 19), 1, true, true},
		{"not Seen", l, api.Fact{Region: 3, Low: 4, High: 16}, 4, false, false},
		{"nothing", l, api.Fact{}, 1, false, false},
		{"Seen alone", l, api.Fact{Seen: true}, 1, false, false},
		{"no region", l, seen(0, 4, 16), 4, false, false},
		{"a region below", l, seen(-1, 4, 16), 4, false, false},
		{"a region behind the last", l, seen(5, 4, 16), 4, false, false},
		{"a region far behind the last", l, seen(math.MaxInt, 4, 16), 4, false, false},
		{"a region modulo 2^32", l, seen(1<<32+3, 4, 16), 4, false, false},
		{"from below 0", l, seen(3, -1, 16), 4, false, false},
		{"from far below 0", l, seen(3, math.MinInt64, 16), 4, false, false},
		{"all below 0", l, seen(3, -8, -4), 4, false, false},
		{"from 0", l, seen(3, 0, 16), 4, false, true},
		{"from above its end", l, seen(3, 17, 16), 4, false, false},
		{"from its end", l, seen(3, 16, 16), 4, false, true},
		{"to 1 too far", l, seen(3, 4, 17), 4, false, false},
		{"to far behind the end", l, seen(3, 4, math.MaxInt64), 4, false, false},
		{"all behind the end", l, seen(3, 20, 20), 1, false, false},
		{"1 byte too many", l, seen(3, 4, 16), 5, false, false},
		{"more than the region", l, seen(3, 0, 0), 21, false, false},
		{"of no bytes", l, seen(3, 4, 16), 0, false, false},
		{"of less than no bytes", l, seen(3, 4, 16), -1, false, false},
		{"of the fewest bytes", l, seen(3, 4, 16), math.MinInt, false, false},
		{"of the most bytes", l, seen(3, 0, 0), math.MaxInt, false, false},
		{"of 3 bytes", l, seen(3, 4, 17), 3, true, true},
		{"of 3 bytes, 1 too far", l, seen(3, 4, 18), 3, true, false},
		{"read where none may write", l, seen(4, 4, 16), 4, false, true},
		{"written where none may write", l, seen(4, 4, 16), 4, true, false},
		{"the context read", l, seen(1, 0, 0), 8, false, true},
		{"the context read behind its end", l, seen(1, 1, 1), 8, false, false},
		{"the context written", l, seen(1, 0, 0), 8, true, false},
		{"the stack read", l, seen(2, 0, 508), 4, false, true},
		{"the stack written", l, seen(2, 0, 508), 4, true, true},
		{"the stack written behind its end", l, seen(2, 0, 509), 4, true, false},
		{"the whole stack", l, seen(2, 0, 0), 512, true, true},
		{"more than the stack", l, seen(2, 0, 0), 513, true, false},
		{"an empty context", api.Layout{}, seen(1, 0, 0), 1, false, false},
		{"an empty context, of no bytes", api.Layout{}, seen(1, 0, 0), 0, false, false},
		{"the stack without maps", api.Layout{}, seen(2, 504, 504), 8, true, true},
		{"a map without maps", api.Layout{}, seen(3, 0, 0), 1, false, false},
		{"the last of the most maps", full, seen(10, 0, 0), 4096, true, true},
		{"the greatest context", full, seen(1, 4095, 4095), 1, true, true},
		{"1 behind the greatest context", full, seen(1, 4096, 4096), 1, true, false},
		{"behind the last of the most maps", full, seen(11, 0, 0), 1, false, false},
	} {
		if got := checks.Proves(c.l, c.f, c.size, c.write); got != c.want {
			t.Errorf("%s: Proves(%v, %v, %d, %v) = %v", c.name, c.l, c.f, c.size, c.write, got)
		}
		if got := modelProves(c.l, c.f, c.size, c.write); got != c.want {
			t.Errorf("%s: the model says %v", c.name, got)
		}
	}
}

// wrongLayouts are such that may not be; what is wrong with them lies mostly in another region than the one that is asked.
func wrongLayouts() []api.Layout {
	area := api.Area{Size: 64, Write: true}
	return []api.Layout{
		{Context: api.Area{Size: -1}, Maps: []api.Area{area}},
		{Context: api.Area{Size: 4097}, Maps: []api.Area{area}},
		{Context: api.Area{Size: math.MaxInt}, Maps: []api.Area{area}},
		{Context: area, Maps: []api.Area{area, {}}},
		{Context: area, Maps: []api.Area{area, {Size: -5}}},
		{Context: area, Maps: []api.Area{area, {Size: 4097}}},
		{Context: area, Maps: []api.Area{{Size: math.MaxInt, Write: true}}},
		{Context: area, Maps: slices.Repeat([]api.Area{area}, 9)},
		{Context: area, Maps: slices.Repeat([]api.Area{area}, 1<<20)},
	}
}

// TestLayoutsThatMayNotBe have no regions, so nothing is proven of them.
func TestLayoutsThatMayNotBe(t *testing.T) {
	for _, l := range wrongLayouts() {
		for region := range 14 {
			if checks.Proves(l, seen(region, 0, 0), 1, false) {
				t.Errorf("%d maps, context %v: region %d", len(l.Maps), l.Context, region)
			}
		}
	}
}

// TestEveryByte: a fact proves just what layer 2 gives access to at each offset that it tells of, of small regions.
func TestEveryByte(t *testing.T) {
	l := api.Layout{Context: api.Area{Size: 5, Write: true}, Maps: []api.Area{{Size: 1}, {Size: 9, Write: true}, {Size: 3}}}
	proven := map[bool]int{}
	for region := range 8 {
		for low := int64(-2); low <= 11; low++ {
			for high := int64(-2); high <= 11; high++ {
				for size := -1; size <= 11; size++ {
					for _, write := range []bool{false, true} {
						want := everywhere(l, seen(region, low, high), size, write)
						proven[want]++
						if got := checks.Proves(l, seen(region, low, high), size, write); got != want {
							t.Fatalf("Proves(region %d, %d to %d, %d, %v) = %v", region, low, high, size, write, got)
						}
						if checks.Proves(l, api.Fact{Region: region, Low: low, High: high}, size, write) {
							t.Fatalf("Proves(region %d, %d to %d, %d, %v), though it is not Seen", region, low, high, size, write)
						}
					}
				}
			}
		}
	}
	if proven[true] < 1000 || proven[false] < 10000 {
		t.Error(proven)
	}
}

// everywhere tells whether there are offsets that a fact tells of, and layer 2 gives access at all of them.
func everywhere(l api.Layout, f api.Fact, size int, write bool) bool {
	for off := f.Low; off <= f.High; off++ {
		if off < 0 || mem.Access(l, mem.Address(f.Region, int(off)), size, write) != api.OK {
			return false
		}
	}
	return f.Low <= f.High
}

// TestProvesEdgesAgainstTheModel asks of all that lies near an edge, together.
func TestProvesEdgesAgainstTheModel(t *testing.T) {
	layouts := append(wrongLayouts()[:8], api.Layout{}, sample, api.Layout{Context: api.Area{Size: 4096}, Maps: []api.Area{{Size: 4096, Write: true}}})
	offs := []int64{math.MinInt64, math.MinInt64 + 1, -1 << 32, -4096, -1, 0, 1, 8, 15, 16, 17, 32, 39, 40, 504, 511, 512, 4088, 4095, 4096, 1 << 32, math.MaxInt64 - 8, math.MaxInt64}
	sizes := []int{math.MinInt, math.MinInt + 1, math.MinInt + 4096, -4096, -8, -1, 0, 1, 2, 4, 8, 9, 16, 40, 512, 513, 4096, 4097, 1 << 32, math.MaxInt - 1, math.MaxInt}
	proven := 0
	for _, l := range layouts {
		for _, region := range []int{math.MinInt, -1, 0, 1, 2, 3, 4, 5, 6, 10, 11, 1<<32 + 3, math.MaxInt} {
			for _, low := range offs {
				for _, high := range offs {
					for _, size := range sizes {
						for _, write := range []bool{false, true} {
							f := seen(region, low, high)
							want := modelProves(l, f, size, write)
							if got := checks.Proves(l, f, size, write); got != want {
								t.Fatalf("Proves(%v, %v, %d, %v) = %v", l, f, size, write, got)
							}
							if want {
								proven++
							}
						}
					}
				}
			}
		}
	}
	if proven < 1000 {
		t.Errorf("only %d are proven", proven)
	}
}
