package mem

import (
	"math"
	"math/big"
	"testing"

	"clevis/api"
)

func TestAddressAndSplit(t *testing.T) {
	for _, c := range []struct {
		region, off int
		want        uint64
	}{
		{0, 0, 0},
		{1, 0, 1 << 32},
		{2, 512, 2<<32 + 512},
		{3, 12, 3<<32 + 12},
		{10, 4095, 10<<32 + 4095},
		{3, 1<<32 - 1, 4<<32 - 1},
		{3, 1 << 32, 4 << 32},
		{3, -1, 3<<32 - 1},
		{0, -1, 1<<64 - 1},
		{-1, 0, 1<<64 - 1<<32},
		{1<<32 - 1, 1<<32 - 1, 1<<64 - 1},
		{1 << 32, 5, 5},
		{1<<32 + 1, 5, 1<<32 + 5},
		{math.MaxInt, 0, 1<<64 - 1<<32},
		{math.MinInt, 7, 7},
		{0, math.MaxInt, 1<<63 - 1},
		{0, math.MinInt, 1 << 63},
		{1 << 31, math.MinInt, 0},
	} {
		if got := Address(c.region, c.off); got != c.want {
			t.Errorf("Address(%d, %d) = %#x; want %#x", c.region, c.off, got, c.want)
		}
	}
	for _, c := range []struct {
		a           uint64
		region, off int
	}{
		{0, 0, 0},
		{1<<32 - 1, 0, 1<<32 - 1},
		{1 << 32, 1, 0},
		{3<<32 + 12, 3, 12},
		{3<<32 - 1, 2, 1<<32 - 1},
		{1 << 63, 1 << 31, 0},
		{1<<63 + 1<<31, 1 << 31, 1 << 31},
		{1<<64 - 1, 1<<32 - 1, 1<<32 - 1},
	} {
		if region, off := Split(c.a); region != c.region || off != c.off {
			t.Errorf("Split(%#x) = %d, %d; want %d, %d", c.a, region, off, c.region, c.off)
		}
		if got := Address(c.region, c.off); got != c.a {
			t.Errorf("Address(%d, %d) = %#x; want %#x", c.region, c.off, got, c.a)
		}
	}
}

func TestAddressAgainstNumbersWithoutEnd(t *testing.T) {
	ends := []int{math.MinInt, -1 << 32, -1, 0, 1, 2, 3, 10, 512, 1<<31 - 1, 1 << 31, 1 << 32, 1<<32 + 7, math.MaxInt}
	end := new(big.Int).Lsh(big.NewInt(1), 64)
	for _, region := range ends {
		for _, off := range ends {
			want := new(big.Int).Lsh(big.NewInt(int64(region)), 32)
			want.Mod(want.Add(want, big.NewInt(int64(off))), end)
			if got := Address(region, off); got != want.Uint64() {
				t.Errorf("Address(%d, %d) = %#x; want %#x", region, off, got, want)
			}
		}
	}
}

func TestAccessExamples(t *testing.T) {
	l := api.Layout{Context: api.Area{Size: 8}, Maps: []api.Area{{Size: 16}, {Size: 4096, Write: true}}}
	open := api.Layout{Context: api.Area{Size: 8, Write: true}}
	for _, c := range []struct {
		l     api.Layout
		a     uint64
		n     int
		write bool
		want  api.Errno
	}{
		{l, Address(3, 12), 4, false, api.OK},
		{l, Address(3, 12), 8, false, api.ErrRange},
		{l, Address(3, 0), 16, false, api.OK},
		{l, Address(3, 0), 17, false, api.ErrRange},
		{l, Address(3, 15), 1, false, api.OK},
		{l, Address(3, 16), 1, false, api.ErrRange},
		{l, Address(3, 1), 16, false, api.ErrRange},
		{l, Address(3, -1), 1, false, api.ErrRange},
		{l, Address(3, -1), 2, false, api.ErrRange},
		{l, Address(3, 12), 4, true, api.ErrPerm},
		{l, Address(3, 12), 8, true, api.ErrRange},
		{l, Address(3, 12), 0, true, api.ErrArg},
		{l, Address(3, 0), 3, false, api.OK},
		{l, Address(1, 0), 8, false, api.OK},
		{l, Address(1, 0), 8, true, api.ErrPerm},
		{l, Address(1, 1), 8, true, api.ErrRange},
		{open, Address(1, 0), 8, true, api.OK},
		{open, Address(1, 0), 9, true, api.ErrRange},
		{l, Address(2, 0), 512, true, api.OK},
		{l, Address(2, 0), 512, false, api.OK},
		{l, Address(2, 0), 513, true, api.ErrRange},
		{l, Address(2, 512), 1, true, api.ErrRange},
		{l, Address(2, 511), 1, true, api.OK},
		{l, Address(4, 0), 4096, true, api.OK},
		{l, Address(4, 0), 4097, true, api.ErrArg},
		{l, Address(4, 1), 4096, true, api.ErrRange},
		{l, Address(4, 4095), 1, true, api.OK},
		{l, Address(5, 0), 1, false, api.ErrRange},
		{l, Address(5, 0), 1, true, api.ErrRange},
		{l, Address(0, 0), 1, false, api.ErrRange},
		{l, 1<<64 - 1, 1, false, api.ErrRange},
		{l, 1 << 63, 1, true, api.ErrRange},
		{l, 1<<63 + Address(3, 0), 1, false, api.ErrRange},
		{l, 3, 1, false, api.ErrRange},
		{api.Layout{}, Address(1, 0), 1, false, api.ErrRange},
		{api.Layout{}, Address(2, 508), 4, true, api.OK},
		{layout(0, 0), Address(2, 0), 1, false, api.ErrRange},
		{layout(0, 0), Address(2, 0), 0, false, api.ErrArg},
		{layout(0, 16, -1), Address(3, 0), 1, true, api.ErrRange},
	} {
		if got := Access(c.l, c.a, c.n, c.write); got != c.want {
			t.Errorf("Access(%v, %#x, %d, %v) = %d; want %d", c.l, c.a, c.n, c.write, got, c.want)
		}
	}
}

// wanted says of an access what the document says, one byte after the other.
func wanted(l api.Layout, a uint64, n int, write bool) api.Errno {
	if n < 1 || n > 4096 {
		return api.ErrArg
	}
	areas := map[uint64]api.Area{1: l.Context, 2: {Size: 512, Write: true}}
	for i, a := range l.Maps {
		areas[uint64(3+i)] = a
	}
	for i := range n {
		off := a%(1<<32) + uint64(i)
		if size := areas[a/(1<<32)].Size; off >= uint64(size) {
			return api.ErrRange
		}
	}
	if write && !areas[a/(1<<32)].Write {
		return api.ErrPerm
	}
	return api.OK
}

func TestAccessByteByByte(t *testing.T) {
	for _, l := range right {
		for region := -1; region <= 12; region++ {
			for _, off := range []int{-9, -1, 0, 1, 2, 7, 8, 15, 16, 23, 504, 511, 512, 513, 4088, 4095, 4096, 4097, 1<<31 - 1, 1 << 31, 1<<32 - 1} {
				for _, n := range []int{math.MinInt, -1, 0, 1, 2, 3, 4, 5, 8, 16, 17, 512, 513, 4095, 4096, 4097, 1 << 32, 1<<32 + 1, math.MaxInt} {
					for _, write := range []bool{false, true} {
						a := Address(region, off)
						if got, want := Access(l, a, n, write), wanted(l, a, n, write); got != want {
							t.Fatalf("Access(%v, %#x, %d, %v) = %d; want %d", l, a, n, write, got, want)
						}
					}
				}
			}
		}
	}
}

func TestAccessOfWrongLayouts(t *testing.T) {
	for _, l := range wrong {
		for region := range 13 {
			if e := Access(l, Address(region, 0), 1, false); e != api.ErrRange {
				t.Errorf("Access of region %d of %v = %d", region, l, e)
			}
			if e := Access(l, Address(region, 0), 4097, true); e != api.ErrArg {
				t.Errorf("Access of region %d of %v, too long = %d", region, l, e)
			}
		}
	}
}
