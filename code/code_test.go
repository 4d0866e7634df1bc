package code_test

import (
	"math"
	"slices"
	"testing"

	"clevis/api"
	"clevis/code"
)

func TestHole(t *testing.T) {
	wide := api.Ins{Op: 0x18}
	set := api.Ins{Op: 0xb7, Imm: 5}
	for _, c := range []struct {
		l    []api.Ins
		want []bool
	}{
		{[]api.Ins{{}}, []bool{false}},
		{[]api.Ins{wide}, []bool{false}},
		{[]api.Ins{wide, {}}, []bool{false, true}},
		{[]api.Ins{wide, {}, {}}, []bool{false, true, false}},
		{[]api.Ins{{}, wide, {}}, []bool{false, false, true}},
		{[]api.Ins{{}, {}, set, {}}, []bool{false, false, false, false}},
		{[]api.Ins{wide, {}, wide, {}}, []bool{false, true, false, true}},
		{[]api.Ins{wide, set, set}, []bool{false, true, false}},
		{[]api.Ins{wide, wide}, []bool{false, true}},
		{[]api.Ins{wide, wide, {}}, []bool{false, true, false}},
		{[]api.Ins{wide, wide, wide, {}}, []bool{false, true, false, true}},
		{[]api.Ins{set, wide, wide, wide, wide, set}, []bool{false, false, true, false, true, false}},
		{[]api.Ins{{Op: 0x18, Dst: 99, Imm: 1, Wide: 2}, {}}, []bool{false, true}},
		{[]api.Ins{{Op: 0x118}, {}}, []bool{false, false}},
		{[]api.Ins{{Op: -0xe8}, {}}, []bool{false, false}},
		{[]api.Ins{{Op: 0x10}, {}, {Op: 0x08}, {}, {Op: 0x1c}, {}}, make([]bool, 6)},
		{[]api.Ins{{Wide: 5}, {}, {Imm: 0x18}, {}}, make([]bool, 4)},
	} {
		before := slices.Clone(c.l)
		for i, want := range c.want {
			if got := code.Hole(c.l, i); got != want {
				t.Errorf("Hole(%v, %d) = %v", c.l, i, got)
			}
		}
		if !slices.Equal(c.l, before) {
			t.Errorf("Hole changed %v", before)
		}
	}
}

func TestHoleOfNoPlace(t *testing.T) {
	wide := []api.Ins{{Op: 0x18}, {}, {Op: 0x18}, {}}
	for _, i := range []int{math.MinInt, -2, -1, 0} {
		if code.Hole(wide, i) || code.Hole(nil, i) {
			t.Errorf("a hole at %d", i)
		}
	}
	for n := range 4 {
		for _, i := range []int{n, n + 1, n + 2, 4096, math.MaxInt} { // wide[:3] ends with a wide one
			if code.Hole(wide[:n], i) {
				t.Errorf("a hole at %d of %d", i, n)
			}
		}
	}
}

func TestHolesOfALongRow(t *testing.T) {
	const n = 1 << 20
	l := slices.Repeat([]api.Ins{{Op: 0x18}}, n)
	for _, i := range []int{0, 1, 2, 3, 4095, 4096, 4097, n - 2, n - 1, n} {
		if got, want := code.Hole(l, i), i%2 == 1; got != want {
			t.Errorf("Hole of wide ones at %d: %v", i, got)
		}
	}
	l[n-4].Op = 0
	for i, want := range []bool{false, true, false, false, true} {
		if at := n - 6 + i; code.Hole(l, at) != want {
			t.Errorf("Hole at %d: %v", at, !want)
		}
	}
}

// TestHolesOfWhatIsDecoded: they are the second slots, and all of them zero.
func TestHolesOfWhatIsDecoded(t *testing.T) {
	r := chance()
	found := 0
	for range 2000 {
		l, e := code.Decode(someBytes(r, 1+r.IntN(12)))
		if e != api.OK {
			continue
		}
		second := false
		for i, x := range l {
			if code.Hole(l, i) != second || second && x != (api.Ins{}) {
				t.Fatalf("%v at %d", l, i)
			}
			second = !second && x.Op == 0x18
			if second {
				found++
			}
		}
	}
	if found < 100 {
		t.Errorf("%d holes are too few", found)
	}
}

func TestText(t *testing.T) {
	for _, c := range []struct {
		x    api.Ins
		want string
	}{
		{api.Ins{}, "0 0 0 0 0"},
		{api.Ins{Op: 0xb7, Imm: 5}, "183 0 0 0 5"},
		{api.Ins{Op: 1, Dst: 2, Src: 3, Off: 4, Imm: 5}, "1 2 3 4 5"},
		{api.Ins{Op: 255, Dst: 15, Src: 15, Off: 1<<15 - 1, Imm: 1<<31 - 1}, "255 15 15 32767 2147483647"},
		{api.Ins{Op: 0x61, Dst: 9, Src: 10, Off: -1 << 15, Imm: -1 << 31}, "97 9 10 -32768 -2147483648"},
		{api.Ins{Op: 5, Off: -1, Imm: -100}, "5 0 0 -1 -100"},
		{api.Ins{Op: 0x18}, "24 0 0 0 0 0"},
		{api.Ins{Op: 0x18, Dst: 1, Src: 1, Imm: 7, Wide: 7}, "24 1 1 0 7 7"},
		{api.Ins{Op: 0x18, Dst: 1, Imm: -1, Wide: 1<<64 - 1}, "24 1 0 0 -1 18446744073709551615"},
		{api.Ins{Op: 0x18, Wide: 1 << 63}, "24 0 0 0 0 9223372036854775808"},
		{api.Ins{Op: 0x18, Imm: 5, Wide: 1 << 32}, "24 0 0 0 5 4294967296"},
		{api.Ins{Op: 0xb7, Wide: 5}, "183 0 0 0 0"},
		{api.Ins{Wide: 1<<64 - 1}, "0 0 0 0 0"},
		{api.Ins{Op: 0x118, Wide: 5}, "280 0 0 0 0"},
		{api.Ins{Op: -1, Dst: -2, Src: -3, Off: -4, Imm: -5}, "-1 -2 -3 -4 -5"},
		{api.Ins{Op: 256, Dst: 100, Src: 1000, Off: 1 << 15, Imm: 1 << 31}, "256 100 1000 32768 2147483648"},
		{
			api.Ins{Op: math.MaxInt, Dst: math.MinInt, Src: math.MinInt, Off: math.MinInt, Imm: math.MaxInt},
			"9223372036854775807 -9223372036854775808 -9223372036854775808 -9223372036854775808 9223372036854775807",
		},
	} {
		if got := code.Text(c.x); got != c.want {
			t.Errorf("Text(%v) = %q; want %q", c.x, got, c.want)
		}
	}
}
