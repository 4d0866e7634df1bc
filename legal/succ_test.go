package legal_test

import (
	"math"
	"slices"
	"testing"

	"clevis/api"
	"clevis/legal"
)

func TestSucc(t *testing.T) {
	set, exit, wide := api.Ins{Op: 0xb7, Imm: 5}, api.Ins{Op: 0x95}, api.Ins{Op: 0x18}
	for _, c := range []struct {
		l    []api.Ins
		want [][]int
	}{
		{[]api.Ins{exit}, [][]int{nil}},
		{[]api.Ins{set}, [][]int{{1}}},
		{[]api.Ins{set, exit}, [][]int{{1}, nil}},
		{[]api.Ins{{Op: 0x05}}, [][]int{{1}}},
		{[]api.Ins{{Op: 0x05, Off: -1}}, [][]int{{0}}},
		{[]api.Ins{{Op: 0x05, Off: -2}}, [][]int{{-1}}},
		{[]api.Ins{exit, exit, {Op: 0x05, Off: 7}}, [][]int{nil, nil, {10}}},
		{[]api.Ins{{Op: 0x15, Off: 5}}, [][]int{{1, 6}}},
		{[]api.Ins{{Op: 0x15}}, [][]int{{1, 1}}},
		{[]api.Ins{exit, {Op: 0x1e, Off: -2}}, [][]int{nil, {2, 0}}},
		{[]api.Ins{exit, {Op: 0xd6, Off: -1}}, [][]int{nil, {2, 1}}},
		{[]api.Ins{{Op: 0x85, Imm: 1, Off: 5}}, [][]int{{1}}},
		{[]api.Ins{{Op: 0x06, Off: 5}}, [][]int{{1}}},
		{[]api.Ins{{Op: 0x0d, Off: 5}}, [][]int{{1}}},
		{[]api.Ins{{Op: 0xe5, Off: 5}}, [][]int{{1}}},
		{[]api.Ins{{Op: 0x96}, {Op: 0x9d}}, [][]int{{1}, {2}}},
		{[]api.Ins{{Op: 0x79, Off: 5}}, [][]int{{1}}},
		{[]api.Ins{{Op: 0xb7, Off: 5}}, [][]int{{1}}},
		{[]api.Ins{{Off: 5}}, [][]int{{1}}},
		{[]api.Ins{{Op: 0x105, Off: 5}, {Op: 0x195, Off: 5}, {Op: 0x118, Off: 5}, {Op: 0x115, Off: 5}}, [][]int{{1}, {2}, {3}, {4}}},
		{[]api.Ins{{Op: 0x95, Dst: 99, Imm: 7}}, [][]int{nil}},
		{[]api.Ins{wide}, [][]int{{2}}},
		{[]api.Ins{wide, {}, exit}, [][]int{{2}, nil, nil}},
		{[]api.Ins{{Op: 0x18, Dst: 99, Off: 5}, set}, [][]int{{2}, nil}},
		{[]api.Ins{wide, wide, wide, wide, set}, [][]int{{2}, nil, {4}, nil, {5}}},
		{[]api.Ins{{}, {}}, [][]int{{1}, {2}}},
		{[]api.Ins{{Op: 0x05, Off: 1}, wide, {}}, [][]int{{2}, {3}, nil}}, // to a hole
		{[]api.Ins{{Op: 0x05, Off: 1 << 40}, {Op: 0x15, Off: math.MinInt}}, [][]int{{1<<40 + 1}, {2, math.MinInt + 2}}},
		{[]api.Ins{{Op: 0x05, Off: math.MaxInt}, {Op: 0x05, Off: math.MaxInt}}, [][]int{{math.MinInt}, {math.MinInt + 1}}},
		{[]api.Ins{{Op: 0x15, Off: math.MaxInt}, {Op: 0x16, Off: math.MaxInt - 1}}, [][]int{{1, math.MinInt}, {2, math.MinInt}}},
	} {
		before := slices.Clone(c.l)
		for i, want := range c.want {
			if got := legal.Succ(c.l, i); !slices.Equal(got, want) {
				t.Errorf("Succ(%v, %d) = %v; want %v", c.l, i, got, want)
			}
		}
		if !slices.Equal(c.l, before) {
			t.Errorf("Succ changed %v", before)
		}
	}
}

func TestSuccOfNoPlace(t *testing.T) {
	l := []api.Ins{{Op: 0xb7}, {Op: 0x05}, {Op: 0x15}, {Op: 0xb7}}
	for n := range 4 {
		for _, i := range []int{math.MinInt, -2, -1, n, n + 1, 4096, math.MaxInt} { // what lies behind the end is nobody's
			if got := legal.Succ(l[:n], i); len(got) != 0 {
				t.Errorf("Succ at %d of %d: %v", i, n, got)
			}
		}
	}
	if got := legal.Succ(nil, 0); len(got) != 0 {
		t.Errorf("Succ of nothing: %v", got)
	}
}

// TestSuccOfEachOp: what an op's other fields are does not matter.
func TestSuccOfEachOp(t *testing.T) {
	shapes := modelShapes()
	for _, op := range sweep() {
		l := []api.Ins{{Op: 0xb7}, {Op: op, Dst: 77, Src: -3, Off: 9, Imm: 1 << 40, Wide: 5}}
		if got, want := legal.Succ(l, 1), modelSucc(shapes, l, 1); !slices.Equal(got, want) {
			t.Errorf("Succ of op %#x: %v; want %v", op, got, want)
		}
	}
}

func TestSuccAnswersNewMemory(t *testing.T) {
	l := []api.Ins{{Op: 0x15, Off: 3}}
	one, other := legal.Succ(l, 0), legal.Succ(l, 0)
	one[0] = 99
	if !slices.Equal(other, []int{1, 4}) || !slices.Equal(legal.Succ(l, 0), []int{1, 4}) {
		t.Error("two answers share their numbers")
	}
}
