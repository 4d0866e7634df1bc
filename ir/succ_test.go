package ir_test

import (
	"math"
	"slices"
	"testing"

	"clevis/api"
	"clevis/ir"
)

func TestSucc(t *testing.T) {
	for _, c := range []struct {
		f    api.Ir
		want [][]int
	}{
		{api.Ir{}, nil},
		{code(7), nil},
		{one(0, back(0)), [][]int{{}}},
		{looped(), [][]int{{1}, {2, 3}, {1}, {}}},
		{code(0, part(nil, on(0))), [][]int{{0}}},
		{code(0, part(nil, when(api.Jeq, 0, 0, 2, 1)), part(nil, on(1)), part(nil, back(0))), [][]int{{2, 1}, {1}, {}}},
		// of code that may not be, too: numbers stand as they are
		{code(0, part(nil, on(-1))), [][]int{{-1}}},
		{code(0, part(nil, on(math.MaxInt))), [][]int{{math.MaxInt}}},
		{code(0, part(nil, when(0, 0, 0, 5, 5))), [][]int{{5, 5}}},
		{code(-1, part([]int{9}, when(0, 0, 0, math.MinInt, 0))), [][]int{{math.MinInt, 0}}},
		// what an End has not is not asked
		{code(0, part(nil, api.Term{Op: api.TermGo, To: 1, Else: 2})), [][]int{{1}}},
		{code(0, part(nil, api.Term{Op: api.TermReturn, To: 1, Else: 2})), [][]int{{}}},
		{code(0, part(nil, api.Term{To: 1, Else: 2})), [][]int{{}}},
		{code(0, part(nil, api.Term{Op: 4, To: 1, Else: 2}), part(nil, api.Term{Op: -1, To: 1, Else: 2})), [][]int{{}, {}}},
	} {
		if got := ir.Succ(c.f); !slices.EqualFunc(got, c.want, slices.Equal) {
			t.Errorf("Succ(%v) = %v; want %v", c.f, got, c.want)
		}
	}
}

func TestUses(t *testing.T) {
	all := api.Node{Id: 9, Alu: 8, Wide: true, A: 1, B: 2, Imm: 3, Size: 4, Off: 5, Guard: true, Args: []int{6, 7, 6, 8}, At: 10}
	for op, want := range map[api.NodeOp][]int{
		0:               {},
		api.NodeNum:     {},
		api.NodeContext: {},
		api.NodeFrame:   {},
		api.NodeAlu:     {1, 2},
		api.NodeLoad:    {1},
		api.NodeStore:   {1, 2},
		api.NodeCall:    {6, 7, 6, 8},
		8:               {},
		-1:              {},
		math.MaxInt:     {},
	} {
		all.Op = op
		if got := ir.Uses(all); !slices.Equal(got, want) {
			t.Errorf("Uses of node %d: %v; want %v", op, got, want)
		}
	}
	for _, c := range []struct {
		n    api.Node
		want []int
	}{
		{api.Node{}, nil},
		{alu(5, api.Add, 3, 3), []int{3, 3}},
		{alu(5, api.Neg, 4, 2), []int{4, 2}},
		{alu(5, api.Mov, 4, 2), []int{4, 2}},
		{alu(-7, 1, -1, math.MinInt), []int{-1, math.MinInt}},
		{store(3, 6, 0, 6), []int{6, 6}},
		{load(6, 1, 6, 0), []int{6}},
		{call(1, 1), nil},
		{call(1, 5, 2, 2, 2), []int{2, 2, 2}},
		{call(1, 99, -3), []int{-3}},
	} {
		if got := ir.Uses(c.n); !slices.Equal(got, c.want) {
			t.Errorf("Uses(%v) = %v; want %v", c.n, got, c.want)
		}
	}
}
