package flow_test

import (
	"testing"

	"clevis/api"
	"clevis/flow"
)

func TestBlocks(t *testing.T) {
	for _, c := range []struct {
		p      []api.Ins
		blocks []api.Block
		reach  []int
	}{
		{ // the chapter's example
			row(mov(0), jeq(1), mov(1), exit),
			[]api.Block{{From: 0, To: 2, Last: 1, Succ: []int{1, 2}}, {From: 2, To: 3, Last: 2, Succ: []int{2}, Pred: []int{0}}, {From: 3, To: 4, Last: 3, Pred: []int{0, 1}}},
			upTo(4),
		},
		{row(exit), []api.Block{{To: 1}}, upTo(1)},
		{row(mov(0), call(1), mov(2), exit), []api.Block{{To: 4, Last: 3}}, upTo(4)}, // a call goes on with the next one
		{row(mov(0), exit, mov(1), exit), []api.Block{{To: 2, Last: 1}}, upTo(2)},
		{row(exit, exit), []api.Block{{To: 1}}, upTo(1)},
		{row(ja(-1)), []api.Block{{To: 1, Succ: []int{0}, Pred: []int{0}}}, upTo(1)},
		{row(mov(0), ja(-2)), []api.Block{{To: 2, Last: 1, Succ: []int{0}, Pred: []int{0}}}, upTo(2)},
		{ // of a jump back behind the first one that is a block of its own
			row(mov(0), mov(1), ja(-2)),
			[]api.Block{{To: 1, Succ: []int{1}}, {From: 1, To: 3, Last: 2, Succ: []int{1}, Pred: []int{0, 1}}},
			upTo(3),
		},
		{ // Ja ends a block, though it goes on with the next one
			row(mov(0), ja(0), mov(1), exit),
			[]api.Block{{To: 2, Last: 1, Succ: []int{1}}, {From: 2, To: 4, Last: 3, Pred: []int{0}}},
			upTo(4),
		},
		{ // a jump to the next one leads to one block, once
			row(jeq(0), exit),
			[]api.Block{{To: 1, Succ: []int{1}}, {From: 1, To: 2, Last: 1, Pred: []int{0}}},
			upTo(2),
		},
		{ // the next one stands first, also where the target lies ahead of it
			row(mov(0), jeq(-2), exit),
			[]api.Block{{To: 2, Last: 1, Succ: []int{1, 0}, Pred: []int{0}}, {From: 2, To: 3, Last: 2, Pred: []int{0}}},
			upTo(3),
		},
		{
			row(jeq(-1), exit),
			[]api.Block{{To: 1, Succ: []int{1, 0}, Pred: []int{0}}, {From: 1, To: 2, Last: 1, Pred: []int{0}}},
			upTo(2),
		},
		{ // what nobody comes to is left out, between blocks and behind them
			row(ja(2), mov(1), exit, mov(2), exit, mov(3), exit),
			[]api.Block{{To: 1, Succ: []int{1}}, {From: 3, To: 5, Last: 4, Pred: []int{0}}},
			[]int{0, 3, 4},
		},
		{ // a jump that nobody comes to makes no leader
			row(mov(0), mov(1), exit, jeq(-3), ja(-4), exit),
			[]api.Block{{To: 3, Last: 2}},
			upTo(3),
		},
		{ // nor one that nobody comes to, to one that is done
			row(ja(1), ja(1), mov(0), mov(1), exit),
			[]api.Block{{To: 1, Succ: []int{1}}, {From: 2, To: 5, Last: 4, Pred: []int{0}}},
			[]int{0, 2, 3, 4},
		},
		{ // both ways of a jump come to the same one
			row(jeq(2), mov(1), ja(1), mov(2), exit),
			[]api.Block{{To: 1, Succ: []int{1, 2}}, {From: 1, To: 3, Last: 2, Succ: []int{3}, Pred: []int{0}}, {From: 3, To: 4, Last: 3, Succ: []int{3}, Pred: []int{0}}, {From: 4, To: 5, Last: 4, Pred: []int{1, 2}}},
			upTo(5),
		},
		{ // blocks stand by From, not by when one comes to them
			row(ja(2), mov(1), exit, ja(-3)),
			[]api.Block{{To: 1, Succ: []int{2}}, {From: 1, To: 3, Last: 2, Pred: []int{2}}, {From: 3, To: 4, Last: 3, Succ: []int{1}, Pred: []int{0}}},
			upTo(4),
		},
		{ // a loop with two ways back
			row(mov(0), jeq(2), jeq(-2), ja(-4), exit),
			[]api.Block{
				{To: 1, Succ: []int{1}, Pred: []int{3}},
				{From: 1, To: 2, Last: 1, Succ: []int{2, 4}, Pred: []int{0, 2}},
				{From: 2, To: 3, Last: 2, Succ: []int{3, 1}, Pred: []int{1}},
				{From: 3, To: 4, Last: 3, Succ: []int{0}, Pred: []int{2}},
				{From: 4, To: 5, Last: 4, Pred: []int{1}},
			},
			upTo(5),
		},
	} {
		asks(t, c.p, c.blocks, c.reach)
	}
}

// TestBlocksWithWideOnes: a wide one has two places, of which one comes to the first alone.
func TestBlocksWithWideOnes(t *testing.T) {
	for _, c := range []struct {
		p      []api.Ins
		blocks []api.Block
		reach  []int
	}{
		{row(wide(5), exit), []api.Block{{To: 3, Last: 2}}, []int{0, 2}},
		{row(wide(0), wide(1<<63), mov(1), exit), []api.Block{{To: 6, Last: 5}}, []int{0, 2, 4, 5}},
		{ // the last one of a block
			row(wide(5), ja(-1)),
			[]api.Block{{To: 2, Succ: []int{1}}, {From: 2, To: 3, Last: 2, Succ: []int{1}, Pred: []int{0, 1}}},
			[]int{0, 2},
		},
		{
			row(mov(0), wide(5), mov(1), jeq(-2), exit),
			[]api.Block{{To: 3, Last: 1, Succ: []int{1}}, {From: 3, To: 5, Last: 4, Succ: []int{2, 1}, Pred: []int{0, 1}}, {From: 5, To: 6, Last: 5, Pred: []int{1}}},
			[]int{0, 1, 3, 4, 5},
		},
		{ // a block of its own
			row(jeq(0), wide(5), jeq(-3), exit),
			[]api.Block{{To: 1, Succ: []int{1}}, {From: 1, To: 4, Last: 3, Succ: []int{2, 1}, Pred: []int{0, 1}}, {From: 4, To: 5, Last: 4, Pred: []int{1}}},
			[]int{0, 1, 3, 4},
		},
		{
			row(jeq(2), wide(5), exit),
			[]api.Block{{To: 1, Succ: []int{1, 2}}, {From: 1, To: 3, Last: 1, Succ: []int{2}, Pred: []int{0}}, {From: 3, To: 4, Last: 3, Pred: []int{0, 1}}},
			[]int{0, 1, 3},
		},
		{ // nobody comes to it
			row(ja(2), wide(5), exit),
			[]api.Block{{To: 1, Succ: []int{1}}, {From: 3, To: 4, Last: 3, Pred: []int{0}}},
			[]int{0, 3},
		},
		{row(exit, wide(5), exit), []api.Block{{To: 1}}, []int{0}},
		{ // of a map
			row([]api.Ins{{Op: 0x18, Src: 1, Imm: 3, Wide: 3}, {}}, exit),
			[]api.Block{{To: 3, Last: 2}},
			[]int{0, 2},
		},
	} {
		asks(t, c.p, c.blocks, c.reach)
	}
}

// TestEachOp: jumps of all conditions end blocks, wide and not, and nothing else that goes on with the next one.
func TestEachOp(t *testing.T) {
	conditions := []int{0x10, 0x20, 0x30, 0x40, 0x50, 0x60, 0x70, 0xa0, 0xb0, 0xc0, 0xd0}
	jumps := map[int]bool{}
	for _, c := range conditions {
		for _, class := range []int{0x05, 0x0d, 0x06, 0x0e} {
			jumps[c+class] = true
		}
	}
	some := 0
	for op := range 256 {
		x := api.Ins{Op: op}
		switch op {
		case 0x05, 0x18, 0x95:
			continue
		case 0x85:
			x.Imm = 1
		}
		p := row(mov(0), x, exit, exit)
		if jumps[op] {
			p[1].Off = 1
			asks(t, p, []api.Block{{To: 2, Last: 1, Succ: []int{1, 2}}, {From: 2, To: 3, Last: 2, Pred: []int{0}}, {From: 3, To: 4, Last: 3, Pred: []int{0}}}, upTo(4))
		} else if _, e := flow.Blocks(p); e == api.OK {
			some++
			asks(t, p, []api.Block{{To: 3, Last: 2}}, upTo(3))
		}
	}
	if some != 4*12+2+12+1 { // operations of both kinds, Neg, loads and stores, a call
		t.Errorf("%d ops that go on with the next one", some)
	}
}

func TestBlocksOfWhatMayNotBe(t *testing.T) {
	for _, p := range [][]api.Ins{
		nil,
		{},
		row(mov(0)),                           // one would leave the list
		row(mov(0), exit, mov(1)),             // though nobody comes there
		row(ja(1), exit),                      // to no place
		row(ja(-2), exit),                     //
		row(jeq(1), exit),                     //
		row(jeq(1), wide(5), exit),            // to a hole
		row(exit, wide(5), ja(-2)),            //
		row(wide(5)[0]),                       // a wide one without a hole
		row(wide(5)[0], exit),                 //
		row(wide(5)),                          //
		row(mov(0), api.Ins{}, exit),          // a zero Ins that is no hole
		row(exit, api.Ins{Op: 0xb7, Dst: 10}), // the stack's end is set by nobody
		row(exit, api.Ins{Op: 0x06}),          // no instruction
		row(exit, api.Ins{Op: 0x105, Off: -2}),
		row(exit, api.Ins{Op: -1}),
		row(mov(0), exit)[:1], // what lies behind the end is nobody's
		row(wide(5), exit)[:1],
		row(wide(5), exit)[:2],
	} {
		refuses(t, p, api.ErrForm)
	}
	refuses(t, row(movs(4096), exit), api.ErrLong)
	refuses(t, movs(4097), api.ErrLong)
	refuses(t, make([]api.Ins, 100000), api.ErrLong)
	refuses(t, movs(4096), api.ErrForm)
}

// TestTheLongest: programs of as many slots as there may be.
func TestTheLongest(t *testing.T) {
	asks(t, row(movs(4095), exit), []api.Block{{To: 4096, Last: 4095}}, upTo(4096))
	asks(t, row(movs(4095), ja(-4096)), []api.Block{{To: 4096, Last: 4095, Succ: []int{0}, Pred: []int{0}}}, upTo(4096))
	var p []api.Ins
	var far, near []api.Block
	for i := range 4095 {
		p = append(p, jeq(4094-i))
		far = append(far, api.Block{From: i, To: i + 1, Last: i, Succ: []int{i + 1, 4095}, Pred: []int{i - 1}})
		near = append(near, api.Block{From: i, To: i + 1, Last: i, Succ: []int{i + 1}, Pred: []int{i - 1}})
	}
	far[0].Pred, near[0].Pred, far[4094].Succ = nil, nil, []int{4095}
	asks(t, row(p, exit), append(far, api.Block{From: 4095, To: 4096, Last: 4095, Pred: upTo(4095)}), upTo(4096))
	near = append(near, api.Block{From: 4095, To: 4096, Last: 4095, Pred: []int{4094}})
	for i := range p {
		p[i] = jeq(0)
	}
	asks(t, row(p, exit), near, upTo(4096))
	for i := range p {
		p[i] = ja(0)
	}
	asks(t, row(p, exit), near, upTo(4096))
}

// TestTheFarthest: jumps from one end of the longest program to the other, there and back.
func TestTheFarthest(t *testing.T) {
	asks(t, row(ja(4094), movs(4094), ja(-4095)), []api.Block{
		{To: 1, Succ: []int{2}},
		{From: 1, To: 4095, Last: 4094, Succ: []int{2}, Pred: []int{2}},
		{From: 4095, To: 4096, Last: 4095, Succ: []int{1}, Pred: []int{0, 1}},
	}, upTo(4096))
	asks(t, row(ja(4094), movs(4094), exit), []api.Block{
		{To: 1, Succ: []int{1}},
		{From: 4095, To: 4096, Last: 4095, Pred: []int{0}},
	}, []int{0, 4095})
}
