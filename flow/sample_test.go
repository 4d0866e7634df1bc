package flow_test

import (
	"slices"
	"testing"

	"clevis/api"
	"clevis/flow"
)

var exit = api.Ins{Op: 0x95}

func mov(imm int) api.Ins  { return api.Ins{Op: 0xb7, Imm: imm} }
func ja(off int) api.Ins   { return api.Ins{Op: 0x05, Off: off} }
func jeq(off int) api.Ins  { return api.Ins{Op: 0x15, Off: off} }
func call(imm int) api.Ins { return api.Ins{Op: 0x85, Imm: imm} }

// wide answers both slots of a number.
func wide(x uint64) []api.Ins {
	return []api.Ins{{Op: 0x18, Imm: int(int32(x)), Wide: x}, {}}
}

// row answers a program of instructions and rows of such.
func row(parts ...any) []api.Ins {
	var p []api.Ins
	for _, x := range parts {
		switch x := x.(type) {
		case api.Ins:
			p = append(p, x)
		case []api.Ins:
			p = append(p, x...)
		}
	}
	return p
}

// movs answers a row of so many that go on with the next one.
func movs(n int) []api.Ins { return slices.Repeat([]api.Ins{mov(1)}, n) }

// upTo answers the numbers from 0 below n.
func upTo(n int) []int {
	var l []int
	for i := range n {
		l = append(l, i)
	}
	return l
}

// same tells whether two lists of blocks are; of lists that are empty one may be nil.
func same(a, b []api.Block) bool {
	return slices.EqualFunc(a, b, func(a, b api.Block) bool {
		return a.From == b.From && a.To == b.To && a.Last == b.Last && slices.Equal(a.Succ, b.Succ) && slices.Equal(a.Pred, b.Pred)
	})
}

// copied answers blocks that share nothing with those handed in.
func copied(l []api.Block) []api.Block {
	l = slices.Clone(l)
	for i := range l {
		l[i].Succ, l[i].Pred = slices.Clone(l[i].Succ), slices.Clone(l[i].Pred)
	}
	return l
}

// asks asks for a program's blocks, and for what one may come to.
func asks(t *testing.T, p []api.Ins, blocks []api.Block, reach []int) {
	t.Helper()
	if got, e := flow.Blocks(p); e != api.OK || !same(got, blocks) {
		t.Errorf("Blocks(%v) = %v, %d; want %v", p, got, e, blocks)
	}
	if got := flow.Reach(p); !slices.Equal(got, reach) {
		t.Errorf("Reach(%v) = %v; want %v", p, got, reach)
	}
}

// refuses asks for a program that may not be.
func refuses(t *testing.T, p []api.Ins, want api.Errno) {
	t.Helper()
	if got, e := flow.Blocks(p); e != want || len(got) != 0 {
		t.Errorf("Blocks of %d instructions that may not be: %v, %d; want %d", len(p), got, e, want)
	}
	if got := flow.Reach(p); len(got) != 0 {
		t.Errorf("Reach of %d instructions that may not be: %v", len(p), got)
	}
}
