package flow_test

import (
	"math/rand/v2"
	"slices"
	"testing"

	"clevis/api"
	"clevis/flow"
	"clevis/interp"
	"clevis/legal"
	"clevis/mem"
)

// chance is a row of numbers that is the same one each time.
func chance() *rand.Rand { return rand.New(rand.NewPCG(14, 140)) }

// against asks a program's blocks of the model, and what follows of them (P14.4). It tells whether the program may be.
func against(t *testing.T, p []api.Ins) bool {
	t.Helper()
	if _, e := legal.Check(p); e != api.OK {
		refuses(t, p, e)
		return false
	}
	l, e := flow.Blocks(p)
	if want := modelBlocks(p); e != api.OK || !same(l, want) {
		t.Fatalf("Blocks(%v) = %v, %d; want %v", p, l, e, want)
	}
	reach := flow.Reach(p)
	if want := places(modelReach(p)); !slices.Equal(reach, want) {
		t.Fatalf("Reach(%v) = %v; want %v", p, reach, want)
	}
	follows(t, p, l, reach)
	return true
}

// follows asks whether each instruction is in just one block, and whether blocks lead to those that one comes to from them.
func follows(t *testing.T, p []api.Ins, l []api.Block, reach []int) {
	t.Helper()
	for i := -1; i <= len(p); i++ {
		in := slices.DeleteFunc(upTo(len(l)), func(b int) bool { return i < l[b].From || i >= l[b].To })
		want := -1
		if len(in) > 0 {
			want = in[0]
		}
		if len(in) > 1 || len(in) == 0 && slices.Contains(reach, i) || flow.Find(l, i) != want {
			t.Fatalf("%v: %d is in %v of %v; Find answers %d", p, i, in, l, flow.Find(l, i))
		}
	}
	for i, b := range l {
		for j, c := range l {
			if slices.Contains(b.Succ, j) != slices.Contains(c.Pred, i) {
				t.Fatalf("%v: block %d leads to %d, or not: %v", p, i, j, l)
			}
		}
	}
}

// TestAllShortPrograms asks of all programs of few slots and few kinds of instructions.
func TestAllShortPrograms(t *testing.T) {
	right := 0
	for n := 1; n <= 4; n++ {
		all := [][]api.Ins{nil}
		for at := range n {
			kinds := []api.Ins{mov(1), exit, wide(5)[0], {}}
			for to := range n {
				kinds = append(kinds, ja(to-at-1), jeq(to-at-1))
			}
			var longer [][]api.Ins
			for _, p := range all {
				for _, x := range kinds {
					longer = append(longer, append(slices.Clone(p), x))
				}
			}
			all = longer
		}
		for _, p := range all {
			if against(t, p) {
				right++
			}
		}
	}
	if right < 5000 {
		t.Errorf("%d programs that may be are too few", right)
	}
}

// someIns answers an instruction; a jump leads nowhere yet.
func someIns(r *rand.Rand) []api.Ins {
	d := r.IntN(6)
	switch r.IntN(9) {
	case 0:
		return wide(r.Uint64())
	case 1:
		return row(ja(0))
	case 2:
		if r.IntN(3) == 0 {
			return row(exit)
		}
		return row(call(1), mov(2), api.Ins{Op: 0xb7, Dst: 1}, api.Ins{Op: 0xb7, Dst: 3})
	case 3, 4, 5:
		conditions := []int{0x10, 0x20, 0x30, 0x40, 0x50, 0x60, 0x70, 0xa0, 0xb0, 0xc0, 0xd0}
		x := api.Ins{Op: conditions[r.IntN(11)] + []int{0x05, 0x06, 0x0d, 0x0e}[r.IntN(4)], Dst: d}
		if x.Op&8 != 0 {
			x.Src = r.IntN(4)
		} else {
			x.Imm = r.IntN(4)
		}
		return row(x)
	}
	return row(api.Ins{Op: []int{0x07, 0x17, 0x27, 0xb7, 0x04}[r.IntN(5)], Dst: d, Imm: r.IntN(4)})
}

// someProgram answers a program that may be; its jumps lead to any instruction, most of them not far off.
func someProgram(r *rand.Rand, length int) []api.Ins {
	var p []api.Ins
	for d := range 6 {
		p = append(p, api.Ins{Op: 0xb7, Dst: d, Imm: r.IntN(4)})
	}
	for len(p) < length {
		p = append(p, someIns(r)...)
	}
	p = append(p, exit)
	if r.IntN(3) == 0 {
		p[len(p)-1] = ja(0)
	}
	for i := range p {
		if !modelEnds(p[i]) {
			continue
		}
		to := r.IntN(len(p))
		if r.IntN(2) == 0 {
			to = min(len(p)-1, i+1+r.IntN(4))
		}
		if p[to] == (api.Ins{}) { // a hole
			to--
		}
		p[i].Off = to - i - 1
	}
	return p
}

func TestBlocksAgainstTheModel(t *testing.T) {
	r := chance()
	many, left := 0, 0
	for range 6000 {
		p := someProgram(r, 6+r.IntN(30))
		if !against(t, p) {
			t.Fatalf("%v may not be", p)
		}
		l, _ := flow.Blocks(p)
		if len(l) > 8 {
			many++
		}
		if l[len(l)-1].To < len(p) {
			left++
		}
	}
	if many < 500 || left < 500 {
		t.Errorf("%d programs of many blocks, %d with an end that nobody comes to: too few of one kind", many, left)
	}
	for range 10 {
		against(t, someProgram(r, 300))
	}
}

// TestRunsGoByBlocks: a run does a block's instructions one behind the other, and then those of one of its Succ.
func TestRunsGoByBlocks(t *testing.T) {
	r := chance()
	m, _ := mem.Fresh(api.Layout{})
	entered := 0
	for range 300 {
		p := someProgram(r, 6+r.IntN(30))
		l, _ := flow.Blocks(p)
		steps := interp.Steps(api.Layout{}, p, m, nil, 60)
		at := 0
		for fuel := 1; fuel < steps; fuel++ {
			end, _ := interp.Run(api.Layout{}, p, m, nil, fuel)
			from, to := flow.Find(l, at), flow.Find(l, end.At)
			switch {
			case from < 0 || to < 0:
				t.Fatalf("%v: from %d to %d, one of which is in no block of %v", p, at, end.At, l)
			case at != l[from].Last:
				if from != to || end.At <= at {
					t.Fatalf("%v: from %d to %d, out of a block of %v", p, at, end.At, l)
				}
			case end.At != l[to].From || !slices.Contains(l[from].Succ, to):
				t.Fatalf("%v: from %d to %d, which is no way of %v", p, at, end.At, l)
			default:
				entered++
			}
			at = end.At
		}
	}
	if entered < 1000 {
		t.Errorf("%d ways from block to block are too few", entered)
	}
}
