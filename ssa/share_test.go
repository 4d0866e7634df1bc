package ssa_test

import (
	"reflect"
	"slices"
	"sync"
	"testing"

	"clevis/api"
	"clevis/ssa"
)

// busy has phis with several From, calls with several arguments, and parts with several Pred.
var busy = row(mov(0, 0), mov(3, 5), wide(6, 7), jeq(3, 2, 3), mov(1, 1), mov(2, 2), call(5), add(0, 1), add(6, -1), mov(3, 3),
	jeq(6, 0, 1), ja(-9), mov(1, 0), mov(2, 1), call(4), jeq(0, 1, -17), exit)

// lists answers all lists of numbers in code.
func lists(f api.Ir) [][]int {
	var all [][]int
	for _, p := range f.Parts {
		all = append(all, p.Pred)
		for _, x := range p.Phis {
			all = append(all, x.From)
		}
		for _, n := range p.Nodes {
			all = append(all, n.Args)
		}
	}
	return all
}

// TestListsShareNothing: to write on one, behind its end too, changes no other, of the same answer or another.
func TestListsShareNothing(t *testing.T) {
	one, other := build(t, busy), build(t, busy)
	want := build(t, slices.Clone(busy))
	rows := 0
	for at, l := range lists(one) {
		if len(l) > 1 {
			rows++
		}
		l = l[:cap(l)]
		for i := range l {
			l[i] = 1000 + at
		}
	}
	for at, l := range lists(one) {
		for _, n := range l {
			if n != 1000+at {
				t.Fatalf("two lists share their numbers: %v", one)
			}
		}
	}
	for i := range one.Parts {
		p := &one.Parts[i]
		clear(p.Phis[:cap(p.Phis)])
		clear(p.Nodes[:cap(p.Nodes)])
	}
	clear(one.Parts)
	if !reflect.DeepEqual(other, want) || !reflect.DeepEqual(build(t, busy), want) || rows < 6 {
		t.Errorf("two answers share something, or nothing was there to be shared: %d", rows)
	}
}

// TestPhisAndNodesShareNothing: nor do parts.
func TestPhisAndNodesShareNothing(t *testing.T) {
	f := build(t, busy)
	for i := range f.Parts {
		g := build(t, busy)
		p := &g.Parts[i]
		clear(p.Phis[:cap(p.Phis)])
		clear(p.Nodes[:cap(p.Nodes)])
		for j := range g.Parts {
			if j != i && !reflect.DeepEqual(g.Parts[j], f.Parts[j]) {
				t.Errorf("parts %d and %d share something", i, j)
			}
		}
	}
}

// TestNothingIsChanged: nor is what lies behind the end, and it is not asked.
func TestNothingIsChanged(t *testing.T) {
	for _, p := range [][]api.Ins{busy, row(exit), row(wide(5, 1), exit), row(mov(0, 5)), row(ja(9)), ladder(), nil} {
		want, e := ssa.Build(p)
		behind := append(slices.Clone(p), exit, mov(0, 7))
		got, code := ssa.Build(behind[:len(p)])
		if !slices.Equal(behind, append(slices.Clone(p), exit, mov(0, 7))) {
			t.Errorf("%v was changed", p)
		}
		if code != e || !reflect.DeepEqual(got, want) {
			t.Errorf("of %v what lies behind the end is asked", p)
		}
	}
}

// TestTheSameAgain: values stand in a map, which is gone through in any order; the same program has the same code all the same.
func TestTheSameAgain(t *testing.T) {
	r := chance()
	for range 20 {
		p := someMaze(r, counted(r, 1), 0, 200, 1)
		want := build(t, p)
		for range 20 {
			if got := build(t, slices.Clone(p)); !reflect.DeepEqual(got, want) {
				t.Fatalf("Build(%v) = %v, then %v", p, want, got)
			}
		}
	}
}

// TestNothingIsKept: an answer hangs on no other program, and calls may be done at the same time.
func TestNothingIsKept(t *testing.T) {
	want := build(t, busy)
	var all sync.WaitGroup
	for i := range 32 {
		all.Go(func() {
			switch i % 4 {
			case 0:
				if f, e := ssa.Build(row(mov(0, 5))); e != api.ErrForm || !reflect.DeepEqual(f, api.Ir{}) {
					t.Errorf("%v, %d", f, e)
				}
			case 1:
				if _, e := ssa.Build(row(ja(-1))); e != api.OK {
					t.Error(e)
				}
			default:
				if f, e := ssa.Build(busy); e != api.OK || !reflect.DeepEqual(f, want) {
					t.Errorf("Build(%v) = %v, %d; want %v", busy, f, e, want)
				}
			}
		})
	}
	all.Wait()
}

// TestJunk: Build answers, whatever it is handed.
func TestJunk(t *testing.T) {
	r := chance()
	numbers := []int{0, 0, 0, 1, 2, 5, 10, 11, -1, 1 << 15, 1<<63 - 1, -1 << 63}
	right := 0
	for range 200000 {
		var p []api.Ins
		for range 1 + r.IntN(3) {
			x := api.Ins{Op: r.IntN(0x100), Dst: some(r, numbers), Src: some(r, numbers), Off: some(r, numbers), Imm: some(r, numbers)}
			if r.IntN(20) == 0 {
				x.Wide = r.Uint64()
			}
			p = append(p, some(r, []api.Ins{x, exit, mov(0, 1), ja(-1), {Op: x.Op}, {}}))
		}
		f, e := ssa.Build(p)
		if e == api.OK {
			right++
			build(t, p)
		} else if !reflect.DeepEqual(f, api.Ir{}) {
			t.Fatalf("Build(%v) = %v, %d", p, f, e)
		}
	}
	if right < 10000 {
		t.Errorf("only %d may be", right)
	}
}
