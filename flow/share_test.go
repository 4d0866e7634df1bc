package flow_test

import (
	"slices"
	"sync"
	"testing"

	"clevis/api"
	"clevis/flow"
)

// branchy has blocks with two Succ, with two Pred, and with the same ones as others.
var branchy = row(jeq(3), jeq(2), jeq(-2), mov(1), jeq(-3), wide(5), exit)

// lists answers all lists of numbers in blocks.
func lists(l []api.Block) [][]int {
	var all [][]int
	for _, b := range l {
		all = append(all, b.Succ, b.Pred)
	}
	return all
}

// TestListsShareNothing: to write on one, behind its end too, changes no other, of the same answer or another.
func TestListsShareNothing(t *testing.T) {
	one, _ := flow.Blocks(branchy)
	other, _ := flow.Blocks(branchy)
	want := copied(one)
	for at, l := range lists(one) {
		l = l[:cap(l)]
		for i := range l {
			l[i] = 1000 + at
		}
	}
	for at, l := range lists(one) {
		for _, n := range l {
			if n != 1000+at {
				t.Fatalf("two lists share their numbers: %v", one)
			}
		}
	}
	for i := range one {
		one[i] = api.Block{From: 77}
	}
	again, _ := flow.Blocks(branchy)
	if !same(other, want) || !same(again, want) {
		t.Error("two answers share their blocks")
	}
}

func TestReachIsNewMemory(t *testing.T) {
	one, other := flow.Reach(branchy), flow.Reach(branchy)
	want := slices.Clone(one)
	for i := range one {
		one[i] = 99
	}
	if !slices.Equal(other, want) || !slices.Equal(flow.Reach(branchy), want) {
		t.Error("two answers share their numbers")
	}
}

func TestNothingIsChanged(t *testing.T) {
	for _, p := range [][]api.Ins{branchy, row(exit), row(wide(5), exit), row(mov(0)), row(jeq(9)), nil} {
		behind := append(slices.Clone(p), mov(7), exit) // what lies behind the end is nobody's
		flow.Blocks(behind[:len(p)])
		flow.Reach(behind[:len(p)])
		if !slices.Equal(behind, append(slices.Clone(p), mov(7), exit)) {
			t.Errorf("%v was changed", p)
		}
	}
}

// TestNothingIsKept: an answer hangs on no other program, and calls may be done at the same time.
func TestNothingIsKept(t *testing.T) {
	want, _ := flow.Blocks(branchy)
	var all sync.WaitGroup
	for i := range 32 {
		all.Go(func() {
			switch i % 4 {
			case 0:
				refuses(t, row(mov(0)), api.ErrForm)
			case 1:
				asks(t, row(ja(-1)), []api.Block{{To: 1, Succ: []int{0}, Pred: []int{0}}}, upTo(1))
			default:
				if got, e := flow.Blocks(branchy); e != api.OK || !same(got, want) {
					t.Errorf("Blocks(%v) = %v, %d; want %v", branchy, got, e, want)
				}
			}
		})
	}
	all.Wait()
}

// TestAnswersHangOnNoOrder: leaders stand in a map, which is gone through in any order.
func TestAnswersHangOnNoOrder(t *testing.T) {
	r := chance()
	p := someProgram(r, 200)
	want, _ := flow.Blocks(p)
	for range 50 {
		if got, _ := flow.Blocks(slices.Clone(p)); !same(got, want) {
			t.Fatalf("Blocks(%v) = %v, then %v", p, want, got)
		}
	}
}
