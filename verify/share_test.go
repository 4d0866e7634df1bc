package verify_test

import (
	"slices"
	"sync"
	"testing"

	"clevis/api"
	"clevis/verify"
)

var reader = row(byteAt(0, 1, 3), putByte(10, -1, 0), exit)

func TestAnswersAreNewMemory(t *testing.T) {
	one, other := verify.Verify(sample, reader, 9), verify.Verify(sample, reader, 9)
	want := slices.Clone(other.Facts)
	for i := range one.Facts {
		one.Facts[i] = seen(9, 9, 9)
	}
	if !slices.Equal(other.Facts, want) || !same(verify.Verify(sample, reader, 9), other) {
		t.Error("two answers share their facts")
	}
}

func TestNothingIsChanged(t *testing.T) {
	for _, p := range [][]api.Ins{reader, row(ja(-1)), row(exit), row(mov(0, 0), add(0, 1), ja(-2)), nil} {
		l := api.Layout{Context: api.Area{Size: 8}, Maps: []api.Area{{Size: 5, Write: true}}}
		behind := append(slices.Clone(p), mov(7, 7), mov(8, 8)) // what lies behind the end is nobody's
		verify.Verify(l, behind[:len(p)], 20)
		if !slices.Equal(behind, append(slices.Clone(p), mov(7, 7), mov(8, 8))) {
			t.Errorf("%v was changed", p)
		}
		if l.Context != (api.Area{Size: 8}) || !slices.Equal(l.Maps, []api.Area{{Size: 5, Write: true}}) {
			t.Errorf("the layout was changed: %v", l)
		}
	}
}

// TestNothingIsKept: calls know nothing of one another, at the same time neither.
func TestNothingIsKept(t *testing.T) {
	want := verify.Verify(sample, reader, 9)
	var all sync.WaitGroup
	for i := range 32 {
		all.Go(func() {
			switch i % 4 {
			case 0:
				refuses(t, row(mov(0, 0), add(0, 1), ja(-2)), 300, api.ErrVisits, 2, 300)
			case 1:
				refuses(t, row(ja(-1)), 300, api.ErrLoop, 0, 1)
			default:
				if got := verify.Verify(sample, reader, 9); !same(got, want) {
					t.Errorf("Verify(%v) = %v; want %v", reader, got, want)
				}
			}
		})
	}
	all.Wait()
}
