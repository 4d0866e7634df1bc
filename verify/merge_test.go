package verify_test

import (
	"math"
	"testing"

	"clevis/api"
	"clevis/verify"
)

func TestMerge(t *testing.T) {
	none, odd := api.Fact{}, api.Fact{Region: 3, Low: 7, High: -7} // not Seen, though it says something
	for _, c := range []struct{ a, b, want api.Fact }{
		{none, none, none},
		{none, seen(2, 4, 8), seen(2, 4, 8)},
		{seen(2, 4, 8), none, seen(2, 4, 8)},
		{odd, none, none},
		{none, odd, odd},
		{odd, seen(2, 4, 8), seen(2, 4, 8)},
		{seen(2, 4, 8), odd, seen(2, 4, 8)},
		{seen(2, 4, 8), seen(2, 4, 8), seen(2, 4, 8)},
		{seen(2, 4, 8), seen(2, 5, 7), seen(2, 4, 8)},
		{seen(2, 5, 7), seen(2, 4, 8), seen(2, 4, 8)},
		{seen(2, 4, 7), seen(2, 5, 8), seen(2, 4, 8)},
		{seen(2, 5, 8), seen(2, 4, 7), seen(2, 4, 8)},
		{seen(2, 0, 1), seen(2, 9, 9), seen(2, 0, 9)},
		{seen(2, 9, 9), seen(2, 0, 1), seen(2, 0, 9)},
		{seen(2, 4, 8), seen(3, 4, 8), seen(0, 4, 8)},
		{seen(3, 1, 2), seen(2, 5, 6), seen(0, 1, 6)},
		{seen(0, 1, 2), seen(2, 5, 6), seen(0, 1, 6)},
		{seen(2, 1, 2), seen(0, 5, 6), seen(0, 1, 6)},
		{seen(0, 1, 2), seen(0, 5, 6), seen(0, 1, 6)},
		{seen(0, 1, 2), none, seen(0, 1, 2)},
		{seen(-5, -9, -8), seen(-5, -4, 3), seen(-5, -9, 3)},
		{seen(77, 9, 1), seen(77, 5, 3), seen(77, 5, 3)}, // Low above High
		{seen(1, math.MinInt64, math.MaxInt64), seen(1, 0, 0), seen(1, math.MinInt64, math.MaxInt64)},
		{seen(1, math.MaxInt64, math.MinInt64), seen(1, 0, 0), seen(1, 0, 0)},
	} {
		if got := verify.Merge(c.a, c.b); got != c.want {
			t.Errorf("Merge(%v, %v) = %v; want %v", c.a, c.b, got, c.want)
		}
	}
}

// TestMergeOfAll asks with all facts of few numbers: against the model, and that the order of three does not matter where each is Seen.
func TestMergeOfAll(t *testing.T) {
	var all []api.Fact
	for _, s := range []bool{false, true} {
		for n := range 36 {
			all = append(all, api.Fact{Seen: s, Region: n % 4, Low: int64(n/4%3) - 1, High: int64(n/12) - 1})
		}
	}
	for _, a := range all {
		for _, b := range all {
			got := verify.Merge(a, b)
			if want := modelMerge(a, b); got != want {
				t.Errorf("Merge(%v, %v) = %v; want %v", a, b, got, want)
			}
			if a.Seen && b.Seen && got != verify.Merge(b, a) {
				t.Errorf("Merge of %v and %v hangs on which is first", a, b)
			}
		}
	}
}
