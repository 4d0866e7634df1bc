package bound_test

import (
	"math/rand"
	"testing"

	"clevis/api"
	"clevis/bound"
)

func TestJoinExamples(t *testing.T) {
	for _, c := range []struct{ a, b, want api.Bound }{
		{five, five, five},
		{all, five, all},
		{bound.Const(5), bound.Const(6), api.Bound{Umin: 5, Umax: 6, Smin: 5, Smax: 6, Bits: api.Tnum{Value: 4, Mask: 3}}},
		{bound.Const(full), bound.Const(0), api.Bound{Umax: full, Smin: -1, Smax: 0, Bits: api.Tnum{Mask: full}}},
		{bound.Const(most), bound.Const(highest), api.Bound{Umin: most, Umax: highest, Smin: least, Smax: most, Bits: api.Tnum{Mask: full}}},
		{five, below, api.Bound{Umin: 5, Umax: full - 4, Smin: -9, Smax: 9, Bits: api.Tnum{Mask: full}}},
		// It is not Tidied, and what may not be is taken by the same words.
		{api.Bound{Umax: 5, Smin: -3, Smax: 9, Bits: api.Tnum{Mask: full}}, bound.Const(1), api.Bound{Umax: 5, Smin: -3, Smax: 9, Bits: api.Tnum{Mask: full}}},
		{api.Bound{Umin: 9, Umax: 5, Smin: 8, Smax: 4}, api.Bound{Umin: 10, Umax: 6, Smin: 9, Smax: 5}, api.Bound{Umin: 9, Umax: 6, Smin: 8, Smax: 5}},
	} {
		for _, got := range []api.Bound{bound.Join(c.a, c.b), bound.Join(c.b, c.a)} {
			if got != c.want {
				t.Errorf("Join(%#x, %#x) = %#x; want %#x", c.a, c.b, got, c.want)
			}
		}
	}
}

func TestMeetExamples(t *testing.T) {
	every := api.Tnum{Mask: full}
	for _, c := range []struct {
		a, b, want api.Bound
		ok         bool
	}{
		{five, five, five, true},
		{all, five, five, true},
		{all, all, all, true},
		{five, below, api.Bound{}, false},
		{bound.Const(5), bound.Const(6), api.Bound{}, false},
		{five, bound.Const(7), bound.Const(7), true},
		{five, bound.Const(4), api.Bound{}, false},
		{api.Bound{Umax: 5, Smin: least, Smax: most, Bits: every}, api.Bound{Umin: 3, Umax: full, Smin: least, Smax: most, Bits: every},
			api.Bound{Umin: 3, Umax: 5, Smin: 3, Smax: 5, Bits: api.Tnum{Mask: 7}}, true},
		{api.Bound{Umax: full, Smin: -3, Smax: most, Bits: every}, api.Bound{Umax: full, Smin: least, Smax: -2, Bits: every},
			api.Bound{Umin: full - 2, Umax: full - 1, Smin: -3, Smax: -2, Bits: api.Tnum{Value: full - 3, Mask: 3}}, true},
		{api.Bound{Umax: 3, Smin: least, Smax: most, Bits: every}, api.Bound{Umin: 4, Umax: full, Smin: least, Smax: most, Bits: every}, api.Bound{}, false},
		{api.Bound{Umax: full, Smin: least, Smax: 3, Bits: every}, api.Bound{Umax: full, Smin: 4, Smax: most, Bits: every}, api.Bound{}, false},
		{with(all, func(b *api.Bound) { b.Bits = api.Tnum{Value: 1, Mask: full - 1} }), with(all, func(b *api.Bound) { b.Bits = api.Tnum{Mask: full - 1} }), api.Bound{}, false},
		{with(all, func(b *api.Bound) { b.Bits = api.Tnum{Value: 1, Mask: full - 1} }), bound.Size(1), api.Bound{Umin: 1, Umax: 255, Smin: 1, Smax: 255, Bits: api.Tnum{Value: 1, Mask: 254}}, true},
	} {
		for _, of := range [][2]api.Bound{{c.a, c.b}, {c.b, c.a}} {
			if got, ok := bound.Meet(of[0], of[1]); got != c.want || ok != c.ok {
				t.Errorf("Meet(%#x, %#x) = %#x, %v; want %#x, %v", of[0], of[1], got, ok, c.want, c.ok)
			}
		}
	}
}

func TestLowExamples(t *testing.T) {
	four := bound.Size(4)
	untidy := api.Bound{Umin: 9, Umax: 1<<32 - 1, Smin: -3, Smax: 2, Bits: api.Tnum{Value: 1, Mask: full}}
	for _, c := range []struct{ b, want api.Bound }{
		{all, four},
		{four, four},
		{five, five},
		{below, api.Bound{Umin: 1<<32 - 16, Umax: 1<<32 - 1, Smin: 1<<32 - 16, Smax: 1<<32 - 1, Bits: api.Tnum{Value: 1<<32 - 16, Mask: 15}}},
		{untidy, untidy}, // as it is, whatever else it says
		{with(untidy, func(b *api.Bound) { b.Umax = 1 << 32; b.Bits.Value = 0 }), four},
		{bound.Const(1 << 32), bound.Const(0)},
		{bound.Const(1<<32 + 7), bound.Const(7)},
		{bound.Const(full), bound.Const(1<<32 - 1)},
		{with(all, func(b *api.Bound) { b.Umax = 1 << 32 }), four},
		{with(all, func(b *api.Bound) { b.Bits.Mask = full - 7 }), api.Bound{Umax: 1<<32 - 8, Smax: 1<<32 - 8, Bits: api.Tnum{Mask: 1<<32 - 8}}},
		{with(all, func(b *api.Bound) { b.Bits = api.Tnum{Value: highest + 4, Mask: 3} }), api.Bound{Umin: 4, Umax: 7, Smin: 4, Smax: 7, Bits: api.Tnum{Value: 4, Mask: 3}}},
	} {
		if got := bound.Low(c.b); got != c.want {
			t.Errorf("Low(%#x) = %#x; want %#x", c.b, got, c.want)
		}
	}
}

func TestBothAgainstTheModel(t *testing.T) {
	chance := rand.New(rand.NewSource(5))
	l, _ := right(chance, 2000)
	l = append(l, anything(chance, 1000)...)
	for _, a := range l {
		if got, want := bound.Low(a), modelLow(a); got != want {
			t.Fatalf("Low(%#x) = %#x; want %#x", a, got, want)
		}
		for range 10 {
			b := l[chance.Intn(len(l))]
			if got, want := bound.Join(a, b), modelJoin(a, b); got != want {
				t.Fatalf("Join(%#x, %#x) = %#x; want %#x", a, b, got, want)
			}
			got, ok := bound.Meet(a, b)
			if want, fits := modelMeet(a, b); got != want || ok != fits {
				t.Fatalf("Meet(%#x, %#x) = %#x, %v; want %#x, %v", a, b, got, ok, want, fits)
			}
		}
	}
}

func TestWhatIsInIsInTheAnswer(t *testing.T) {
	chance := rand.New(rand.NewSource(6))
	for range 20000 {
		x, y := some(chance), some(chance)
		a, b, other := around(chance, x), around(chance, x), around(chance, y)
		if got, ok := bound.Meet(a, b); !ok || !bound.In(got, x) || !bound.Check(got) {
			t.Fatalf("Meet(%#x, %#x) = %#x, %v: it has not %#x", a, b, got, ok, x)
		}
		if got, ok := bound.Meet(a, other); ok && bound.In(got, y) != (bound.In(a, y)) {
			t.Fatalf("Meet(%#x, %#x) = %#x: is %#x in?", a, other, got, y)
		}
		if got := bound.Join(a, other); !bound.In(got, x) || !bound.In(got, y) || !bound.Check(got) {
			t.Fatalf("Join(%#x, %#x) = %#x: it has not %#x and %#x", a, other, got, x, y)
		}
		if got := bound.Low(a); !bound.In(got, x%(1<<32)) || !bound.Check(got) || got.Umax > 1<<32-1 {
			t.Fatalf("Low(%#x) = %#x: it has not %#x", a, got, x%(1<<32))
		}
	}
}

// TestBothOfAllNearAnEdge asks for all numbers near 0 and near 2^63.
func TestBothOfAllNearAnEdge(t *testing.T) {
	for _, near := range []uint64{0, highest} {
		numbers := row(near)
		var l []api.Bound
		for i, x := range numbers {
			l = append(l, bound.Const(x), bound.Join(bound.Const(x), bound.Const(numbers[(i+3)%8])))
		}
		for _, a := range l {
			for _, b := range l {
				met, ok := bound.Meet(a, b)
				joined := bound.Join(a, b)
				for _, x := range numbers {
					if bound.In(a, x) && bound.In(b, x) != (ok && bound.In(met, x)) {
						t.Fatalf("Meet(%#x, %#x) = %#x, %v: where is %#x?", a, b, met, ok, x)
					}
					if (bound.In(a, x) || bound.In(b, x)) && !bound.In(joined, x) {
						t.Fatalf("Join(%#x, %#x) = %#x: where is %#x?", a, b, joined, x)
					}
				}
			}
		}
	}
}
