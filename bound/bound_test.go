package bound_test

import (
	"math/rand"
	"testing"

	"clevis/api"
	"clevis/bound"
	"clevis/tnum"
)

var all = api.Bound{Umax: full, Smin: least, Smax: most, Bits: api.Tnum{Mask: full}}

func TestAny(t *testing.T) {
	if got := bound.Any(); got != all || !bound.Check(got) {
		t.Errorf("Any() = %#x", got)
	}
	for _, x := range edges {
		if !bound.In(bound.Any(), x) {
			t.Errorf("Any has not %#x", x)
		}
	}
}

func TestConst(t *testing.T) {
	for _, x := range edges {
		c := bound.Const(x)
		want := api.Bound{Umin: x, Umax: x, Smin: int64(x), Smax: int64(x), Bits: api.Tnum{Value: x}}
		if c != want || !bound.Check(c) {
			t.Errorf("Const(%#x) = %#x", x, c)
		}
		if got, ok := bound.Value(c); got != x || !ok {
			t.Errorf("Value(Const(%#x)) = %#x, %v", x, got, ok)
		}
		for _, y := range edges {
			if bound.In(c, y) != (x == y) {
				t.Errorf("In(Const(%#x), %#x) = %v", x, y, x != y)
			}
		}
	}
}

func TestSize(t *testing.T) {
	for n, high := range map[int]uint64{1: 255, 2: 65535, 4: 1<<32 - 1} {
		want := api.Bound{Umax: high, Smax: int64(high), Bits: api.Tnum{Mask: high}}
		if got := bound.Size(n); got != want || !bound.Check(got) {
			t.Errorf("Size(%d) = %#x", n, got)
		}
		if !bound.In(bound.Size(n), high) || bound.In(bound.Size(n), high+1) || bound.In(bound.Size(n), full) {
			t.Errorf("Size(%d) does not end at %#x", n, high)
		}
	}
	for _, n := range []int{least, -8, -4, -1, 0, 3, 5, 6, 7, 8, 9, 16, 32, 64, 1<<32 + 1, 1<<32 + 4, most} {
		if got := bound.Size(n); got != all {
			t.Errorf("Size(%d) = %#x; it is no size of fewer bytes than all", n, got)
		}
	}
}

// five are the numbers from 5 to 9, both ways.
var five = api.Bound{Umin: 5, Umax: 9, Smin: 5, Smax: 9, Bits: api.Tnum{Mask: 15}}

// below are the numbers from -9 to -5, both ways.
var below = api.Bound{Umin: full - 8, Umax: full - 4, Smin: -9, Smax: -5, Bits: api.Tnum{Value: full - 15, Mask: 15}}

// with answers a bound with one part changed.
func with(b api.Bound, change func(b *api.Bound)) api.Bound {
	change(&b)
	return b
}

func TestCheckExamples(t *testing.T) {
	for _, c := range []struct {
		b    api.Bound
		want bool
	}{
		{api.Bound{}, true},
		{all, true},
		{five, true},
		{below, true},
		{with(five, func(b *api.Bound) { b.Umax = 5 }), true},
		{with(five, func(b *api.Bound) { b.Umax = 4 }), false},
		{with(five, func(b *api.Bound) { b.Smax = 5 }), true},
		{with(five, func(b *api.Bound) { b.Smax = 4 }), false},
		{with(five, func(b *api.Bound) { b.Smin = -1 }), true},
		{with(five, func(b *api.Bound) { b.Smin = 10 }), false},
		{with(five, func(b *api.Bound) { b.Umin = full }), false},
		{with(five, func(b *api.Bound) { b.Bits.Value = 8 }), false},
		{with(five, func(b *api.Bound) { b.Bits.Value = 16 }), true}, // empty, but it may be
		{api.Bound{Umax: full, Smin: most, Smax: least, Bits: api.Tnum{Mask: full}}, false},
	} {
		if got := bound.Check(c.b); got != c.want {
			t.Errorf("Check(%#x) = %v", c.b, got)
		}
	}
}

func TestInExamples(t *testing.T) {
	minus := uint64(full)
	for _, c := range []struct {
		b    api.Bound
		x    uint64
		want bool
	}{
		{five, 4, false},
		{five, 5, true},
		{five, 7, true},
		{five, 9, true},
		{five, 10, false},
		{five, minus, false},
		{below, minus - 9, false},
		{below, minus - 8, true},
		{below, minus - 4, true},
		{below, minus - 3, false},
		{below, 5, false},
		{with(five, func(b *api.Bound) { b.Bits.Mask = 14 }), 7, false},
		{with(five, func(b *api.Bound) { b.Bits.Mask = 14 }), 8, true},
		{with(five, func(b *api.Bound) { b.Smin = 6 }), 5, false},
		{with(five, func(b *api.Bound) { b.Smax = 8 }), 9, false},
		{with(five, func(b *api.Bound) { b.Umin = 6 }), 5, false},
		{with(five, func(b *api.Bound) { b.Umax = 8 }), 9, false},
		{with(five, func(b *api.Bound) { b.Umin, b.Umax = 9, 5 }), 7, false}, // nothing is in what may not be
		{with(five, func(b *api.Bound) { b.Smin, b.Smax = 9, 5 }), 7, false},
		{with(five, func(b *api.Bound) { b.Bits = api.Tnum{Value: 7, Mask: 7} }), 7, false},
		{with(all, func(b *api.Bound) { b.Umax = highest }), highest, true},
		{with(all, func(b *api.Bound) { b.Umax = most }), highest, false},
		{with(all, func(b *api.Bound) { b.Smin = least + 1 }), highest, false},
		{with(all, func(b *api.Bound) { b.Smin = -1 }), minus, true},
		{with(all, func(b *api.Bound) { b.Smin = 0 }), minus, false},
		{with(all, func(b *api.Bound) { b.Smax = -1 }), 0, false},
	} {
		if got := bound.In(c.b, c.x); got != c.want {
			t.Errorf("In(%#x, %#x) = %v", c.b, c.x, got)
		}
	}
}

func TestWithinExamples(t *testing.T) {
	crossed := with(five, func(b *api.Bound) { b.Umin, b.Umax = 9, 5 })
	for _, c := range []struct {
		a, b api.Bound
		want bool
	}{
		{all, all, true},
		{all, five, true},
		{five, all, false},
		{five, five, true},
		{five, below, false},
		{five, bound.Const(5), true},
		{five, bound.Const(9), true},
		{five, bound.Const(4), false},
		{five, bound.Const(10), false},
		{five, with(five, func(b *api.Bound) { b.Umin = 4 }), false},
		{five, with(five, func(b *api.Bound) { b.Umax = 10 }), false},
		{five, with(five, func(b *api.Bound) { b.Smin = 4 }), false},
		{five, with(five, func(b *api.Bound) { b.Smin = -5 }), false},
		{five, with(five, func(b *api.Bound) { b.Smax = 10 }), false},
		{five, with(five, func(b *api.Bound) { b.Bits.Mask = 31 }), false},
		{five, with(five, func(b *api.Bound) { b.Bits.Mask = 7 }), true},
		{below, bound.Const(full - 4), true},
		{below, bound.Const(full), false},
		{five, crossed, true}, // both its ends are there
		{crossed, bound.Const(7), false},
		{crossed, crossed, false},
		{five, with(five, func(b *api.Bound) { b.Umin = 10 }), false},
		{five, with(five, func(b *api.Bound) { b.Umax = 4 }), false},
		{five, with(five, func(b *api.Bound) { b.Smin = 10 }), false},
		{five, with(five, func(b *api.Bound) { b.Smax = 4 }), false},
	} {
		if got := bound.Within(c.a, c.b); got != c.want {
			t.Errorf("Within(%#x, %#x) = %v", c.a, c.b, got)
		}
	}
}

func TestValueExamples(t *testing.T) {
	for _, c := range []struct {
		b    api.Bound
		want uint64
		ok   bool
	}{
		{api.Bound{}, 0, true},
		{all, 0, false},
		{five, 0, false},
		{with(five, func(b *api.Bound) { b.Umax = 5 }), 5, true}, // Umin and Umax alone are asked
		{with(five, func(b *api.Bound) { b.Smax = 5 }), 0, false},
		{with(five, func(b *api.Bound) { b.Bits = tnum.Const(5) }), 0, false},
		{api.Bound{Umin: full, Umax: full}, full, true},
		{api.Bound{Umin: 6, Umax: 5}, 0, false},
		{api.Bound{Umin: full}, 0, false},
	} {
		if got, ok := bound.Value(c.b); got != c.want || ok != c.ok {
			t.Errorf("Value(%#x) = %#x, %v", c.b, got, ok)
		}
	}
}

func TestAskedAgainstTheModel(t *testing.T) {
	chance := rand.New(rand.NewSource(1))
	l, in := right(chance, 1500)
	l = append(l, anything(chance, 500)...)
	for _, b := range l {
		if got, want := bound.Check(b), modelCheck(b); got != want {
			t.Fatalf("Check(%#x) = %v", b, got)
		}
		if got, ok := bound.Value(b); ok != (b.Umin == b.Umax) || ok && got != b.Umin || !ok && got != 0 {
			t.Fatalf("Value(%#x) = %#x, %v", b, got, ok)
		}
		for range 20 {
			x, a := in[chance.Intn(len(in))], l[chance.Intn(len(l))]
			if got, want := bound.In(b, x), modelIn(b, x); got != want {
				t.Fatalf("In(%#x, %#x) = %v", b, x, got)
			}
			if got, want := bound.Within(a, b), modelWithin(a, b); got != want {
				t.Fatalf("Within(%#x, %#x) = %v", a, b, got)
			}
		}
	}
}

// TestWhatIsWithinIsIn holds Within to what it is for.
func TestWhatIsWithinIsIn(t *testing.T) {
	chance := rand.New(rand.NewSource(2))
	l, in := right(chance, 1000)
	for i, b := range l {
		if !bound.In(b, in[i]) || !bound.Within(b, b) || !bound.Within(bound.Any(), b) || !bound.Within(b, bound.Const(in[i])) {
			t.Fatalf("%#x: it has not itself, or not %#x", b, in[i])
		}
		for _, a := range l {
			if bound.Within(a, b) && !bound.In(a, in[i]) {
				t.Fatalf("Within(%#x, %#x), but %#x is not in", a, b, in[i])
			}
		}
	}
}
