package bound_test

import (
	"math/rand"
	"testing"

	"clevis/api"
	"clevis/bound"
)

func TestTidyExamples(t *testing.T) {
	every := api.Tnum{Mask: full}
	positive := api.Tnum{Mask: most}
	for _, c := range []struct {
		name    string
		b, want api.Bound
	}{
		{"the chapter's example", api.Bound{Umax: 5, Smin: -3, Smax: 9, Bits: every}, api.Bound{Umax: 5, Smax: 5, Bits: api.Tnum{Mask: 7}}},
		{"nothing known", all, all},
		{"a number", bound.Const(highest), bound.Const(highest)},
		{"what is tidy", five, five},
		{"what is tidy, below 0", below, below},
		{"signs tell that it is from 0 on", with(all, func(b *api.Bound) { b.Smin = 0 }), api.Bound{Umax: most, Smax: most, Bits: positive}},
		{"they do not tell", with(all, func(b *api.Bound) { b.Smin = -1 }), with(all, func(b *api.Bound) { b.Smin = -1 })},
		{"signs tell that it is below 0", with(all, func(b *api.Bound) { b.Smax = -1 }),
			api.Bound{Umin: highest, Umax: full, Smin: least, Smax: -1, Bits: api.Tnum{Value: highest, Mask: most}}},
		{"signs tell more than what is without", api.Bound{Umax: 100, Smin: 3, Smax: 6, Bits: every}, api.Bound{Umin: 3, Umax: 6, Smin: 3, Smax: 6, Bits: api.Tnum{Mask: 7}}},
		{"and less", api.Bound{Umin: 3, Umax: 6, Smax: 100, Bits: every}, api.Bound{Umin: 3, Umax: 6, Smin: 3, Smax: 6, Bits: api.Tnum{Mask: 7}}},
		{"each one end", api.Bound{Umin: 3, Umax: 100, Smax: 6, Bits: every}, api.Bound{Umin: 3, Umax: 6, Smin: 3, Smax: 6, Bits: api.Tnum{Mask: 7}}},
		{"below 0, each one end", api.Bound{Umin: full - 8, Umax: full, Smin: least, Smax: -5, Bits: every}, below},
		{"below 0, the other ends", api.Bound{Umin: highest, Umax: full - 4, Smin: -9, Smax: -1, Bits: every}, below},
		{"Umax is from 0 on", with(all, func(b *api.Bound) { b.Umax = most }), api.Bound{Umax: most, Smax: most, Bits: positive}},
		{"Umax is below 0", with(all, func(b *api.Bound) { b.Umax = highest }), with(all, func(b *api.Bound) { b.Umax = highest })},
		{"Umax is from 0 on, Smax less", api.Bound{Umin: 2, Umax: 20, Smin: -3, Smax: 9, Bits: every}, api.Bound{Umin: 2, Umax: 9, Smin: 2, Smax: 9, Bits: api.Tnum{Mask: 15}}},
		{"Umin is below 0", with(all, func(b *api.Bound) { b.Umin = highest }),
			api.Bound{Umin: highest, Umax: full, Smin: least, Smax: -1, Bits: api.Tnum{Value: highest, Mask: most}}},
		{"Umin is below 0, Smin more", api.Bound{Umin: highest, Umax: full - 4, Smin: -9, Smax: 9, Bits: every}, below},
		{"Umin is below 0, Smin less", api.Bound{Umin: full - 8, Umax: full - 4, Smin: least, Smax: 9, Bits: every}, below},
		{"Umin is from 0 on", with(all, func(b *api.Bound) { b.Umin = most }), with(all, func(b *api.Bound) { b.Umin = most })},
		{"bits tell", with(all, func(b *api.Bound) { b.Bits = api.Tnum{Value: 4, Mask: 3} }), api.Bound{Umin: 4, Umax: 7, Smin: 4, Smax: 7, Bits: api.Tnum{Value: 4, Mask: 3}}},
		{"bits with the highest one unknown", with(all, func(b *api.Bound) { b.Bits = api.Tnum{Value: 4, Mask: highest} }),
			api.Bound{Umin: 4, Umax: highest + 4, Smin: least + 4, Smax: 4, Bits: api.Tnum{Value: 4, Mask: highest}}},
		{"bits below 0", with(all, func(b *api.Bound) { b.Bits = api.Tnum{Value: full - 3, Mask: 3} }),
			api.Bound{Umin: full - 3, Umax: full, Smin: -4, Smax: -1, Bits: api.Tnum{Value: full - 3, Mask: 3}}},
		{"bits of the ends", api.Bound{Umin: 16, Umax: 19, Smin: least, Smax: most, Bits: api.Tnum{Mask: full - 1}},
			api.Bound{Umin: 16, Umax: 18, Smin: 16, Smax: 18, Bits: api.Tnum{Value: 16, Mask: 2}}},
		{"the second time", api.Bound{Umin: 6, Umax: 8, Smin: least, Smax: most, Bits: api.Tnum{Mask: full - 8}},
			api.Bound{Umin: 6, Umax: 7, Smin: 6, Smax: 7, Bits: api.Tnum{Value: 6, Mask: 1}}},
		{"what a third time would find", api.Bound{Umin: 2, Umax: 4, Smin: least, Smax: most, Bits: api.Tnum{Value: 1, Mask: 10}},
			api.Bound{Umin: 2, Umax: 3, Smin: 2, Smax: 3, Bits: api.Tnum{Value: 3}}},
		{"an end that the bits do not have", api.Bound{Umin: 4, Umax: 9, Smin: -9, Smax: 9, Bits: api.Tnum{Mask: full - 6}},
			api.Bound{Umin: 4, Umax: 9, Smin: 4, Smax: 9, Bits: api.Tnum{Mask: 9}}},
	} {
		if got, ok := bound.Tidy(c.b); got != c.want || !ok {
			t.Errorf("%s: Tidy(%#x) = %#x, %v; want %#x", c.name, c.b, got, ok, c.want)
		}
	}
}

func TestTidyOfWhatIsEmpty(t *testing.T) {
	every := api.Tnum{Mask: full}
	for name, b := range map[string]api.Bound{
		"without signs":         with(five, func(b *api.Bound) { b.Umin, b.Umax = 9, 5 }),
		"with signs":            with(five, func(b *api.Bound) { b.Smin, b.Smax = 9, 5 }),
		"signs do not agree":    {Umin: 5, Umax: 9, Smin: -9, Smax: -5, Bits: every},
		"from where is not":     {Umin: 5, Umax: 9, Smin: 1, Smax: 4, Bits: every},
		"to where is not":       {Umin: 5, Umax: 9, Smin: 10, Smax: 14, Bits: every},
		"bits above":            {Umin: 5, Umax: 9, Smin: 5, Smax: 9, Bits: api.Tnum{Value: 16, Mask: 15}},
		"bits below":            {Umin: 17, Umax: 30, Smin: 17, Smax: 30, Bits: api.Tnum{Mask: 15}},
		"bits between":          {Umin: 4, Umax: 5, Smin: 4, Smax: 5, Bits: api.Tnum{Value: 2, Mask: full - 2}},
		"bits, the second time": {Umin: 5, Umax: 6, Smin: least, Smax: most, Bits: api.Tnum{Mask: full - 5}},
		"bits' sign":            {Umin: 0, Umax: full, Smin: 0, Smax: most, Bits: api.Tnum{Value: highest, Mask: most}},
		"below 0, from 0 on":    {Umin: highest, Umax: full, Smin: 0, Smax: most, Bits: every},
		"from 0 on, below 0":    {Umin: 0, Umax: most, Smin: least, Smax: -1, Bits: every},
		"far from 0, small":     {Umin: 6, Umax: most, Smin: -9, Smax: 5, Bits: every},
	} {
		if got, ok := bound.Tidy(b); got != (api.Bound{}) || ok {
			t.Errorf("%s: Tidy(%#x) = %#x, %v", name, b, got, ok)
		}
	}
}

func TestTidyAgainstTheModel(t *testing.T) {
	chance := rand.New(rand.NewSource(3))
	l, _ := right(chance, 20000)
	for _, b := range append(l, anything(chance, 20000)...) {
		got, ok := bound.Tidy(b)
		if want, fits := modelTidy(b); got != want || ok != fits {
			t.Fatalf("Tidy(%#x) = %#x, %v; want %#x, %v", b, got, ok, want, fits)
		}
	}
}

func TestTidyLosesNoNumber(t *testing.T) {
	chance := rand.New(rand.NewSource(4))
	l, in := right(chance, 20000)
	for i, b := range l {
		got, ok := bound.Tidy(b)
		if !ok || !bound.In(got, in[i]) || !bound.Check(got) || !bound.Within(b, got) {
			t.Fatalf("Tidy(%#x) = %#x, %v: it has lost %#x, or won some", b, got, ok, in[i])
		}
	}
}

// row answers the numbers around one, with wrap-round.
func row(x uint64) []uint64 { return []uint64{x - 4, x - 3, x - 2, x - 1, x, x + 1, x + 2, x + 3} }

// endings are known bits of which three tell something, and all others are noughts, ones, alike, or unknown.
func endings() []api.Tnum {
	var l []api.Tnum
	for value := range uint64(8) {
		for mask := range uint64(8) {
			if value&mask != 0 {
				continue
			}
			for _, rest := range []api.Tnum{{}, {Mask: full - 7}, {Value: full - 7}, {Mask: highest}, {Value: most - 7}} {
				l = append(l, api.Tnum{Value: value | rest.Value, Mask: mask | rest.Mask})
			}
		}
	}
	return l
}

// TestTidyOfAllNearAnEdge asks for all numbers near 0 and near 2^63 whether they are in as before; what has none of them may have others.
func TestTidyOfAllNearAnEdge(t *testing.T) {
	for _, near := range []uint64{0, highest} {
		numbers, bits := row(near), endings()
		for i := range 8 * 8 * 8 * 8 {
			b := api.Bound{Umin: numbers[i%8], Umax: numbers[i/8%8], Smin: int64(numbers[i/64%8]), Smax: int64(numbers[i/512])}
			for _, b.Bits = range bits {
				got, ok := bound.Tidy(b)
				if !ok && got != (api.Bound{}) || ok && !bound.Check(got) {
					t.Fatalf("Tidy(%#x) = %#x, %v", b, got, ok)
				}
				for _, x := range numbers {
					if bound.In(b, x) != (ok && bound.In(got, x)) {
						t.Fatalf("Tidy(%#x) = %#x, %v: where is %#x?", b, got, ok, x)
					}
				}
			}
		}
	}
}
