package tnum_test

import (
	"math/rand"
	"testing"

	"clevis/api"
	"clevis/tnum"
	"clevis/word"
)

// reckoning is a call of two operands, and what it should answer.
type reckoning struct {
	name  string
	op    int
	do    func(a, b api.Tnum) api.Tnum
	model func(a, b api.Tnum) api.Tnum
}

var reckonings = []reckoning{
	{"Add", api.Add, tnum.Add, modelAdd},
	{"Sub", api.Sub, tnum.Sub, modelSub},
	{"And", api.And, tnum.And, modelAnd},
	{"Or", api.Or, tnum.Or, modelOr},
	{"Xor", api.Xor, tnum.Xor, modelXor},
	{"Mul", api.Mul, tnum.Mul, modelMul},
}

var shifts = []int{api.Lsh, api.Rsh, api.Arsh}

func TestReckoningExamples(t *testing.T) {
	every := api.Tnum{Mask: full}
	for _, c := range []struct {
		name       string
		do         func(a, b api.Tnum) api.Tnum
		a, b, want api.Tnum
	}{
		{"Add", tnum.Add, api.Tnum{Value: 4, Mask: 1}, api.Tnum{Value: 2}, api.Tnum{Value: 6, Mask: 1}},
		{"Add", tnum.Add, api.Tnum{Value: 4, Mask: 1}, api.Tnum{Value: 1}, api.Tnum{Value: 4, Mask: 3}},
		{"Add", tnum.Add, api.Tnum{Value: full}, api.Tnum{Value: 2}, api.Tnum{Value: 1}},
		{"Add", tnum.Add, api.Tnum{Value: full - 1, Mask: 1}, api.Tnum{Value: 1}, every},
		{"Add", tnum.Add, every, api.Tnum{Value: 7}, every},
		{"Add", tnum.Add, api.Tnum{Mask: 1}, api.Tnum{Mask: 1}, api.Tnum{Mask: 3}},
		{"Sub", tnum.Sub, api.Tnum{Value: 6, Mask: 1}, api.Tnum{Value: 2}, api.Tnum{Value: 4, Mask: 1}},
		{"Sub", tnum.Sub, api.Tnum{Value: 2}, api.Tnum{Value: 3}, api.Tnum{Value: full}},
		{"Sub", tnum.Sub, api.Tnum{Value: 4, Mask: 1}, api.Tnum{Value: 1}, api.Tnum{Mask: 7}},
		{"Sub", tnum.Sub, api.Tnum{Value: 8}, api.Tnum{Mask: 2}, api.Tnum{Mask: 14}},
		{"Sub", tnum.Sub, api.Tnum{}, api.Tnum{Mask: 1}, every},
		{"Sub", tnum.Sub, every, every, every},
		{"And", tnum.And, api.Tnum{Value: 12, Mask: 3}, api.Tnum{Value: 10, Mask: 1}, api.Tnum{Value: 8, Mask: 3}},
		{"And", tnum.And, every, api.Tnum{Value: 7}, api.Tnum{Mask: 7}},
		{"And", tnum.And, every, api.Tnum{}, api.Tnum{}},
		{"Or", tnum.Or, api.Tnum{Value: 12, Mask: 3}, api.Tnum{Value: 2, Mask: 4}, api.Tnum{Value: 14, Mask: 1}},
		{"Or", tnum.Or, every, api.Tnum{Value: 7}, api.Tnum{Value: 7, Mask: full - 7}},
		{"Or", tnum.Or, every, api.Tnum{Value: full}, api.Tnum{Value: full}},
		{"Xor", tnum.Xor, api.Tnum{Value: 12, Mask: 1}, api.Tnum{Value: 6, Mask: 8}, api.Tnum{Value: 2, Mask: 9}},
		{"Xor", tnum.Xor, every, every, every},
		{"Xor", tnum.Xor, api.Tnum{Value: full}, api.Tnum{Value: 1 << 63}, api.Tnum{Value: 1<<63 - 1}},
		{"Mul", tnum.Mul, api.Tnum{Value: 6}, api.Tnum{Value: 7}, api.Tnum{Value: 42}},
		{"Mul", tnum.Mul, api.Tnum{Value: 4}, api.Tnum{Value: 2, Mask: 1}, api.Tnum{Value: 8, Mask: 4}},
		{"Mul", tnum.Mul, api.Tnum{Value: 2, Mask: 1}, api.Tnum{Value: 4}, api.Tnum{Value: 8, Mask: 4}},
		{"Mul", tnum.Mul, api.Tnum{Mask: 1}, api.Tnum{Mask: 1}, api.Tnum{Mask: 1}},
		{"Mul", tnum.Mul, api.Tnum{Value: 1, Mask: 2}, api.Tnum{Value: 3}, api.Tnum{Value: 1, Mask: 14}},
		{"Mul", tnum.Mul, every, api.Tnum{}, api.Tnum{}},
		{"Mul", tnum.Mul, api.Tnum{}, every, api.Tnum{}},
		{"Mul", tnum.Mul, every, api.Tnum{Value: 8}, api.Tnum{Mask: full - 7}},
		{"Mul", tnum.Mul, api.Tnum{Value: full}, api.Tnum{Value: full}, api.Tnum{Value: 1}},
		{"Mul", tnum.Mul, api.Tnum{Value: 1 << 63}, api.Tnum{Mask: 1}, api.Tnum{Mask: 1 << 63}},
		{"Mul", tnum.Mul, api.Tnum{Value: 1 << 63}, api.Tnum{Value: 2}, api.Tnum{}},
		// What may not be: the chapter's words, as they stand.
		{"Add", tnum.Add, api.Tnum{Value: 1, Mask: 1}, api.Tnum{}, api.Tnum{Mask: 3}},
		{"Sub", tnum.Sub, api.Tnum{Value: 1, Mask: 1}, api.Tnum{}, api.Tnum{Mask: 3}},
		{"And", tnum.And, api.Tnum{Value: 1, Mask: 1}, api.Tnum{Value: 1, Mask: 1}, api.Tnum{Value: 1}},
		{"Or", tnum.Or, api.Tnum{Value: 1, Mask: 1}, api.Tnum{Mask: 1}, api.Tnum{Value: 1}},
		{"Xor", tnum.Xor, api.Tnum{Value: 1, Mask: 1}, api.Tnum{}, api.Tnum{Mask: 1}},
		{"Mul", tnum.Mul, api.Tnum{Value: 1, Mask: 1}, api.Tnum{Value: 1}, api.Tnum{Value: 1}},
	} {
		if got := c.do(c.a, c.b); got != c.want {
			t.Errorf("%s(%#x, %#x) = %#x; want %#x", c.name, c.a, c.b, got, c.want)
		}
	}
}

func TestShiftExamples(t *testing.T) {
	a := api.Tnum{Value: 4, Mask: 3}
	high := api.Tnum{Value: 1 << 63, Mask: 1 << 62}
	unsure := api.Tnum{Value: 1 << 62, Mask: 1 << 63}
	for _, c := range []struct {
		op   int
		a    api.Tnum
		n    int
		want api.Tnum
	}{
		{api.Lsh, a, 0, a},
		{api.Lsh, a, 1, api.Tnum{Value: 8, Mask: 6}},
		{api.Lsh, a, 61, api.Tnum{Value: 1 << 63, Mask: 3 << 61}},
		{api.Lsh, a, 63, api.Tnum{Mask: 1 << 63}},
		{api.Lsh, a, 64, a},
		{api.Lsh, a, 65, api.Tnum{Value: 8, Mask: 6}},
		{api.Lsh, a, -1, api.Tnum{Mask: 1 << 63}},
		{api.Lsh, a, -64, a},
		{api.Lsh, a, -1 << 63, a},
		{api.Rsh, a, 1, api.Tnum{Value: 2, Mask: 1}},
		{api.Rsh, a, 2, api.Tnum{Value: 1}},
		{api.Rsh, a, 63, api.Tnum{}},
		{api.Rsh, a, -63, api.Tnum{Value: 2, Mask: 1}},
		{api.Rsh, high, 1, api.Tnum{Value: 1 << 62, Mask: 1 << 61}},
		{api.Rsh, high, 63, api.Tnum{Value: 1}},
		{api.Rsh, unsure, 63, api.Tnum{Mask: 1}},
		{api.Arsh, a, 1, api.Tnum{Value: 2, Mask: 1}},
		{api.Arsh, high, 1, api.Tnum{Value: 3 << 62, Mask: 1 << 61}},
		{api.Arsh, high, 63, api.Tnum{Value: full}},
		{api.Arsh, unsure, 1, api.Tnum{Value: 1 << 61, Mask: 3 << 62}},
		{api.Arsh, unsure, 63, api.Tnum{Mask: full}},
		{api.Arsh, unsure, 128, unsure},
		{api.Arsh, api.Tnum{Value: 3 << 62, Mask: 1 << 63}, 1, api.Tnum{Value: 7 << 61, Mask: 3 << 62}}, // it may not be
	} {
		if got := tnum.Shift(c.op, c.a, c.n); got != c.want {
			t.Errorf("Shift(%#x, %#x, %d) = %#x; want %#x", c.op, c.a, c.n, got, c.want)
		}
	}
}

func TestReckoningAgainstTheModel(t *testing.T) {
	for _, r := range reckonings {
		t.Run(r.name, func(t *testing.T) {
			chance := rand.New(rand.NewSource(int64(r.op)))
			l := anything(chance, 300)
			for _, a := range l {
				for range 12 {
					b := l[chance.Intn(len(l))]
					if got, want := r.do(a, b), r.model(a, b); got != want {
						t.Fatalf("%s(%#x, %#x) = %#x; want %#x", r.name, a, b, got, want)
					}
				}
			}
		})
	}
}

func TestShiftAgainstTheModel(t *testing.T) {
	chance := rand.New(rand.NewSource(3))
	for _, a := range anything(chance, 300) {
		for _, op := range shifts {
			for _, n := range append(counts, int(chance.Uint64()), chance.Intn(64)) {
				if got, want := tnum.Shift(op, a, n), modelShift(op, a, n); got != want {
					t.Fatalf("Shift(%#x, %#x, %d) = %#x; want %#x", op, a, n, got, want)
				}
			}
		}
	}
}

func TestShiftByNoShiftIsTheSame(t *testing.T) {
	is := map[int]bool{api.Lsh: true, api.Rsh: true, api.Arsh: true}
	l := []int{-1 << 63, -1<<32 + api.Lsh, 1<<32 + api.Rsh, 1<<63 - 1}
	for op := -0x200; op <= 0x400; op++ {
		l = append(l, op)
	}
	for _, op := range l {
		for _, a := range []api.Tnum{{Value: 1<<63 + 4, Mask: 3}, {Value: 6, Mask: 2}} {
			for _, n := range []int{-1, 0, 1, 63, 64} {
				if got := tnum.Shift(op, a, n); !is[op] && got != a {
					t.Fatalf("Shift(%#x, %#x, %d) = %#x; it is no shift", op, a, n, got)
				}
			}
		}
	}
}

// results are what the operation is of each number of a with each of b.
func results(op int, a, b []uint64) []uint64 {
	var l []uint64
	for _, x := range a {
		for _, y := range b {
			z, _ := word.Alu(op, x, y, true)
			l = append(l, z)
		}
	}
	return l
}

// TestFewBitsAllWithAll holds the answers against all numbers that there are: none is lost, and but for Mul's none that could be known is unknown.
func TestFewBitsAllWithAll(t *testing.T) {
	for _, up := range []int{0, 31, 61} {
		l := raised(small(3), up)
		for _, r := range reckonings {
			for _, a := range l {
				for _, b := range l {
					got, want := r.do(a, b), tightest(results(r.op, all(a), all(b)))
					if !tnum.Within(got, want) || r.op != api.Mul && got != want {
						t.Fatalf("%s(%#x, %#x) = %#x; the numbers have %#x", r.name, a, b, got, want)
					}
				}
			}
		}
		for _, op := range shifts {
			for _, a := range l {
				for n := range 64 {
					want := tightest(results(op, all(a), []uint64{uint64(n)}))
					if got := tnum.Shift(op, a, n); got != want {
						t.Fatalf("Shift(%#x, %#x, %d) = %#x; the numbers have %#x", op, a, n, got, want)
					}
				}
			}
		}
	}
}

// TestWhatIsInIsInTheAnswer takes numbers by chance from known bits of all widths.
func TestWhatIsInIsInTheAnswer(t *testing.T) {
	chance := rand.New(rand.NewSource(4))
	l := right(chance, 400)
	for _, a := range l {
		for range 20 {
			b := l[chance.Intn(len(l))]
			x, y := member(chance, a), member(chance, b)
			for _, r := range reckonings {
				z, _ := word.Alu(r.op, x, y, true)
				if got := r.do(a, b); !tnum.Check(got) || !tnum.In(got, z) {
					t.Fatalf("%s(%#x, %#x) = %#x: it has not %#x", r.name, a, b, got, z)
				}
			}
			for _, op := range shifts {
				n := counts[chance.Intn(len(counts))]
				z, _ := word.Alu(op, x, uint64(n), true)
				if got := tnum.Shift(op, a, n); !tnum.Check(got) || !tnum.In(got, z) {
					t.Fatalf("Shift(%#x, %#x, %d) = %#x: it has not %#x", op, a, n, got, z)
				}
			}
			wholeHas(t, a, b, x, y)
		}
	}
}

// wholeHas asks the calls that take known bits together.
func wholeHas(t *testing.T, a, b api.Tnum, x, y uint64) {
	t.Helper()
	if got := tnum.Join(a, b); !tnum.Check(got) || !tnum.In(got, x) || !tnum.In(got, y) {
		t.Fatalf("Join(%#x, %#x) = %#x: it has not %#x and %#x", a, b, got, x, y)
	}
	met, ok := tnum.Meet(a, b)
	if !tnum.Check(met) || tnum.In(b, x) && !(ok && tnum.In(met, x)) {
		t.Fatalf("Meet(%#x, %#x) = %#x, %v: it has not %#x", a, b, met, ok, x)
	}
	if low := tnum.Low(a); !tnum.Check(low) || !tnum.In(low, x%(1<<32)) {
		t.Fatalf("Low(%#x) = %#x: it has not %#x", a, low, x%(1<<32))
	}
}
