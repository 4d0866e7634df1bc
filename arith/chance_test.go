package arith_test

import (
	"math/rand"
	"testing"

	"clevis/api"
	"clevis/arith"
	"clevis/bound"
	"clevis/word"
)

// same fails if what is answered is not what the model answers, of 64 bits and of 32.
func same(t *testing.T, op int, a, b api.Bound) {
	t.Helper()
	for _, wide := range []bool{true, false} {
		got, ok := arith.Alu(op, a, b, wide)
		if want, is := modelAlu(op, a, b, wide); got != want || ok != is {
			t.Fatalf("Alu(%#x, %#x, %#x, %v) = %#x, %v; want %#x, %v", op, a, b, wide, got, ok, want, is)
		}
	}
}

func TestAgainstTheModel(t *testing.T) {
	chance := rand.New(rand.NewSource(1))
	for range 20000 {
		a, b := around(chance, some(chance)), around(chance, some(chance))
		for _, op := range operations {
			same(t, op, a, b)
		}
		same(t, chance.Intn(300)-20, anything(chance), anything(chance))
		same(t, operations[chance.Intn(len(operations))], anything(chance), anything(chance))
	}
}

// TestSmallNumbersAgainstTheModel asks for numbers of few bits: of these, making tidy two times often leaves something for a third time.
func TestSmallNumbersAgainstTheModel(t *testing.T) {
	chance := rand.New(rand.NewSource(3))
	for range 10000 {
		a, b := small(chance), small(chance)
		for _, op := range operations {
			same(t, op, a, b)
			same(t, op, a, bound.Const(uint64(chance.Intn(3))))
		}
	}
}

// kept fails if what layer 1 reckons of x and y is not in what is answered of a and b, in which they are.
func kept(t *testing.T, op int, a, b, got api.Bound, x, y uint64, wide bool) {
	t.Helper()
	if z, _ := word.Alu(op, x, y, wide); !bound.In(got, z) {
		t.Fatalf("Alu(%#x, %#x, %#x, %v) = %#x: of %#x and %#x it has not %#x", op, a, b, wide, got, x, y, z)
	}
}

func TestNoNumberIsLost(t *testing.T) {
	chance := rand.New(rand.NewSource(2))
	for range 50000 {
		x, y := some(chance), some(chance)
		a, b := around(chance, x), around(chance, y)
		for _, op := range operations {
			for _, wide := range []bool{true, false} {
				got, ok := arith.Alu(op, a, b, wide)
				if !ok || !bound.Check(got) || !wide && got.Umax > 1<<32-1 {
					t.Fatalf("Alu(%#x, %#x, %#x, %v) = %#x, %v", op, a, b, wide, got, ok)
				}
				kept(t, op, a, b, got, x, y, wide)
			}
		}
	}
}

// near answers all bounds from one to another of some numbers in a row, which are around x, and those numbers.
func near(x uint64) ([]api.Bound, []uint64) {
	numbers := []uint64{x - 2, x - 1, x, x + 1, x + 2}
	var l []api.Bound
	for i, low := range numbers {
		for _, high := range numbers[i:] {
			b := bound.Any()
			if low <= high {
				b.Umin, b.Umax = low, high
			}
			if int64(low) <= int64(high) {
				b.Smin, b.Smax = int64(low), int64(high)
			}
			l = append(l, b)
		}
	}
	return l, numbers
}

// TestNoNumberIsLostNearEdges asks for all numbers near those where something changes, with all.
func TestNoNumberIsLostNearEdges(t *testing.T) {
	places := []uint64{0, 4, 32, 64, 1 << 31, 1 << 32, highest}
	for _, first := range places {
		left, xs := near(first)
		for _, second := range places {
			right, ys := near(second)
			for _, op := range operations {
				for _, a := range left {
					for _, b := range right {
						allKept(t, op, a, b, xs, ys)
					}
				}
			}
		}
	}
}

func allKept(t *testing.T, op int, a, b api.Bound, xs, ys []uint64) {
	t.Helper()
	for _, wide := range []bool{true, false} {
		got, _ := arith.Alu(op, a, b, wide)
		for _, x := range xs {
			for _, y := range ys {
				if bound.In(a, x) && bound.In(b, y) {
					kept(t, op, a, b, got, x, y, wide)
				}
			}
		}
	}
}

// TestNumbersThatAreKnown: of two numbers that are known, the number is known, but for what the chapter does not go into.
func TestNumbersThatAreKnown(t *testing.T) {
	for _, op := range operations {
		for _, x := range edges {
			for _, y := range edges {
				for _, wide := range []bool{true, false} {
					if !exact(op, x, y, wide) {
						continue
					}
					z, _ := word.Alu(op, x, y, wide)
					if got, ok := arith.Alu(op, bound.Const(x), bound.Const(y), wide); got != bound.Const(z) || !ok {
						t.Errorf("Alu(%#x, Const(%#x), Const(%#x), %v) = %#x, %v; want %#x alone", op, x, y, wide, got, ok, z)
					}
				}
			}
		}
	}
}

// exact tells whether the chapter makes one number of x and y: not of Mod, of a division by 0, of 32 bits shifted with a sign.
func exact(op int, x, y uint64, wide bool) bool {
	if !wide {
		x, y = x%(1<<32), y%(1<<32)
	}
	switch op {
	case api.Div:
		return y != 0 || x == 0
	case api.Mod:
		return x == 0 || y == 1
	case api.Arsh:
		return wide || x < 1<<31
	}
	return true
}
