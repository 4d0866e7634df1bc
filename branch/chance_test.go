package branch_test

import (
	"math/rand"
	"testing"

	"clevis/api"
	"clevis/bound"
	"clevis/branch"
	"clevis/word"
)

// same fails if what is answered is not what the model answers, of 64 bits and of 32, of what holds and of what does not.
func same(t *testing.T, op int, a, b api.Bound) {
	t.Helper()
	for _, wide := range both {
		for _, holds := range both {
			x, y, ok := branch.Refine(op, a, b, wide, holds)
			if p, q, can := modelRefine(op, a, b, wide, holds); x != p || y != q || ok != can {
				t.Fatalf("Refine(%#x, %#x, %#x, %v, %v) = %#x, %#x, %v; want %#x, %#x, %v", op, a, b, wide, holds, x, y, ok, p, q, can)
			}
		}
	}
}

func TestAgainstTheModel(t *testing.T) {
	chance := rand.New(rand.NewSource(1))
	for range 10000 {
		x := some(chance)
		a, b, near := around(chance, x), around(chance, some(chance)), around(chance, other(chance, x))
		for _, op := range conditions {
			same(t, op, a, b)
			same(t, op, a, near)
		}
		same(t, chance.Intn(300)-20, anything(chance), anything(chance))
		same(t, conditions[chance.Intn(len(conditions))], anything(chance), anything(chance))
		same(t, conditions[chance.Intn(len(conditions))], anything(chance), near)
	}
}

// TestSmallNumbersAgainstTheModel asks for numbers of few bits: of these, making tidy two times often leaves something for a third time.
func TestSmallNumbersAgainstTheModel(t *testing.T) {
	chance := rand.New(rand.NewSource(2))
	for range 4000 {
		a, b := small(chance), small(chance)
		for _, op := range conditions {
			same(t, op, a, b)
			same(t, op, a, bound.Const(b.Umin))
			same(t, op, bound.Const(a.Umax), b)
			same(t, op, a, bound.Const(a.Umin))
		}
	}
}

// kept fails if two numbers that are in a and b, and fulfil the condition or do not, as is said, are not in what is answered.
func kept(t *testing.T, op int, a, b api.Bound, wide bool, x, y uint64) {
	t.Helper()
	holds, _ := word.Cond(op, x, y, wide)
	left, right, ok := branch.Refine(op, a, b, wide, holds)
	if !ok || !bound.In(left, x) || !bound.In(right, y) {
		t.Fatalf("Refine(%#x, %#x, %#x, %v, %v) = %#x, %#x, %v: it has not %#x and %#x", op, a, b, wide, holds, left, right, ok, x, y)
	}
	if !bound.Check(left) || !bound.Check(right) {
		t.Fatalf("Refine(%#x, %#x, %#x, %v, %v) = %#x, %#x: they may not be", op, a, b, wide, holds, left, right)
	}
}

func TestNoNumberIsLost(t *testing.T) {
	chance := rand.New(rand.NewSource(3))
	for range 50000 {
		x := some(chance)
		y := other(chance, x)
		a, b := around(chance, x), around(chance, y)
		for _, op := range conditions {
			for _, wide := range both {
				kept(t, op, a, b, wide, x, y)
			}
		}
	}
}

// near answers all bounds from one to another of some numbers in a row, which are around x, and those numbers.
func near(x uint64) ([]api.Bound, []uint64) {
	numbers := []uint64{x - 2, x - 1, x, x + 1, x + 2}
	var l []api.Bound
	for i, low := range numbers {
		for _, high := range numbers[i:] {
			b := bound.Any()
			if low <= high {
				b.Umin, b.Umax = low, high
			}
			if int64(low) <= int64(high) {
				b.Smin, b.Smax = int64(low), int64(high)
			}
			l = append(l, b)
		}
	}
	return l, numbers
}

// TestNoNumberIsLostNearEdges asks for all numbers near those where something changes, with all.
func TestNoNumberIsLostNearEdges(t *testing.T) {
	places := []uint64{0, 4, 1 << 31, 1 << 32, highest}
	for _, first := range places {
		left, xs := near(first)
		for _, second := range places {
			right, ys := near(second)
			for _, a := range left {
				for _, b := range right {
					for _, op := range conditions {
						allKept(t, op, a, b, xs, ys)
					}
				}
			}
		}
	}
}

// allKept asks, too, that nothing is won: what was in neither, is not in what is answered.
func allKept(t *testing.T, op int, a, b api.Bound, xs, ys []uint64) {
	t.Helper()
	for _, wide := range both {
		for _, x := range xs {
			for _, y := range ys {
				if bound.In(a, x) && bound.In(b, y) {
					kept(t, op, a, b, wide, x, y)
				}
			}
		}
		for _, holds := range both {
			left, right, ok := branch.Refine(op, a, b, wide, holds)
			for i := range xs {
				if ok && (bound.In(left, xs[i]) && !bound.In(a, xs[i]) || bound.In(right, ys[i]) && !bound.In(b, ys[i])) {
					t.Fatalf("Refine(%#x, %#x, %#x, %v, %v) = %#x, %#x: more than before", op, a, b, wide, holds, left, right)
				}
			}
		}
	}
}

// seen are conditions that say the same, one seen from the other operand.
var seen = [][2]int{
	{api.Jeq, api.Jeq}, {api.Jne, api.Jne}, {api.Jgt, api.Jlt}, {api.Jge, api.Jle}, {api.Jsgt, api.Jslt}, {api.Jsge, api.Jsle},
}

// TestOtherWaysToSayIt: what holds may be said by the opposite that does not, or of the operands the other way round.
func TestOtherWaysToSayIt(t *testing.T) {
	chance := rand.New(rand.NewSource(4))
	for range 20000 {
		x := some(chance)
		a, b := around(chance, x), around(chance, other(chance, x))
		wide, holds := chance.Intn(2) == 0, chance.Intn(2) == 0
		for _, pair := range pairs {
			p, q, ok := branch.Refine(pair[0], a, b, wide, holds)
			if left, right, can := branch.Refine(pair[1], a, b, wide, !holds); left != p || right != q || can != ok {
				t.Fatalf("of %#x, %#x (wide %v) %#x, %v and %#x, %v say not the same", a, b, wide, pair[0], holds, pair[1], !holds)
			}
		}
		for _, pair := range seen {
			p, q, ok := branch.Refine(pair[0], a, b, wide, holds)
			if right, left, can := branch.Refine(pair[1], b, a, wide, holds); left != p || right != q || can != ok {
				t.Fatalf("of %#x, %#x (wide %v, holds %v) %#x and %#x say not the same", a, b, wide, holds, pair[0], pair[1])
			}
		}
	}
}
