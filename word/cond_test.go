package word

import (
	"math/big"
	"testing"

	"clevis/api"
)

var conditions = []int{
	api.Jeq, api.Jgt, api.Jge, api.Jset, api.Jne, api.Jsgt, api.Jsge, api.Jlt, api.Jle, api.Jslt, api.Jsle,
}

// opposites: each pair, one way round.
var opposites = [][2]int{
	{api.Jeq, api.Jne}, {api.Jgt, api.Jle}, {api.Jge, api.Jlt}, {api.Jsgt, api.Jsle}, {api.Jsge, api.Jslt},
}

// bigCond asks as the document's words say, with numbers that have no end.
func bigCond(op int, x64 uint64, y64 uint64, bits int) bool {
	x := new(big.Int).Mod(big64(x64), power(bits))
	y := new(big.Int).Mod(big64(y64), power(bits))
	plain := x.Cmp(y)
	signs := bigSigned(x, bits).Cmp(bigSigned(y, bits))
	switch op {
	case api.Jeq:
		return plain == 0
	case api.Jne:
		return plain != 0
	case api.Jgt:
		return plain > 0
	case api.Jge:
		return plain >= 0
	case api.Jlt:
		return plain < 0
	case api.Jle:
		return plain <= 0
	case api.Jsgt:
		return signs > 0
	case api.Jsge:
		return signs >= 0
	case api.Jslt:
		return signs < 0
	case api.Jsle:
		return signs <= 0
	}
	return new(big.Int).And(x, y).Sign() != 0
}

func TestCondExamples(t *testing.T) {
	const minus = 1<<64 - 1
	for _, c := range []struct {
		op   int
		x, y uint64
		wide bool
		want bool
	}{
		{api.Jeq, 5, 5, true, true},
		{api.Jeq, 5, 1<<32 + 5, true, false},
		{api.Jeq, 5, 1<<32 + 5, false, true},
		{api.Jne, 5, 5, true, false},
		{api.Jne, 5, 1<<32 + 5, true, true},
		{api.Jne, 5, 1<<32 + 5, false, false},
		{api.Jset, 6, 3, true, true},
		{api.Jset, 6, 9, true, false},
		{api.Jset, 0, 0, true, false},
		{api.Jset, 1 << 40, 1 << 40, true, true},
		{api.Jset, 1 << 40, 1 << 40, false, false},
		{api.Jset, 1 << 63, minus, true, true},
		{api.Jgt, minus, 0, true, true},
		{api.Jgt, 3, 3, true, false},
		{api.Jgt, 1 << 32, 1, false, false},
		{api.Jge, 3, 3, true, true},
		{api.Jge, 2, 3, true, false},
		{api.Jlt, 2, 3, true, true},
		{api.Jlt, 3, 3, true, false},
		{api.Jlt, 1 << 32, 1, false, true},
		{api.Jle, 3, 3, true, true},
		{api.Jle, 4, 3, true, false},
		{api.Jsgt, minus, 0, true, false},
		{api.Jsgt, 0, minus, true, true},
		{api.Jsgt, 1 << 31, 0, true, true},
		{api.Jsgt, 1 << 31, 0, false, false},
		{api.Jsgt, 1<<64 - 1<<32 + 1, 0, false, true},
		{api.Jsge, minus, minus, true, true},
		{api.Jsge, minus, 0, true, false},
		{api.Jslt, minus, 0, true, true},
		{api.Jslt, 1 << 63, 1<<63 - 1, true, true},
		{api.Jslt, 1 << 31, 1<<31 - 1, false, true},
		{api.Jslt, 1<<32 - 1, 0, true, false},
		{api.Jslt, 1<<32 - 1, 0, false, true},
		{api.Jsle, minus, minus, true, true},
		{api.Jsle, 0, minus, true, false},
	} {
		if got, ok := Cond(c.op, c.x, c.y, c.wide); got != c.want || !ok {
			t.Errorf("Cond(%#x, %#x, %#x, %v) = %v, %v; want %v", c.op, c.x, c.y, c.wide, got, ok, c.want)
		}
	}
}

func TestCondAgainstNumbersWithoutEnd(t *testing.T) {
	for _, op := range conditions {
		for _, x := range edges {
			for _, y := range edges {
				for _, wide := range []bool{false, true} {
					want := bigCond(op, x, y, width64or32(wide))
					if got, ok := Cond(op, x, y, wide); got != want || !ok {
						t.Fatalf("Cond(%#x, %#x, %#x, %v) = %v, %v; want %v", op, x, y, wide, got, ok, want)
					}
				}
			}
		}
	}
}

func TestCondTakesItsConditionsAlone(t *testing.T) {
	is := map[int]bool{}
	for _, op := range conditions {
		is[op] = true
	}
	for _, op := range sweep() {
		for _, wide := range []bool{false, true} {
			for _, y := range []uint64{3, 5, 9} { // one of them fulfils any condition that there could be
				got, ok := Cond(op, 5, y, wide)
				if ok != is[op] {
					t.Errorf("Cond(%#x): a condition: %v", op, ok)
				}
				if !ok && got {
					t.Errorf("Cond(%#x) is none, and holds", op)
				}
			}
		}
	}
}

func TestOppositesAreNeverBothFulfilled(t *testing.T) {
	for _, pair := range opposites {
		for _, x := range edges {
			for _, y := range edges {
				for _, wide := range []bool{false, true} {
					one, _ := Cond(pair[0], x, y, wide)
					other, _ := Cond(pair[1], x, y, wide)
					if one == other {
						t.Fatalf("%#x and %#x of %#x and %#x (wide %v): %v both", pair[0], pair[1], x, y, wide, one)
					}
				}
			}
		}
	}
}
