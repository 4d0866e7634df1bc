package word

import (
	"math"
	"math/big"
	"testing"

	"clevis/api"
)

// edges are the numbers at which a reckoning is most likely to go wrong.
var edges = []uint64{
	0, 1, 2, 3, 5, 7, 31, 32, 33, 63, 64, 65, 127, 128, 255, 256,
	1<<15 - 1, 1 << 15, 1<<16 - 1, 1<<31 - 1, 1 << 31, 1<<31 + 1, 1<<32 - 2, 1<<32 - 1, 1 << 32, 1<<32 + 1, 1<<32 + 31,
	1<<33 - 1, 0x0123456789abcdef, 0x8000000080000000, 0xfedcba9876543210,
	1<<63 - 1, 1 << 63, 1<<63 + 1, 1<<64 - 1<<32, 1<<64 - 1<<31, 1<<64 - 2, 1<<64 - 1,
}

var operations = []int{
	api.Add, api.Sub, api.Mul, api.Div, api.Or, api.And, api.Lsh, api.Rsh, api.Neg, api.Mod, api.Xor, api.Mov, api.Arsh,
}

func power(bits int) *big.Int { return new(big.Int).Lsh(big.NewInt(1), uint(bits)) }

func big64(x uint64) *big.Int { return new(big.Int).SetUint64(x) }

// bigSigned is x of so many bits, with its sign.
func bigSigned(x *big.Int, bits int) *big.Int {
	if x.Cmp(power(bits-1)) >= 0 {
		return new(big.Int).Sub(x, power(bits))
	}
	return x
}

// bigAlu reckons as the document's words say, with numbers that have no end.
func bigAlu(op int, x64 uint64, y64 uint64, bits int) uint64 {
	end := power(bits)
	x := new(big.Int).Mod(big64(x64), end)
	y := new(big.Int).Mod(big64(y64), end)
	count := uint(new(big.Int).Mod(y, big.NewInt(int64(bits))).Uint64())
	z := new(big.Int)
	switch op {
	case api.Add:
		z.Add(x, y)
	case api.Sub:
		z.Sub(x, y)
	case api.Mul:
		z.Mul(x, y)
	case api.Div:
		if y.Sign() != 0 {
			z.Quo(x, y)
		}
	case api.Mod:
		z.Set(x)
		if y.Sign() != 0 {
			z.Rem(x, y)
		}
	case api.Or:
		z.Or(x, y)
	case api.And:
		z.And(x, y)
	case api.Xor:
		z.Xor(x, y)
	case api.Lsh:
		z.Lsh(x, count)
	case api.Rsh:
		z.Rsh(x, count)
	case api.Arsh:
		z.Rsh(bigSigned(x, bits), count)
	case api.Neg:
		z.Neg(x)
	case api.Mov:
		z.Set(y)
	}
	return z.Mod(z, end).Uint64()
}

func width64or32(wide bool) int {
	if wide {
		return 64
	}
	return 32
}

func TestAluExamples(t *testing.T) {
	for _, c := range []struct {
		op   int
		x, y uint64
		wide bool
		want uint64
	}{
		{api.Add, 2, 3, true, 5},
		{api.Add, 1<<64 - 1, 2, true, 1},
		{api.Add, 1<<32 - 1, 2, true, 1<<32 + 1},
		{api.Add, 1<<32 - 1, 2, false, 1},
		{api.Sub, 2, 3, true, 1<<64 - 1},
		{api.Sub, 2, 3, false, 1<<32 - 1},
		{api.Mul, 1 << 32, 1 << 32, true, 0},
		{api.Mul, 1<<32 + 3, 5, false, 15},
		{api.Mul, 1 << 31, 2, true, 1 << 32},
		{api.Div, 7, 0, true, 0},
		{api.Div, 7, 0, false, 0},
		{api.Div, 7, 1 << 32, false, 0},
		{api.Div, 7, 1 << 32, true, 0},
		{api.Div, 1<<64 - 1, 2, true, 1<<63 - 1},
		{api.Div, 1<<64 - 1, 2, false, 1<<31 - 1},
		{api.Mod, 7, 0, true, 7},
		{api.Mod, 1<<32 + 7, 0, false, 7},
		{api.Mod, 1<<32 + 7, 1 << 32, false, 7},
		{api.Mod, 1<<64 - 1, 10, true, 5},
		{api.Or, 0xf0, 0x0f, true, 0xff},
		{api.Or, 1 << 40, 1, false, 1},
		{api.And, 0xff, 0x3c, true, 0x3c},
		{api.Xor, 0xff, 0x3c, true, 0xc3},
		{api.Lsh, 1, 63, true, 1 << 63},
		{api.Lsh, 1, 64, true, 1},
		{api.Lsh, 1, 65, true, 2},
		{api.Lsh, 1, 32, true, 1 << 32},
		{api.Lsh, 1, 31, false, 1 << 31},
		{api.Lsh, 1, 32, false, 1},
		{api.Lsh, 3, 31, false, 1 << 31},
		{api.Rsh, 1 << 63, 63, true, 1},
		{api.Rsh, 1 << 63, 127, true, 1},
		{api.Rsh, 1 << 31, 33, false, 1 << 30},
		{api.Rsh, 1 << 32, 1, false, 0},
		{api.Arsh, 1 << 63, 63, true, 1<<64 - 1},
		{api.Arsh, 1<<63 - 1, 62, true, 1},
		{api.Arsh, 1 << 31, 4, true, 1 << 27},
		{api.Arsh, 1 << 31, 4, false, 0xf8000000},
		{api.Arsh, 1<<64 - 1<<32, 4, false, 0},
		{api.Arsh, 1 << 31, 36, false, 0xf8000000},
		{api.Neg, 0, 9, true, 0},
		{api.Neg, 1, 9, true, 1<<64 - 1},
		{api.Neg, 1, 9, false, 1<<32 - 1},
		{api.Neg, 1 << 63, 0, true, 1 << 63},
		{api.Mov, 9, 1<<40 + 1, true, 1<<40 + 1},
		{api.Mov, 9, 1<<40 + 1, false, 1},
	} {
		if got, ok := Alu(c.op, c.x, c.y, c.wide); got != c.want || !ok {
			t.Errorf("Alu(%#x, %#x, %#x, %v) = %#x, %v; want %#x", c.op, c.x, c.y, c.wide, got, ok, c.want)
		}
	}
}

func TestAluAgainstNumbersWithoutEnd(t *testing.T) {
	for _, op := range operations {
		for _, x := range edges {
			for _, y := range edges {
				for _, wide := range []bool{false, true} {
					want := bigAlu(op, x, y, width64or32(wide))
					if got, ok := Alu(op, x, y, wide); got != want || !ok {
						t.Fatalf("Alu(%#x, %#x, %#x, %v) = %#x, %v; want %#x", op, x, y, wide, got, ok, want)
					}
				}
			}
		}
	}
}

// sweep are numbers around all ops that there are, and the ends of int.
func sweep() []int {
	l := []int{math.MinInt, math.MinInt + 16, -1 << 32, 1 << 32, 1<<32 + api.Mul, 1<<32 + api.Jeq, math.MaxInt - 15, math.MaxInt}
	for op := -0x200; op <= 0x400; op++ {
		l = append(l, op)
	}
	return l
}

func TestAluTakesItsOperationsAlone(t *testing.T) {
	is := map[int]bool{}
	for _, op := range operations {
		is[op] = true
	}
	for _, op := range sweep() {
		for _, wide := range []bool{false, true} {
			got, ok := Alu(op, 1<<40+9, 1<<40+4, wide)
			if ok != is[op] {
				t.Errorf("Alu(%#x): an operation: %v", op, ok)
			}
			if !ok && got != 0 {
				t.Errorf("Alu(%#x) is none, and answers %#x", op, got)
			}
		}
	}
}
