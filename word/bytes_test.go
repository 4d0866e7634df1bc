package word

import (
	"bytes"
	"math"
	"testing"
)

// sizes are numbers of bytes, most of them no Size.
var sizes = []int{math.MinInt, -8, -4, -1, 0, 1, 2, 3, 4, 5, 6, 7, 8, 9, 15, 16, 32, 64, 1 << 32, 1<<32 + 1, math.MaxInt}

func isSize(n int) bool { return n == 1 || n == 2 || n == 4 || n == 8 }

func TestSize(t *testing.T) {
	for _, n := range sizes {
		if Size(n) != isSize(n) {
			t.Errorf("Size(%d) = %v", n, Size(n))
		}
	}
}

func TestSign(t *testing.T) {
	for _, c := range []struct {
		n    uint64
		size int
		want uint64
	}{
		{0, 1, 0},
		{0x7f, 1, 0x7f},
		{0x80, 1, 1<<64 - 0x80},
		{0xff, 1, 1<<64 - 1},
		{0x1234567f, 1, 0x7f},
		{0x12345680, 1, 1<<64 - 0x80},
		{0x7fff, 2, 0x7fff},
		{0x8000, 2, 1<<64 - 0x8000},
		{0xabcd7fff, 2, 0x7fff},
		{0x7fffffff, 4, 0x7fffffff},
		{0x80000000, 4, 1<<64 - 1<<31},
		{0xffffffff00000001, 4, 1},
		{1 << 63, 8, 1 << 63},
		{0x0123456789abcdef, 8, 0x0123456789abcdef},
		{1<<64 - 1, 8, 1<<64 - 1},
	} {
		if got := Sign(c.n, c.size); got != c.want {
			t.Errorf("Sign(%#x, %d) = %#x; want %#x", c.n, c.size, got, c.want)
		}
	}
	for _, size := range sizes {
		for _, n := range edges {
			if got := Sign(n, size); !isSize(size) && got != n {
				t.Errorf("Sign(%#x, %d) = %#x; it is no size", n, size, got)
			}
		}
	}
}

func TestImm(t *testing.T) {
	for _, c := range []struct {
		n            int
		wide, narrow uint64
	}{
		{0, 0, 0},
		{5, 5, 5},
		{-1, 1<<64 - 1, 1<<32 - 1},
		{-2, 1<<64 - 2, 1<<32 - 2},
		{1<<31 - 1, 1<<31 - 1, 1<<31 - 1},
		{1 << 31, 1<<64 - 1<<31, 1 << 31},
		{-1 << 31, 1<<64 - 1<<31, 1 << 31},
		{-1<<31 - 1, 1<<31 - 1, 1<<31 - 1},
		{1<<32 - 1, 1<<64 - 1, 1<<32 - 1},
		{1 << 32, 0, 0},
		{1<<32 + 7, 7, 7},
		{math.MaxInt, 1<<64 - 1, 1<<32 - 1},
		{math.MinInt, 0, 0},
	} {
		if got := Imm(c.n, true); got != c.wide {
			t.Errorf("Imm(%d, true) = %#x; want %#x", c.n, got, c.wide)
		}
		if got := Imm(c.n, false); got != c.narrow {
			t.Errorf("Imm(%d, false) = %#x; want %#x", c.n, got, c.narrow)
		}
	}
}

func TestGet(t *testing.T) {
	for _, c := range []struct {
		b    []byte
		want uint64
	}{
		{nil, 0},
		{[]byte{}, 0},
		{[]byte{7}, 7},
		{[]byte{1, 2}, 0x0201},
		{[]byte{1, 2, 3}, 0x030201},
		{[]byte{1, 2, 3, 4, 5, 6, 7}, 0x07060504030201},
		{[]byte{1, 2, 3, 4, 5, 6, 7, 0x88}, 0x8807060504030201},
		{[]byte{1, 2, 3, 4, 5, 6, 7, 0x88, 9, 10}, 0x8807060504030201},
		{[]byte{1, 2, 3}[:1], 1},
		{bytes.Repeat([]byte{255}, 100), 1<<64 - 1},
	} {
		before := bytes.Clone(c.b)
		if got := Get(c.b); got != c.want {
			t.Errorf("Get(%v) = %#x; want %#x", c.b, got, c.want)
		}
		if !bytes.Equal(c.b, before) {
			t.Errorf("Get changed %v to %v", before, c.b)
		}
	}
}

func TestPut(t *testing.T) {
	const x = 0x8807060504030201
	for _, size := range sizes {
		var want []byte
		if isSize(size) {
			want = []byte{1, 2, 3, 4, 5, 6, 7, 0x88}[:size]
		}
		if got := Put(x, size); !bytes.Equal(got, want) {
			t.Errorf("Put(%#x, %d) = %v; want %v", uint64(x), size, got, want)
		}
	}
}

func TestPutAnswersNewMemory(t *testing.T) {
	one, other := Put(1, 8), Put(1, 8)
	one[0] = 9
	if other[0] != 1 || Put(1, 8)[0] != 1 {
		t.Error("two answers share their bytes")
	}
}

func TestGetOfPut(t *testing.T) {
	for _, x := range edges {
		for _, size := range []int{1, 2, 4, 8} {
			want := x
			if size < 8 {
				want = x % (1 << (8 * size))
			}
			if got := Get(Put(x, size)); got != want {
				t.Errorf("Get(Put(%#x, %d)) = %#x; want %#x", x, size, got, want)
			}
		}
	}
}
