package legal_test

import (
	"math"
	"testing"

	"clevis/api"
	"clevis/legal"
)

func TestInsExamples(t *testing.T) {
	for _, c := range []struct {
		x    api.Ins
		want bool
	}{
		{api.Ins{}, false},
		{api.Ins{Op: 0xb7, Imm: 5}, true},
		{api.Ins{Op: 0xb7, Dst: 9, Imm: -1 << 31}, true},
		{api.Ins{Op: 0xb7, Dst: 10, Imm: 5}, false},
		{api.Ins{Op: 0xb7, Src: 1, Imm: 5}, false},
		{api.Ins{Op: 0xb7, Off: 1, Imm: 5}, false},
		{api.Ins{Op: 0xb7, Imm: 5, Wide: 5}, false},
		{api.Ins{Op: 0xb7, Imm: 1 << 31}, false},
		{api.Ins{Op: 0xbf, Dst: 1, Src: 10}, true},
		{api.Ins{Op: 0xbf, Dst: 1, Src: 10, Imm: 1}, false},
		{api.Ins{Op: 0xbf, Dst: 1, Src: 11}, false},
		{api.Ins{Op: 0x37, Dst: 1}, true}, // by nought
		{api.Ins{Op: 0x87, Dst: 3}, true},
		{api.Ins{Op: 0x87, Dst: 3, Src: 1}, false},
		{api.Ins{Op: 0x84, Dst: 3, Imm: 1}, false},
		{api.Ins{Op: 0x8f, Dst: 3, Src: 1}, false},
		{api.Ins{Op: 0x67, Imm: 63}, true},
		{api.Ins{Op: 0x67, Imm: 64}, false},
		{api.Ins{Op: 0x77, Imm: -1}, false},
		{api.Ins{Op: 0xc4, Imm: 31}, true},
		{api.Ins{Op: 0xc4, Imm: 32}, false},
		{api.Ins{Op: 0x6f, Dst: 2, Src: 3}, true},
		{api.Ins{Op: 0x07, Imm: 64}, true},
		{api.Ins{Op: 0x15, Dst: 10, Off: -3, Imm: 7}, true},
		{api.Ins{Op: 0x15, Dst: 10, Src: 1, Off: -3, Imm: 7}, false},
		{api.Ins{Op: 0x1e, Dst: 10, Src: 10, Off: 32767}, true},
		{api.Ins{Op: 0x1e, Dst: 10, Src: 10, Off: 32768}, false},
		{api.Ins{Op: 0x1e, Src: 1, Imm: 1}, false},
		{api.Ins{Op: 0x05, Off: -1}, true},
		{api.Ins{Op: 0x05, Off: -32769}, false},
		{api.Ins{Op: 0x05, Imm: 1}, false},
		{api.Ins{Op: 0x06, Off: 1}, false},
		{api.Ins{Op: 0x85}, false},
		{api.Ins{Op: 0x85, Imm: 1}, true},
		{api.Ins{Op: 0x85, Imm: 5}, true},
		{api.Ins{Op: 0x85, Imm: 6}, false},
		{api.Ins{Op: 0x85, Imm: -1}, false},
		{api.Ins{Op: 0x85, Src: 1, Imm: 1}, false},
		{api.Ins{Op: 0x86, Imm: 1}, false},
		{api.Ins{Op: 0x95}, true},
		{api.Ins{Op: 0x95, Dst: 1}, false},
		{api.Ins{Op: 0x95, Imm: 1}, false},
		{api.Ins{Op: 0x96}, false},
		{api.Ins{Op: 0x9d}, false},
		{api.Ins{Op: 0x79, Dst: 9, Src: 10, Off: -8}, true},
		{api.Ins{Op: 0x79, Dst: 10, Src: 10, Off: -8}, false},
		{api.Ins{Op: 0x79, Dst: 9, Src: 10, Off: -8, Imm: 1}, false},
		{api.Ins{Op: 0x7a, Dst: 10, Off: -8, Imm: -1}, true},
		{api.Ins{Op: 0x7a, Dst: 10, Src: 1, Off: -8, Imm: -1}, false},
		{api.Ins{Op: 0x7b, Dst: 10, Src: 10, Off: -8}, true},
		{api.Ins{Op: 0x7b, Dst: 10, Src: 10, Off: -8, Imm: 1}, false},
		{api.Ins{Op: 0x1b7, Imm: 5}, false},
		{api.Ins{Op: -0x49, Imm: 5}, false},
	} {
		if got := legal.Ins(c.x); got != c.want {
			t.Errorf("Ins(%v) = %v", c.x, got)
		}
	}
}

func TestInsOfWideOnes(t *testing.T) {
	for _, c := range []struct {
		x    api.Ins
		want bool
	}{
		{api.Ins{Op: 0x18}, true},
		{api.Ins{Op: 0x18, Dst: 9, Imm: 5, Wide: 5}, true},
		{api.Ins{Op: 0x18, Dst: 10, Imm: 5, Wide: 5}, false},
		{api.Ins{Op: 0x18, Dst: -1, Imm: 5, Wide: 5}, false},
		{api.Ins{Op: 0x18, Imm: 5, Wide: 9<<32 + 5}, true},
		{api.Ins{Op: 0x18, Imm: -1, Wide: 1<<64 - 1}, true},
		{api.Ins{Op: 0x18, Imm: -1, Wide: 1<<32 - 1}, true},
		{api.Ins{Op: 0x18, Imm: -1 << 31, Wide: 1 << 31}, true},
		{api.Ins{Op: 0x18, Imm: 1<<31 - 1, Wide: 1<<31 - 1}, true},
		{api.Ins{Op: 0x18, Wide: 1 << 63}, true},
		{api.Ins{Op: 0x18, Imm: 5}, false},
		{api.Ins{Op: 0x18, Wide: 5}, false},
		{api.Ins{Op: 0x18, Imm: 1 << 31, Wide: 1 << 31}, false},
		{api.Ins{Op: 0x18, Imm: 1<<32 - 1, Wide: 1<<32 - 1}, false},
		{api.Ins{Op: 0x18, Imm: 1<<32 + 5, Wide: 1<<32 + 5}, false},
		{api.Ins{Op: 0x18, Off: 1, Imm: 5, Wide: 5}, false},
		{api.Ins{Op: 0x18, Off: -1, Imm: 5, Wide: 5}, false},
		{api.Ins{Op: 0x18, Src: 1}, true},
		{api.Ins{Op: 0x18, Src: 1, Imm: 7, Wide: 7}, true},
		{api.Ins{Op: 0x18, Src: 1, Imm: 8, Wide: 8}, false},
		{api.Ins{Op: 0x18, Src: 1, Imm: -1, Wide: 1<<64 - 1}, false},
		{api.Ins{Op: 0x18, Src: 1, Imm: 3, Wide: 1<<32 + 3}, false},
		{api.Ins{Op: 0x18, Src: 1, Imm: 3}, false},
		{api.Ins{Op: 0x18, Src: 1, Wide: 3}, false},
		{api.Ins{Op: 0x18, Src: 1, Off: 1, Imm: 3, Wide: 3}, false},
		{api.Ins{Op: 0x18, Src: 1, Dst: 10, Imm: 3, Wide: 3}, false},
		{api.Ins{Op: 0x18, Src: 2}, false},
		{api.Ins{Op: 0x18, Src: -1}, false},
		{api.Ins{Op: 0x18, Src: 10}, false},
		{api.Ins{Op: 0x118, Imm: 5, Wide: 5}, false},
		{api.Ins{Op: 0x10}, false},
		{api.Ins{Op: 0x08}, false},
	} {
		if got := legal.Ins(c.x); got != c.want {
			t.Errorf("Ins(%v) = %v", c.x, got)
		}
	}
}

// TestInsByItsFields: each op with numbers at the edges of each field, all with all.
func TestInsByItsFields(t *testing.T) {
	shapes := modelShapes()
	right := 0
	for _, op := range sweep() {
		for _, dst := range []int{-1, 0, 9, 10, 11} {
			for _, src := range []int{-1, 0, 1, 2, 10, 11} {
				for _, off := range []int{-32769, -32768, 0, 1, 32767, 32768} {
					for _, imm := range []int{first - 1, first, -1, 0, 1, 5, 6, 7, 8, 31, 32, 63, 64, -first - 1, -first} {
						x := api.Ins{Op: op, Dst: dst, Src: src, Off: off, Imm: imm}
						if op == 0x18 {
							x.Wide = uint64(uint32(imm))
						}
						want := modelIns(shapes, x)
						if got := legal.Ins(x); got != want {
							t.Fatalf("Ins(%v) = %v", x, got)
						}
						if want {
							right++
						}
					}
				}
			}
		}
	}
	if right < 5000 {
		t.Errorf("%d instructions that may be are too few", right)
	}
}

// far are numbers that are another one, if some of their bits are left out.
func far() []int {
	l := []int{math.MinInt, math.MaxInt}
	for _, n := range []int{0, 1, 5, 9, 10, 31} {
		for _, bits := range []int{4, 8, 16, 32, 48, 62} {
			l = append(l, n+1<<bits, n-1<<bits)
		}
	}
	return l
}

func TestInsOfFarNumbers(t *testing.T) {
	shapes := modelShapes()
	shapes[0x18] = ""
	for op := range shapes {
		for _, n := range far() {
			for _, x := range []api.Ins{{Dst: n}, {Src: n}, {Off: n}, {Imm: n}, {Wide: uint64(n)}, {Imm: n, Wide: uint64(n)}, {Src: 1, Imm: n, Wide: uint64(n)}} {
				x.Op = op
				if op == 0x85 && x.Imm == 0 {
					x.Imm = 1
				}
				if got, want := legal.Ins(x), modelIns(shapes, x); got != want {
					t.Fatalf("Ins(%v) = %v", x, got)
				}
			}
		}
	}
}

// TestInsOfWide: what has one slot has no Wide, not even Imm's own.
func TestInsOfWide(t *testing.T) {
	for op := range modelShapes() {
		for _, wide := range []uint64{1, 5, 7, 1 << 32, 1 << 63, 1<<64 - 1} {
			for _, imm := range []int{0, 1, 5, int(int32(wide))} {
				if x := (api.Ins{Op: op, Imm: imm, Wide: wide}); legal.Ins(x) {
					t.Fatalf("%v may be", x)
				}
			}
		}
	}
}
