package legal_test

import (
	"math"
	"slices"
	"testing"

	"clevis/api"
	"clevis/legal"
)

// found is what Alu and Jump answer.
type found struct {
	operation int
	wide      bool
	ok        bool
}

func alu(op int) found {
	operation, wide, ok := legal.Alu(op)
	return found{operation, wide, ok}
}

func jump(op int) found {
	cond, wide, ok := legal.Jump(op)
	return found{cond, wide, ok}
}

func TestAluExamples(t *testing.T) {
	for op, want := range map[int]found{
		0x04: {api.Add, false, true}, 0x07: {api.Add, true, true}, 0x0c: {api.Add, false, true}, 0x0f: {api.Add, true, true},
		0x17: {api.Sub, true, true}, 0x2f: {api.Mul, true, true}, 0x34: {api.Div, false, true}, 0x4c: {api.Or, false, true},
		0x57: {api.And, true, true}, 0x64: {api.Lsh, false, true}, 0x7f: {api.Rsh, true, true}, 0x97: {api.Mod, true, true},
		0xac: {api.Xor, false, true}, 0xb7: {api.Mov, true, true}, 0xbf: {api.Mov, true, true}, 0xb4: {api.Mov, false, true},
		0xc7: {api.Arsh, true, true}, 0xcc: {api.Arsh, false, true}, 0xcf: {api.Arsh, true, true},
		0x84: {api.Neg, false, true}, 0x87: {api.Neg, true, true}, 0x8c: {}, 0x8f: {},
		0xd4: {}, 0xd7: {}, 0xdc: {}, 0xdf: {}, 0xe7: {}, 0xf7: {}, 0xff: {},
		0x00: {}, 0x05: {}, 0x06: {}, 0x18: {}, 0x1d: {}, 0x61: {}, 0x62: {}, 0x63: {}, 0x85: {}, 0x95: {}, 0xb5: {},
		0x107: {}, 0x1b7: {}, 0xb7 - 0x100: {}, -9: {}, 1<<32 + 0xb7: {}, math.MaxInt: {}, math.MinInt + 7: {},
	} {
		if got := alu(op); got != want {
			t.Errorf("Alu(%#x) = %v; want %v", op, got, want)
		}
	}
}

func TestJumpExamples(t *testing.T) {
	for op, want := range map[int]found{
		0x15: {api.Jeq, true, true}, 0x16: {api.Jeq, false, true}, 0x1d: {api.Jeq, true, true}, 0x1e: {api.Jeq, false, true},
		0x25: {api.Jgt, true, true}, 0x36: {api.Jge, false, true}, 0x4d: {api.Jset, true, true}, 0x5e: {api.Jne, false, true},
		0x65: {api.Jsgt, true, true}, 0x7e: {api.Jsge, false, true}, 0xa5: {api.Jlt, true, true}, 0xad: {api.Jlt, true, true},
		0xb6: {api.Jle, false, true}, 0xc5: {api.Jslt, true, true}, 0xde: {api.Jsle, false, true}, 0xd5: {api.Jsle, true, true},
		0x05: {}, 0x06: {}, 0x0d: {}, 0x0e: {}, 0x85: {}, 0x86: {}, 0x8d: {}, 0x8e: {}, 0x95: {}, 0x96: {}, 0x9d: {}, 0x9e: {},
		0xe5: {}, 0xe6: {}, 0xed: {}, 0xf5: {}, 0xfe: {},
		0x00: {}, 0x10: {}, 0x14: {}, 0x17: {}, 0x18: {}, 0x1c: {}, 0x1f: {}, 0x61: {}, 0xb7: {},
		0x115: {}, 0x15 - 0x100: {}, -11: {}, 1<<32 + 0x15: {}, math.MaxInt - 1: {}, math.MinInt + 5: {},
	} {
		if got := jump(op); got != want {
			t.Errorf("Jump(%#x) = %v; want %v", op, got, want)
		}
	}
}

func TestSizeExamples(t *testing.T) {
	for op, want := range map[int]int{
		0x61: 4, 0x62: 4, 0x63: 4, 0x69: 2, 0x6a: 2, 0x6b: 2, 0x71: 1, 0x72: 1, 0x73: 1, 0x79: 8, 0x7a: 8, 0x7b: 8,
		0x60: 0, 0x64: 0, 0x68: 0, 0x6c: 0, 0x70: 0, 0x74: 0, 0x78: 0, 0x7c: 0, 0x01: 0, 0x02: 0, 0x03: 0, 0x18: 0, 0x59: 0,
		0x81: 0, 0xe1: 0, 0xdb: 0, 0x161: 0, 0x61 - 0x100: 0, 1<<32 + 0x61: 0, -1: 0, math.MaxInt: 0, math.MinInt: 0,
	} {
		if got := legal.Size(op); got != want {
			t.Errorf("Size(%#x) = %d; want %d", op, got, want)
		}
	}
}

// TestEachOp: what all three answer of each op, and of numbers that are none.
func TestEachOp(t *testing.T) {
	alus, jumps, sizes := 0, 0, 0
	for _, op := range sweep() {
		var a, j found
		high, isByte := op/16*16, 0 <= op && op < 256
		reckons := slices.Contains(plain, high) || slices.Contains(shifts, high) || high == 0x80 && op%16 < 8
		if isByte && (op%8 == 4 || op%8 == 7) && reckons {
			a = found{high, op%8 == 7, true}
			alus++
		}
		if isByte && (op%8 == 5 || op%8 == 6) && slices.Contains(conditions, high) {
			j = found{high, op%8 == 5, true}
			jumps++
		}
		size := 0
		if op >= 0x61 && op <= 0x7b && op%8 >= 1 && op%8 <= 3 {
			size = []int{4, 2, 1, 8}[(op-0x60)/8]
			sizes++
		}
		if alu(op) != a || jump(op) != j || legal.Size(op) != size {
			t.Errorf("op %#x: %v, %v, %d; want %v, %v, %d", op, alu(op), jump(op), legal.Size(op), a, j, size)
		}
	}
	if alus != 50 || jumps != 44 || sizes != 12 {
		t.Errorf("%d operations, %d conditions, %d accesses", alus, jumps, sizes)
	}
}
