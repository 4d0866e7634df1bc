package checks_test

import (
	"math/rand/v2"

	"clevis/api"
	"clevis/legal"
	"clevis/mem"
)

// The instructions that programs are made of.

func ins(op, dst, src, off, imm int) api.Ins {
	return api.Ins{Op: op, Dst: dst, Src: src, Off: off, Imm: imm}
}

var exit = api.Ins{Op: 0x95}

func mov(d, imm int) api.Ins        { return ins(0xb7, d, 0, 0, imm) }
func moved(d, s int) api.Ins        { return ins(0xbf, d, s, 0, 0) }
func plus(d, imm int) api.Ins       { return ins(0x07, d, 0, 0, imm) }
func sum(d, s int) api.Ins          { return ins(0x0f, d, s, 0, 0) }
func low(d, imm int) api.Ins        { return ins(0x57, d, 0, 0, imm) }
func below(d, imm, off int) api.Ins { return ins(0xa5, d, 0, off, imm) }
func helped(h int) api.Ins          { return ins(0x85, 0, 0, 0, h) }

// area answers both slots of a map's address.
func area(d, i int) []api.Ins {
	return row(api.Ins{Op: api.OpWide, Dst: d, Src: 1, Imm: i, Wide: uint64(i)}, api.Ins{})
}

// row answers instructions as a list.
func row(l ...api.Ins) []api.Ins { return l }

// loads and stores are the ops of each size.
var (
	loads  = []int{0x71, 0x69, 0x61, 0x79}
	stores = []int{0x73, 0x6b, 0x63, 0x7b, 0x72, 0x6a, 0x62, 0x7a}
)

// rounds is where on the stack a program counts its rounds.
const rounds = -24

// begins answers instructions behind which there is something to do with: numbers in r0 and r2 to r5, addresses in r6 to r9.
func begins(r *rand.Rand) []api.Ins {
	p := row(moved(6, 1), moved(8, 10), plus(8, -16), ins(0x7a, 10, 0, rounds, 0), ins(0x7a, 10, 0, -8, 7), ins(0x7a, 10, 0, -16, 5))
	p = append(append(p, area(7, r.IntN(3))...), area(9, 0)...)
	for _, d := range []int{0, 2, 3, 4, 5} {
		p = append(p, some(r, row(mov(d, r.IntN(4)), ins(some(r, loads), d, 6, r.IntN(9), 0))))
	}
	return p
}

// someIns answers instructions, of which the jumps lead nowhere yet; r5 is theirs.
func someIns(r *rand.Rand) []api.Ins {
	numbers := []int{0, 2, 3, 4}
	d, s, place, off := some(r, numbers), some(r, numbers), some(r, []int{7, 8, 9, 9}), r.IntN(9)
	there := some(r, row(ins(some(r, loads), s, 5, off, 0), ins(some(r, stores), 5, s, off, 0)))
	if there.Op&7 == api.ClsSt {
		there.Src, there.Imm = 0, 9
	}
	switch r.IntN(12) {
	case 0, 1:
		return row(ins(some(r, []int{0x07, 0x27, 0x57, 0xb7, 0x04, 0x77, 0xb4}), d, 0, 0, r.IntN(4)))
	case 2:
		return row(ins(8+some(r, []int{0x07, 0x17, 0x57, 0xb7, 0x04, 0xa7}), d, s, 0, 0))
	case 3, 4:
		return row(ins(some(r, conditions)+some(r, []int{5, 5, 6}), d, 0, 0, r.IntN(12)))
	case 5:
		return row(ins(some(r, conditions)+13, d, s, 0, 0))
	case 6, 7:
		return row(ins(some(r, loads), d, some(r, []int{6, 7, 8, 9}), off, 0))
	case 8:
		return row(moved(5, place), there)
	case 9: // at an address with a bounded number
		return row(low(d, some(r, []int{3, 7, 8})), moved(5, place), sum(5, d), there)
	case 10: // one of two regions, or of two offsets
		return row(moved(5, 9), ins(some(r, conditions)+5, d, 0, 1, r.IntN(4)), some(r, row(moved(5, 8), moved(5, 7), plus(5, 8))), there)
	}
	h, first := 1+r.IntN(5), mov(1, 3)
	if h == 3 || h == 4 {
		first = moved(1, some(r, []int{8, 9}))
	}
	return row(first, mov(2, 4), mov(3, 5), helped(h), mov(2, 1), mov(3, 2), mov(4, 3))
}

// someProgram answers a program that may be, and is often accepted: its jumps lead on, but for one that may go round.
func someProgram(r *rand.Rand) []api.Ins {
	p := begins(r)
	first := len(p)
	for length := 4 + r.IntN(24); len(p) < first+length; {
		p = append(p, someIns(r)...)
	}
	body := len(p)
	if r.IntN(2) == 0 {
		p = append(p, ins(0x79, 0, 10, rounds, 0), plus(0, 1), ins(0x7b, 10, 0, rounds, 0))
		p = append(p, below(0, 2+r.IntN(6), first-len(p)-1))
	}
	p = append(p, exit)
	for i := first; i < body; i++ {
		if _, _, ok := legal.Jump(p[i].Op); ok && p[i].Off == 0 {
			p[i].Off = r.IntN(min(6, body-i))
		}
	}
	return p
}

// someMemory answers a memory of the sample in which anything stands; often the numbers are few.
func someMemory(r *rand.Rand) api.Memory {
	m, _ := mem.Fresh(sample)
	most := some(r, []int{2, 12, 256})
	for _, b := range m {
		for i := range b {
			b[i] = byte(r.IntN(most))
		}
	}
	return m
}
