package interp_test

import (
	"bytes"
	"encoding/binary"
	"math/big"
	"reflect"

	"clevis/api"
)

// The model says once more what the chapter says, by other means: bytes, what may be written and what is set stand in maps by address, registers in a map by number, and is reckoned with numbers that have no end.

type model struct {
	bytes   map[uint64]byte
	open    map[uint64]bool // may be written
	unset   map[uint64]bool // bytes of the stack
	regs    map[int]uint64
	answers []uint64
	told    []api.Told
	at      int
}

const stackAt = 2 << 32

// modelAreas are the regions from 1 on.
func modelAreas(l api.Layout) []api.Area {
	return append([]api.Area{l.Context, {Size: 512, Write: true}}, l.Maps...)
}

func modelBegin(l api.Layout, m api.Memory, answers []uint64) *model {
	s := &model{
		bytes: map[uint64]byte{}, open: map[uint64]bool{}, unset: map[uint64]bool{},
		regs:    map[int]uint64{1: 1 << 32, 10: stackAt + 512},
		answers: answers,
	}
	for i, area := range modelAreas(l) {
		for j := range area.Size {
			a := uint64(i+1)<<32 + uint64(j)
			s.bytes[a], s.open[a] = m[i][j], area.Write
			if i == 1 {
				s.unset[a] = true
			}
		}
	}
	return s
}

func (s *model) memory(l api.Layout) api.Memory {
	var m api.Memory
	for i, area := range modelAreas(l) {
		b := []byte{}
		for j := range area.Size {
			b = append(b, s.bytes[uint64(i+1)<<32+uint64(j)])
		}
		m = append(m, b)
	}
	return m
}

// modelRun is of programs and memories that may be.
func modelRun(l api.Layout, p []api.Ins, m api.Memory, answers []uint64, fuel int) api.End {
	s := modelBegin(l, m, answers)
	e := api.End{Kind: 3}
	for e.Kind == 3 && e.Steps < fuel {
		e.Steps++
		before := s.at
		trap := s.step(p[s.at])
		switch {
		case trap != 0:
			e.Kind, e.Trap, s.at = 2, trap, before
		case p[before].Op == 0x95:
			e.Kind, e.Value = 1, s.regs[0]
		}
	}
	e.At, e.Told, e.Mem = s.at, s.told, s.memory(l)
	return e
}

// lacks tells whether one of some registers is not set.
func (s *model) lacks(regs ...int) bool {
	for _, r := range regs {
		if _, ok := s.regs[r]; !ok {
			return true
		}
	}
	return false
}

// step does an instruction, and answers why it traps.
func (s *model) step(x api.Ins) api.TrapKind {
	switch {
	case x.Op == 0x95:
		if s.lacks(0) {
			return 3
		}
		return 0
	case x.Op == 0x85:
		s.at++
		return s.call(x.Imm)
	case x.Op == 0x05:
		s.at += 1 + x.Off
		return 0
	case x.Op == 0x18:
		s.at += 2
		s.regs[x.Dst] = x.Wide
		if x.Src == 1 {
			s.regs[x.Dst] = uint64(3+x.Imm) * (1 << 32)
		}
		return 0
	}
	s.at++
	switch x.Op % 8 {
	case 4:
		return s.alu(x, 32)
	case 7:
		return s.alu(x, 64)
	case 5:
		return s.jump(x, 64)
	case 6:
		return s.jump(x, 32)
	}
	return s.access(x, map[int]int{0x60: 4, 0x68: 2, 0x70: 1, 0x78: 8}[x.Op&0xf8])
}

// second is the second operand of Alu and Jump, from 0 below 2^bits.
func (s *model) second(x api.Ins, bits int) *big.Int {
	y := big.NewInt(int64(x.Imm))
	if x.Op&8 != 0 {
		y = unsigned(s.regs[x.Src])
	}
	return modulo(y, bits)
}

func unsigned(x uint64) *big.Int { return new(big.Int).SetUint64(x) }

func modulo(x *big.Int, bits int) *big.Int {
	return new(big.Int).Mod(x, new(big.Int).Lsh(big.NewInt(1), uint(bits)))
}

func withSign(x *big.Int, bits int) *big.Int {
	if x.Bit(bits-1) == 0 {
		return x
	}
	return new(big.Int).Sub(x, new(big.Int).Lsh(big.NewInt(1), uint(bits)))
}

func (s *model) alu(x api.Ins, bits int) api.TrapKind {
	operation := x.Op / 16
	if operation != 11 && s.lacks(x.Dst) || x.Op&8 != 0 && s.lacks(x.Src) {
		return 3
	}
	a, b := modulo(unsigned(s.regs[x.Dst]), bits), s.second(x, bits)
	n := uint(b.Uint64() % uint64(bits))
	z := new(big.Int)
	switch operation {
	case 0:
		z.Add(a, b)
	case 1:
		z.Sub(a, b)
	case 2:
		z.Mul(a, b)
	case 3:
		if b.Sign() != 0 {
			z.Div(a, b)
		}
	case 4:
		z.Or(a, b)
	case 5:
		z.And(a, b)
	case 6:
		z.Lsh(a, n)
	case 7:
		z.Rsh(a, n)
	case 8:
		z.Neg(a)
	case 9:
		z.Set(a)
		if b.Sign() != 0 {
			z.Mod(a, b)
		}
	case 10:
		z.Xor(a, b)
	case 11:
		z.Set(b)
	case 12:
		z.Rsh(withSign(a, bits), n)
	}
	s.regs[x.Dst] = modulo(z, bits).Uint64()
	return 0
}

func (s *model) jump(x api.Ins, bits int) api.TrapKind {
	if s.lacks(x.Dst) || x.Op&8 != 0 && s.lacks(x.Src) {
		return 3
	}
	a, b := modulo(unsigned(s.regs[x.Dst]), bits), s.second(x, bits)
	plain, signs := a.Cmp(b), withSign(a, bits).Cmp(withSign(b, bits))
	holds := map[int]bool{
		1: plain == 0, 2: plain > 0, 3: plain >= 0, 4: new(big.Int).And(a, b).Sign() != 0, 5: plain != 0,
		6: signs > 0, 7: signs >= 0, 10: plain < 0, 11: plain <= 0, 12: signs < 0, 13: signs <= 0,
	}
	if holds[x.Op/16] {
		s.at += x.Off
	}
	return 0
}

// row answers the addresses of n bytes, whether all are there, and whether all may be written.
func (s *model) row(a uint64, n int) ([]uint64, bool, bool) {
	var l []uint64
	there, open := true, true
	for i := range n {
		b := a + uint64(i)
		_, ok := s.bytes[b]
		l, there, open = append(l, b), there && ok, open && s.open[b]
	}
	return l, there, open
}

func (s *model) anyUnset(l []uint64) bool {
	for _, a := range l {
		if s.unset[a] {
			return true
		}
	}
	return false
}

func (s *model) get(l []uint64) []byte {
	var b []byte
	for _, a := range l {
		b = append(b, s.bytes[a])
	}
	return b
}

func (s *model) set(l []uint64, b []byte) {
	for i, a := range l {
		s.bytes[a] = b[i%8]
		delete(s.unset, a)
	}
}

func eight(x uint64) []byte { return binary.LittleEndian.AppendUint64(nil, x) }

func (s *model) access(x api.Ins, n int) api.TrapKind {
	base, value := x.Dst, uint64(x.Imm)
	switch x.Op % 8 {
	case 1:
		base = x.Src
	case 3:
		value = s.regs[x.Src]
	}
	if s.lacks(base) || x.Op%8 == 3 && s.lacks(x.Src) {
		return 3
	}
	l, there, open := s.row(s.regs[base]+uint64(x.Off), n)
	switch {
	case !there:
		return 1
	case x.Op%8 == 1 && s.anyUnset(l):
		return 4
	case x.Op%8 == 1:
		b := append(s.get(l), make([]byte, 8)...)
		s.regs[x.Dst] = binary.LittleEndian.Uint64(b)
		return 0
	case !open:
		return 2
	}
	s.set(l, eight(value))
	return 0
}

func (s *model) call(n int) api.TrapKind {
	count := []int{0, 0, 1, 2, 2, 3}[n]
	told := api.Told{Helper: n}
	for r := 1; r <= count; r++ {
		if s.lacks(r) {
			return 3
		}
		told.Args = append(told.Args, s.regs[r])
	}
	x := uint64(0)
	if len(s.answers) > 0 {
		x = s.answers[0]
	}
	switch n {
	case 3, 4:
		l, there, open := s.row(s.regs[1], int(min(s.regs[2], 65)))
		if !there || len(l) < 1 || len(l) > 64 || n == 4 && !open {
			return 5
		}
		if n == 3 && s.anyUnset(l) {
			return 4
		}
		if n == 3 {
			told.Data = s.get(l)
		} else {
			s.set(l, eight(x))
		}
		told.Args[0] = 0
	case 5:
		for i, factor := range []uint64{1, 3, 5} {
			x += factor * s.regs[1+i]
		}
	}
	if len(s.answers) > 0 {
		s.answers = s.answers[1:]
	}
	for r := range 6 {
		delete(s.regs, r)
	}
	s.regs[0], s.told = x, append(s.told, told)
	return 0
}

func clone(m api.Memory) api.Memory {
	var c api.Memory
	for _, b := range m {
		c = append(c, bytes.Clone(b))
	}
	return c
}

func sameMemory(a, b api.Memory) bool {
	if len(a) != len(b) {
		return false
	}
	for i := range a {
		if !bytes.Equal(a[i], b[i]) {
			return false
		}
	}
	return true
}

func sameList[T any](a, b []T) bool {
	return len(a) == len(b) && (len(a) == 0 || reflect.DeepEqual(a, b))
}

// begins tells whether what is told in a is a beginning of what is told in b.
func begins(a, b []api.Told) bool {
	if len(a) > len(b) {
		return false
	}
	for i, x := range a {
		y := b[i]
		if x.Helper != y.Helper || !sameList(x.Args, y.Args) || !sameList(x.Data, y.Data) {
			return false
		}
	}
	return true
}

func sameEnd(a, b api.End) bool {
	return a.Kind == b.Kind && a.Value == b.Value && a.Trap == b.Trap && a.At == b.At && a.Steps == b.Steps &&
		begins(a.Told, b.Told) && begins(b.Told, a.Told) && sameMemory(a.Mem, b.Mem)
}
