package astep_test

import (
	"math/big"

	"clevis/api"
	"clevis/arith"
	"clevis/bound"
	"clevis/branch"
	"clevis/code"
	"clevis/legal"
	"clevis/mem"
	"clevis/state"
	"clevis/word"
)

// The model says the chapter's words once more: by the hexadecimal digits of an op, by numbers without end, byte by byte, and by the calls of the layers that the chapter names.

// model is an instruction that is done: what is known behind it, and whether it may do harm.
type model struct {
	l     api.Layout
	x     api.Ins
	s     api.Abs // ahead of it
	after api.Abs
	fact  api.Fact
	harm  bool
}

func modelStep(l api.Layout, p []api.Ins, at int, s api.Abs) ([]api.Next, api.Fact, api.Errno) {
	if mem.Check(l) != api.OK || at < 0 || at >= len(p) || code.Hole(p, at) || !legal.Ins(p[at]) || !state.Check(s) {
		return nil, api.Fact{}, api.ErrArg
	}
	m := &model{l: l, x: p[at], s: s, after: with(s, func(*api.Abs) {})}
	target := at + 1 + p[at].Off
	var ways []api.Next
	switch op := p[at].Op; {
	case op == 0x05:
		ways = []api.Next{{At: target, Abs: m.after}}
	case op == 0x95:
		m.harm = s.Regs[0].Kind == 0
	case op%8 == 5 && op != 0x85 || op%8 == 6:
		ways = m.jump(at+1, target)
	case op == 0x18:
		m.wide()
		ways = []api.Next{{At: at + 2, Abs: m.after}}
	default:
		m.one()
		ways = []api.Next{{At: at + 1, Abs: m.after}}
	}
	if m.harm {
		return nil, api.Fact{}, api.ErrUnsafe
	}
	return ways, m.fact, api.OK
}

func (m *model) one() {
	switch {
	case m.x.Op == 0x85:
		m.call()
	case m.x.Op%8 == 1:
		m.load()
	case m.x.Op%8 == 2 || m.x.Op%8 == 3:
		m.store()
	default:
		m.alu()
	}
}

func (m *model) operand(wide bool) api.Known {
	switch {
	case m.x.Op/8%2 == 1:
		return m.s.Regs[m.x.Src]
	case wide:
		return api.Known{Kind: 1, Num: bound.Const(uint64(int64(m.x.Imm)))}
	}
	return api.Known{Kind: 1, Num: bound.Const(uint64(uint32(m.x.Imm)))}
}

func (m *model) alu() {
	op, wide := m.x.Op/16*16, m.x.Op%8 == 7
	a, b := m.s.Regs[m.x.Dst], m.operand(wide)
	if b.Kind == 0 || a.Kind == 0 && op != 0xb0 {
		m.harm = true
		return
	}
	r := &m.after.Regs[m.x.Dst]
	if wide && op == 0xb0 {
		*r = b
		return
	}
	if a.Kind == 2 && b.Kind == 1 && wide && (op == 0 || op == 0x10) {
		r.Num, _ = arith.Alu(op, a.Num, b.Num, true)
		return
	}
	if a.Kind == 1 && b.Kind == 2 && wide && op == 0 {
		*r = b
		r.Num, _ = arith.Alu(op, a.Num, b.Num, true)
		return
	}
	for _, k := range []*api.Known{&a, &b} {
		if k.Kind == 2 {
			k.Num = bound.Any()
		}
	}
	*r = api.Known{Kind: 1}
	r.Num, _ = arith.Alu(op, a.Num, b.Num, wide)
}

func (m *model) jump(next, target int) []api.Next {
	cond, wide, byReg := m.x.Op/16*16, m.x.Op%8 == 5, m.x.Op/8%2 == 1
	a, b := m.s.Regs[m.x.Dst], m.operand(wide)
	if m.harm = a.Kind == 0 || b.Kind == 0; m.harm {
		return nil
	}
	ways := []api.Next{{At: next}, {At: target}}
	var left []api.Next
	for i, w := range ways {
		w.Abs = with(m.s, func(*api.Abs) {})
		x, y, can := a.Num, b.Num, true
		if a.Kind == 1 && b.Kind == 1 {
			x, y, can = branch.Refine(cond, a.Num, b.Num, wide, i == 1)
		}
		if !byReg || m.x.Dst != m.x.Src {
			w.Abs.Regs[m.x.Dst].Num = x
		}
		if byReg && m.x.Dst != m.x.Src {
			w.Abs.Regs[m.x.Src].Num = y
		}
		if can {
			left = append(left, w)
		}
	}
	return left
}

func (m *model) wide() {
	k := api.Known{Kind: 1, Num: bound.Const(m.x.Wide)}
	if m.x.Src == 1 {
		k = api.Known{Kind: 2, Num: bound.Const(0), Region: 3 + m.x.Imm}
		m.harm = m.x.Imm >= len(m.l.Maps)
	}
	m.after.Regs[m.x.Dst] = k
}

// access tells whether n bytes may be accessed, and from where to where they begin.
func (m *model) access(k api.Known, off, n int, write bool) (int, int, bool) {
	areas := append([]api.Area{{}, m.l.Context, {Size: 512, Write: true}}, m.l.Maps...)
	if k.Kind != 2 || k.Region >= len(areas) {
		return 0, 0, false
	}
	area, far := areas[k.Region], new(big.Int).Lsh(big.NewInt(1), 40)
	for _, end := range []int64{k.Num.Smin, k.Num.Smax} {
		if new(big.Int).Abs(big.NewInt(end)).Cmp(far) > 0 {
			return 0, 0, false
		}
		first := new(big.Int).Add(big.NewInt(end), big.NewInt(int64(off)))
		last := new(big.Int).Add(first, big.NewInt(int64(n-1)))
		if first.Sign() < 0 || last.Cmp(big.NewInt(int64(area.Size))) >= 0 {
			return 0, 0, false
		}
	}
	return int(k.Num.Smin) + off, int(k.Num.Smax) + off, area.Write || !write
}

func (m *model) load() {
	bytes := map[int]int{0x61: 4, 0x69: 2, 0x71: 1, 0x79: 8}[m.x.Op]
	base := m.s.Regs[m.x.Src]
	low, high, may := m.access(base, m.x.Off, bytes, false)
	if m.harm = !may; m.harm {
		return
	}
	k := api.Known{Kind: 1, Num: bound.Size(bytes)}
	if base.Region == 2 {
		saved, ok := state.Load(m.s, low, high, bytes)
		k, m.harm = saved, !ok
	}
	m.after.Regs[m.x.Dst] = k
	m.fact = api.Fact{Seen: true, Region: base.Region, Low: int64(low), High: int64(high)}
}

func (m *model) store() {
	bytes := map[int]int{0x62: 4, 0x6a: 2, 0x72: 1, 0x7a: 8, 0x63: 4, 0x6b: 2, 0x73: 1, 0x7b: 8}[m.x.Op]
	base := m.s.Regs[m.x.Dst]
	k := api.Known{Kind: 1, Num: bound.Const(word.Imm(m.x.Imm, true))}
	if m.x.Op%8 == 3 {
		k = m.s.Regs[m.x.Src]
	}
	low, high, may := m.access(base, m.x.Off, bytes, true)
	if m.harm = !may || k.Kind == 0; m.harm {
		return
	}
	if base.Region == 2 {
		m.after = state.Store(m.s, low, high, bytes, k)
	}
	m.fact = api.Fact{Seen: true, Region: base.Region, Low: int64(low), High: int64(high)}
}

func (m *model) call() {
	switch m.x.Imm {
	case 5:
		m.harm = m.s.Regs[1].Kind != 1 || m.s.Regs[2].Kind != 1 || m.s.Regs[3].Kind != 1
	case 2:
		m.harm = m.s.Regs[1].Kind != 1
	case 3, 4:
		m.hand(m.x.Imm == 4)
	}
	for r := range 6 {
		m.after.Regs[r] = api.Known{}
	}
	m.after.Regs[0] = api.Known{Kind: 1, Num: bound.Any()}
}

// hand hands over the address in r1, and the size in r2.
func (m *model) hand(write bool) {
	base, size := m.s.Regs[1], m.s.Regs[2]
	if m.harm = size.Kind != 1 || size.Num.Umin == 0 || size.Num.Umax > 64; m.harm {
		return
	}
	lowest, greatest := int(size.Num.Umin), int(size.Num.Umax)
	low, high, may := m.access(base, 0, greatest, write)
	if m.harm = !may; m.harm || base.Region != 2 {
		return
	}
	for i := low; i < high+greatest; i++ {
		if write {
			m.after.Saved[i/8] = api.Known{}
			m.after.Set[i] = m.s.Set[i] || low == high && i < low+lowest
		} else if !m.s.Set[i] {
			m.harm = true
		}
	}
}
