package astep_test

import (
	"encoding/binary"
	"math/rand"
	"slices"
	"testing"

	"clevis/api"
	"clevis/astep"
	"clevis/bound"
	"clevis/interp"
	"clevis/mem"
	"clevis/state"
)

// real is what a run holds ahead of an instruction: registers, but for r10, and the stack.
type real struct {
	regs  [10]uint64
	isSet [10]bool
	stack [512]byte
	set   [512]bool
}

// realBy answers what some run holds, in which r0 is set wherever a call unset r1.
func realBy(chance *rand.Rand) *real {
	r := &real{}
	for i := range r.regs {
		r.isSet[i] = chance.Intn(8) > 0
		if r.regs[i] = some(chance); chance.Intn(2) == 0 {
			region := pick(chance, []int{1, 2, 2, 2, 3, 4, 5})
			r.regs[i] = mem.Address(region, offset(chance, region))
		}
	}
	r.isSet[0] = r.isSet[0] || !r.isSet[1]
	low := chance.Intn(513)
	high := min(512, low+chance.Intn(100))
	for i := low; i < high; i++ {
		r.set[i] = chance.Intn(100) > 0
	}
	for i := low &^ 7; i+8 <= high; i += 8 {
		binary.LittleEndian.PutUint64(r.stack[i:], r.regs[chance.Intn(10)])
	}
	for i := range r.stack {
		if !r.set[i] {
			r.stack[i] = 0 // nothing is stored there
		}
	}
	return r
}

// setUp answers instructions by which a run comes to hold that; of calls one answer is used up, if there is one.
func (r *real) setUp() ([]api.Ins, int) {
	var p []api.Ins
	steps := 0
	for i, is := range r.set {
		if is {
			p = append(p, ins(0x72, 10, 0, i-512, int(r.stack[i])))
		}
	}
	steps += len(p)
	if !r.isSet[1] {
		p = append(p, call(1))
		steps++
	}
	for i, is := range r.isSet {
		if is {
			p = append(p, wide(i, r.regs[i]), api.Ins{})
			steps++
		}
	}
	return p, steps
}

// knownOf answers something that is known of a number, or nothing.
func knownOf(chance *rand.Rand, x uint64) api.Known {
	region, off := mem.Split(x)
	if 1 <= region && region <= 5 && chance.Intn(8) > 0 {
		return place(region, boundOf(chance, uint64(off)))
	}
	switch chance.Intn(12) {
	case 0:
		return unset
	case 1:
		region := 1 + chance.Intn(10)
		return place(region, boundOf(chance, x-uint64(region)<<32))
	}
	return number(boundOf(chance, x))
}

// abs answers a state that holds of it.
func (r *real) abs(chance *rand.Rand) api.Abs {
	s := having(regs{10: top})
	for i, is := range r.isSet {
		if is {
			s.Regs[i] = knownOf(chance, r.regs[i])
		}
	}
	for i, is := range r.set {
		s.Set[i] = is && chance.Intn(200) > 0
	}
	for i := range s.Saved {
		if !slices.Contains(s.Set[8*i:8*i+8], false) && chance.Intn(4) > 0 {
			s.Saved[i] = knownOf(chance, binary.LittleEndian.Uint64(r.stack[8*i:]))
		}
	}
	return s
}

// suits makes what a run holds such that an instruction seldom traps.
func (r *real) suits(chance *rand.Rand, x api.Ins) {
	base := 1
	switch {
	case x.Op == 0x85:
		r.isSet[1], r.isSet[2], r.isSet[3] = true, true, true
		if r.regs[2] = uint64(1 + chance.Intn(9)); x.Imm != 3 && x.Imm != 4 {
			r.regs[1], r.regs[3] = some(chance)>>40, some(chance)>>40
			return
		}
	case x.Op%8 == 1:
		base = x.Src
	case x.Op%8 == 2, x.Op%8 == 3:
		base = x.Dst
	default:
		return
	}
	if base < 10 {
		region := pick(chance, []int{1, 2, 2, 2, 3, 4, 5})
		r.isSet[base], r.regs[base] = true, mem.Address(region, offset(chance, region)-x.Off)
	}
}

// trial is an instruction that a run does, behind what sets it up.
type trial struct {
	t     *testing.T
	m     api.Memory
	first []api.Ins
	steps int // up to and with the instruction
	x     api.Ins
}

// run runs the trial, with something behind it wherever it goes on, and answers how it ends, and whether that is where the branch leads.
func (r trial) run(fuel int, behind ...api.Ins) (api.End, bool) {
	p, x := slices.Clone(r.first), r.x
	isJump := x.Op%8 == 5 && x.Op != 0x85 && x.Op != 0x95 || x.Op%8 == 6
	if isJump {
		x.Off = len(behind)
	}
	if p = append(p, x); x.Op == 0x18 {
		p = append(p, api.Ins{})
	}
	target := len(p) + len(behind)
	p = append(append(p, behind...), behind...)
	e, code := interp.Run(sample, p, r.m, []uint64{0x1122334455667788, 0x99aabbccddeeff00, 3}, fuel)
	if code != api.OK {
		r.t.Fatalf("Run(%v): %d", p, code)
	}
	return e, isJump && e.At >= target
}

// holds asks whether what is known behind the instruction is what the run holds.
func (r trial) holds(s api.Abs, before api.Abs) {
	r.t.Helper()
	e, _ := r.run(r.steps, exit)
	for i, k := range s.Saved {
		if !state.Holds(k, binary.LittleEndian.Uint64(e.Mem[1][8*i:])) {
			r.t.Fatalf("%v: at %d there is %x, not %v", r.x, 8*i, e.Mem[1][8*i:8*i+8], k)
		}
	}
	for i, k := range s.Regs {
		if k.Kind == api.Unset {
			continue
		}
		if e, _ := r.run(1<<20, ins(0xbf, 0, i, 0, 0), exit); e.Kind != api.EndReturn || !state.Holds(k, e.Value) {
			r.t.Fatalf("%v: r%d is %#x (%d, %d), not %v; ahead of it %v", r.x, i, e.Value, e.Kind, e.Trap, k, before.Regs)
		}
	}
	loads := []api.Ins{}
	for i, is := range s.Set {
		if is && (!before.Set[i] || i%16 == 0) {
			loads = append(loads, ins(0x71, 0, 10, i-512, 0))
		}
	}
	if e, _ := r.run(1<<20, append(loads, mov(0, 0), exit)...); e.Kind != api.EndReturn {
		r.t.Fatalf("%v: trap %d, though all bytes were said to be set: %s", r.x, e.Trap, change(before, s))
	}
}

// TestWhatIsKnownHoldsBehindTheStep does an instruction in a run of which a state holds: if it may be done without harm, it does not trap, and where the run goes on, what is known there holds of it.
func TestWhatIsKnownHoldsBehindTheStep(t *testing.T) {
	chance := rand.New(rand.NewSource(14))
	m := memory()
	done := map[int]int{}
	for range 12000 {
		r, x := realBy(chance), insBy(chance)
		if chance.Intn(4) > 0 {
			r.suits(chance, x)
		}
		s := r.abs(chance)
		first, steps := r.setUp()
		run := trial{t, m, first, steps + 1, x}
		if x.Op == 0x05 || x.Op == 0x85 && !r.isSet[1] {
			continue
		}
		ways, f, e := astep.Step(sample, around(x), here, s)
		if e != api.OK {
			continue
		}
		end, taken := run.run(run.steps, exit)
		if end.Kind == api.EndTrap {
			t.Fatalf("Step(%v) of %v: no harm, but trap %d", x, s.Regs, end.Trap)
		}
		done[x.Op&7]++
		r.isAt(t, x, f)
		if x.Op == 0x95 {
			continue
		}
		w := way(ways, x, taken)
		if w == nil {
			t.Fatalf("Step(%v) of %v = %s; the run takes the target: %v", x, s.Regs, brief(ways, s), taken)
		}
		run.holds(w.Abs, s)
	}
	for class, n := range done {
		if n < 150 {
			t.Errorf("only %d of class %d were done", n, class)
		}
	}
	if len(done) != 8 {
		t.Errorf("not all classes were done: %v", done)
	}
}

// isAt asks whether the fact is where the access is.
func (r *real) isAt(t *testing.T, x api.Ins, f api.Fact) {
	t.Helper()
	isAccess := 1 <= x.Op%8 && x.Op%8 <= 3
	if f.Seen != isAccess {
		t.Fatalf("%v: %v", x, f)
	}
	base := x.Dst
	if x.Op%8 == 1 {
		base = x.Src
	}
	if !isAccess || base == 10 {
		return
	}
	region, off := mem.Split(r.regs[base] + uint64(x.Off))
	if f.Region != region || int64(off) < f.Low || int64(off) > f.High {
		t.Fatalf("%v: %v; it is at %d of region %d", x, f, off, region)
	}
}

// way answers that one of the ways which a run takes.
func way(l []api.Next, x api.Ins, taken bool) *api.Next {
	at := here + 1
	if x.Op == 0x18 {
		at++
	}
	if taken {
		at += x.Off
	}
	for i := range l { // of two ways to the same place the target is the last one
		if l[i].At == at && (x.Off != 0 || !taken || i == len(l)-1) {
			return &l[i]
		}
	}
	return nil
}

// memory is one of the sample, in which no two bytes near one another are alike.
func memory() api.Memory {
	m, _ := mem.Fresh(sample)
	for i := range m {
		for j := range m[i] {
			m[i][j] = byte(77*i + 3*j + 1)
		}
	}
	return m
}

// TestAWayIsFollowed goes along with runs, from the beginning on: as long as no step may do harm, none traps, and one of the ways is the run's.
func TestAWayIsFollowed(t *testing.T) {
	chance := rand.New(rand.NewSource(15))
	m := memory()
	steps, ended := 0, 0
	for range 3000 {
		p := programBy(chance)
		s, at := state.Begin(), 0
		for done := range 60 {
			ways, _, e := astep.Step(sample, p, at, s)
			if e != api.OK {
				break
			}
			end, _ := interp.Run(sample, p, m, nil, done+1)
			if end.Kind == api.EndTrap {
				t.Fatalf("%v at %d of %v: no harm, but trap %d", s.Regs, at, p, end.Trap)
			}
			steps++
			if end.Kind == api.EndReturn {
				ended++
				break
			}
			i := slices.IndexFunc(ways, func(w api.Next) bool { return w.At == end.At })
			if i < 0 {
				t.Fatalf("%v at %d of %v = %s; the run goes on at %d", s.Regs, at, p, brief(ways, s), end.At)
			}
			for j, k := range ways[i].Abs.Saved {
				if !state.Holds(k, binary.LittleEndian.Uint64(end.Mem[1][8*j:])) {
					t.Fatalf("%v: at %d there is %x, not %v", p, 8*j, end.Mem[1][8*j:8*j+8], k)
				}
			}
			s, at = ways[i].Abs, end.At
		}
	}
	if steps < 10000 || ended < 100 {
		t.Errorf("only %d steps, %d runs that returned", steps, ended)
	}
}

// programBy answers a program that begins without harm; jumps lead on by one instruction, so that two ways meet.
func programBy(chance *rand.Rand) []api.Ins {
	p := []api.Ins{wideMap(6, 0), {}, wideMap(8, 2), {}, ins(0xbf, 7, 10, 0, 0), ins(0x07, 7, 0, 0, -16), mov(0, 3), mov(2, 4), mov(3, 5), mov(4, 6), mov(5, 7)}
	for i := range 8 {
		p = append(p, ins(0x7a, 10, 0, -8*(i+1), i))
	}
	for range 24 {
		x := insBy(chance)
		switch {
		case x == exit, x.Op == 0x18, x.Op == 0x05:
			continue
		case 1 <= x.Op&7 && x.Op&7 <= 3:
			x = nearAccess(chance, x)
		case x.Op == 0x85:
			p = append(p, ins(0xbf, 1, pick(chance, []int{7, 8}), 0, 0), mov(2, 1+chance.Intn(9)), mov(3, 7))
			if x.Imm != 3 && x.Imm != 4 {
				p = append(p, mov(1, 9))
			}
			p = append(p, x, mov(2, 4), mov(3, 5), mov(4, 6), mov(5, 7))
			continue
		case x.Op&7 == 5 || x.Op&7 == 6:
			x.Off = 1
			fallthrough
		default:
			x.Dst, x.Src = pick(chance, []int{0, 2, 3, 4, 5}), pick(chance, []int{0, 2, 3, 4, 5, 5, 5, 7, 10})
			if x.Op&8 == 0 {
				x.Src = 0
			}
		}
		p = append(p, x)
	}
	return append(p, mov(0, 1), exit, exit)
}

// nearAccess makes an access one of those that lie in the program's regions.
func nearAccess(chance *rand.Rand, x api.Ins) api.Ins {
	base, off := pick(chance, []int{6, 7, 8, 10}), chance.Intn(12)
	if base == 10 {
		off = -8 * (1 + chance.Intn(8))
	}
	x.Off = off
	if x.Op&7 == 1 {
		x.Dst, x.Src = pick(chance, []int{0, 2, 3, 4, 5}), base
		return x
	}
	if x.Dst = base; x.Op&7 == 3 {
		x.Src = pick(chance, []int{0, 2, 3, 4, 5, 6, 7, 10})
	}
	return x
}

func TestBoundOf(t *testing.T) {
	chance := rand.New(rand.NewSource(16))
	for range 20000 {
		x := some(chance)
		if b := boundOf(chance, x); !bound.Check(b) || !bound.In(b, x) {
			t.Fatalf("%#x is not in %v", x, b)
		}
	}
}
