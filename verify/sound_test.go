package verify_test

import (
	"math/rand"
	"slices"
	"testing"

	"clevis/api"
	"clevis/helper"
	"clevis/interp"
	"clevis/legal"
	"clevis/mem"
	"clevis/verify"
	"clevis/word"
)

// memoryBy answers a memory of the sample in which anything stands; often the numbers are few.
func memoryBy(chance *rand.Rand) api.Memory {
	m, _ := mem.Fresh(sample)
	most := pick(chance, []int{2, 12, 256})
	for _, b := range m {
		for i := range b {
			b[i] = byte(chance.Intn(most))
		}
	}
	return m
}

func answersBy(chance *rand.Rand) []uint64 {
	l := make([]uint64, chance.Intn(6))
	for i := range l {
		l[i] = chance.Uint64() >> chance.Intn(64)
	}
	return l
}

// run is one of a program that does no harm, without any check, of which is asked where its accesses lie.
type run struct {
	p       []api.Ins
	m       api.Memory
	answers []uint64
	at      int
	regs    [11]uint64
}

// step does an instruction, and answers the address that it accesses, if it does.
func (r *run) step() (uint64, bool) {
	x := r.p[r.at]
	y := word.Imm(x.Imm, x.Op%8 == 7 || x.Op%8 == 5)
	if x.Op&8 != 0 {
		y = r.regs[x.Src]
	}
	next := legal.Succ(r.p, r.at)
	r.at = next[0]
	n := legal.Size(x.Op)
	switch {
	case n > 0 && x.Op%8 == 1:
		a := r.regs[x.Src] + uint64(x.Off)
		r.regs[x.Dst], _ = mem.Load(sample, r.m, a, n)
		return a, true
	case n > 0:
		a, y := r.regs[x.Dst]+uint64(x.Off), word.Imm(x.Imm, true)
		if x.Op%8 == 3 {
			y = r.regs[x.Src]
		}
		r.m, _ = mem.Store(sample, r.m, a, n, y)
		return a, true
	case x.Op == 0x85:
		r.call(x.Imm)
	case x.Op == 0x18 && x.Src == 1:
		r.regs[x.Dst] = mem.Address(3+x.Imm, 0)
	case x.Op == 0x18:
		r.regs[x.Dst] = x.Wide
	case len(next) == 2:
		if holds, _ := word.Cond(x.Op&^15, r.regs[x.Dst], y, x.Op%8 == 5); holds {
			r.at = next[1]
		}
	case x.Op != 0x05:
		r.regs[x.Dst], _ = word.Alu(x.Op&^15, r.regs[x.Dst], y, x.Op%8 == 7)
	}
	return 0, false
}

func (r *run) call(n int) {
	h, _ := helper.Table(n)
	r.regs[0], r.m, _, _ = helper.Do(sample, r.m, n, r.regs[1:1+len(h.Args)], r.answers)
	if len(r.answers) > 0 {
		r.answers = r.answers[1:]
	}
}

// TestWhatIsAccepted never traps, returns within Visits steps, and its accesses lie where the facts say.
func TestWhatIsAccepted(t *testing.T) {
	chance := rand.New(rand.NewSource(16))
	accepted, looped, accesses, helped := 0, 0, 0, 0
	for i := range 3000 {
		p := programBy(chance, 1+chance.Intn(30))
		if i%6 == 0 {
			p = roundsBy(chance)
		}
		v := verify.Verify(sample, p, 2000)
		if v.Code != api.OK {
			continue
		}
		accepted++
		for range 4 {
			m, answers := memoryBy(chance), answersBy(chance)
			end, e := interp.Run(sample, p, m, answers, v.Visits)
			if e != api.OK || end.Kind != api.EndReturn || end.Steps > v.Visits {
				t.Fatalf("Run(%v) = %v, %d; accepted: %v", p, end, e, v)
			}
			if end.Steps > len(p) {
				looped++
			}
			helped += len(end.Told)
			accesses += facts(t, v, &run{p: p, m: m, answers: answers}, end)
		}
	}
	if accepted < 1000 || looped < 200 || accesses < 20000 || helped < 1000 {
		t.Errorf("only %d were accepted, %d went round, with %d accesses, %d calls", accepted, looped, accesses, helped)
	}
}

// facts goes along with a run that has ended, and answers how many accesses it had.
func facts(t *testing.T, v api.Verdict, r *run, end api.End) int {
	t.Helper()
	accesses := 0
	r.regs[1], r.regs[10] = mem.Address(1, 0), mem.Address(2, 512)
	for range end.Steps - 1 {
		at := r.at
		a, is := r.step()
		if !is {
			continue
		}
		accesses++
		f := v.Facts[at]
		region, off := mem.Split(a)
		if !f.Seen || f.Region != 0 && f.Region != region || int64(off) < f.Low || int64(off) > f.High {
			t.Fatalf("%v at %d: at %d of region %d, not %v", r.p, at, off, region, f)
		}
	}
	if r.at != end.At || r.regs[0] != end.Value || !slices.EqualFunc(r.m, end.Mem, slices.Equal) {
		t.Fatalf("%v: at %d with %#x; the run ended at %d with %#x", r.p, r.at, r.regs[0], end.At, end.Value)
	}
	for at, f := range v.Facts {
		if f.Seen != (f != api.Fact{}) || f.Seen && legal.Size(r.p[at].Op) == 0 {
			t.Fatalf("%v at %d: a fact %v", r.p, at, f)
		}
	}
	return accesses
}
