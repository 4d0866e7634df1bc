package ssa_test

import (
	"slices"
	"testing"

	"clevis/api"
	"clevis/legal"
)

// jset leads so far on, if a number has a bit in common with r9.
func jset(imm, off int) api.Ins { return api.Ins{Op: 0x45, Dst: 9, Imm: imm, Off: off} }

// ends asks of a large program how it ends, with fuel enough.
func ends(t *testing.T, name string, p []api.Ins) api.End {
	t.Helper()
	if at, e := legal.Check(p); e != api.OK || len(p) > api.MaxSlots {
		t.Fatalf("%s may not be: %d at %d of %d", name, e, at, len(p))
	}
	l, m := sample()
	e := does(t, l, p, build(t, p), m, nil, 1<<20)
	if e.Kind != api.EndReturn {
		t.Errorf("%s: %s", name, brief(e))
	}
	return e
}

func TestALongBlock(t *testing.T) {
	p := row(mov(0, 0), slices.Repeat(row(add(0, 1)), api.MaxSlots-2), exit)
	if e := ends(t, "one block", p); e.Value != api.MaxSlots-2 {
		t.Error(brief(e))
	}
	if f := build(t, p); len(f.Parts) != 1 || f.Values > 2*api.MaxSlots+3 {
		t.Errorf("%d parts, %d values", len(f.Parts), f.Values)
	}
	ends(t, "stores", row(slices.Repeat(row(st(10, -8, 1)), api.MaxSlots-2), mov(0, 0), exit))
	ends(t, "wide ones", slices.Concat(slices.Repeat(wide(0, 1<<40), api.MaxSlots/2-1), row(mov(3, 1), exit)))
}

// TestManyBlocks: as many as there are slots, and as deep as that one must have come through the others.
func TestManyBlocks(t *testing.T) {
	p := row(mov(0, 5), slices.Repeat(row(ja(0)), api.MaxSlots-2), exit)
	ends(t, "a row", p)
	if f := build(t, p); len(f.Parts) != api.MaxSlots-1 {
		t.Errorf("%d parts", len(f.Parts))
	}
	p = row(slices.Repeat(row(ja(0)), api.MaxSlots-1), ja(-api.MaxSlots))
	if f := build(t, p); len(f.Parts) < api.MaxSlots {
		t.Errorf("%d parts", len(f.Parts))
	}
}

// TestManyWaysToOnePart: a phi chooses of thousands.
func TestManyWaysToOnePart(t *testing.T) {
	p := row(mov(0, 5), wide(9, 1<<30))
	for range 2000 {
		p = append(p, add(0, 1), api.Ins{})
	}
	for i := range p {
		if i > 2 && p[i] == (api.Ins{}) {
			p[i] = jset(1, len(p)-i-1)
		}
	}
	p[3+2*1500+1].Imm = 1 << 30
	if e := ends(t, "ways out", append(p, exit)); e.Value != 5+1501 {
		t.Error(brief(e))
	}
}

// ladder leads from each jump to the next one and the one behind that, and enters it in two states: so each part has a phi of each register.
func ladder() []api.Ins {
	var set, other []api.Ins
	for d := range 9 {
		set, other = append(set, mov(d, d)), append(other, mov(d, 100+d))
	}
	p := row(set, wide(9, 0x5a5a5a5a5a5a5a5a), jset(2, 11), other, api.Ins{Op: 0x77, Dst: 9, Imm: 1})
	p = append(p, jset(1, 1))
	for len(p) < api.MaxSlots-1-len(keep()) {
		p = append(p, jset(1<<(len(p)%31), 1))
	}
	return append(append(p, ja(0)), keep()...)
}

// TestTheMostPhis: of no program there are more values than layer 16 takes.
func TestTheMostPhis(t *testing.T) {
	p := ladder()
	ends(t, "a ladder", p)
	f := build(t, p)
	phis := 0
	for _, x := range f.Parts {
		phis += len(x.Phis)
	}
	if phis < 10*4000 || f.Values < 44000 {
		t.Errorf("%d phis, %d values", phis, f.Values)
	}
}

// TestLoopsInLoops: each in the one ahead, as many as there may be.
func TestLoopsInLoops(t *testing.T) {
	n := 2000
	p := row(mov(0, 0), mov(3, 0), mov(4, 0), mov(5, 0), wide(9, 1<<20), slices.Repeat(row(add(0, 1), add(3, 0), add(4, 1), add(5, 1)), n/4))
	for i := range n {
		p = append(p, jset(1, -2*i-2))
	}
	p[len(p)-1].Imm = 1 << 30
	if e := ends(t, "loops", append(p, exit)); e.Value != uint64(n/4) {
		t.Error(brief(e))
	}
	// round each of some of them, by what is counted
	p = row(mov(0, 0), mov(3, 0))
	for range 8 {
		p = append(p, add(0, 1))
	}
	for i := range 8 {
		p = append(p, add(3, 1), api.Ins{Op: 0x45, Dst: 3, Imm: 1 << i, Off: -3*i - 3})
	}
	ends(t, "rounds", append(p, exit))
}
