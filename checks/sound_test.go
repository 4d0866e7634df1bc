package checks_test

import (
	"slices"
	"testing"

	"clevis/api"
	"clevis/checks"
	"clevis/dead"
	"clevis/fold"
	"clevis/interp"
	"clevis/ir"
	"clevis/legal"
	"clevis/mem"
	"clevis/ssa"
	"clevis/verify"
)

// looked answers what the verifier says of a program, with a budget that is small, so that many can be looked at.
func looked(p []api.Ins) api.Verdict { return verify.Verify(sample, p, 2000) }

// frees answers code that was built of a program that is accepted, and that code freed by what the verifier said.
func frees(t *testing.T, p []api.Ins, v api.Verdict) (api.Ir, api.Ir, int) {
	t.Helper()
	f, e := ssa.Build(p)
	if v.Code != api.OK || e != api.OK {
		t.Fatalf("%v: %v, %d", p, v, e)
	}
	g, n, e := checks.Free(sample, f, v.Facts)
	if e != api.OK {
		t.Fatalf("Free(%v, %v): %d", f, v.Facts, e)
	}
	return f, g, n
}

// TestALoop: rounds with an access at a bounded place of a map, and what a helper writes to the stack: no guard stays.
func TestALoop(t *testing.T) {
	p := slices.Concat(area(6, 0),
		row(mov(7, 0), moved(1, 10), plus(1, -16), mov(2, 16), helped(4)),
		row(ins(0x79, 2, 10, -8, 0), low(2, 31), moved(3, 6), sum(3, 2), ins(0x7b, 3, 7, 1, 0), plus(7, 1), below(7, 10, -7)),
		row(ins(0x79, 0, 3, 1, 0), exit))
	v := looked(p)
	f, g, n := frees(t, p, v)
	if n != 3 || guards(f) != 3 || guards(g) != 0 {
		t.Errorf("of %d guards %d go, %d stay: %v", guards(f), n, guards(g), v.Facts)
	}
	if v.Facts[14] != (seen(3, 1, 32)) {
		t.Errorf("at 14: %v", v.Facts[14])
	}
	for _, x := range []uint64{0, 1, 7, 8, 31, 32, 1<<64 - 1} {
		end := runs(t, g, fresh(), []uint64{x}, 1000)
		if end.Kind != api.EndReturn || end.Value != 9 || len(end.Told) != 1 || end.Mem[2][1+x%32] != 9 {
			t.Errorf("with %d it ends %s", x, brief(end))
		}
	}
}

// TestGuardsThatStay: of accesses that lie now in one region, now in another; and of those that the verifier knows that nobody comes to.
func TestGuardsThatStay(t *testing.T) {
	two := slices.Concat(area(6, 0), row(ins(0x71, 2, 1, 0, 0), ins(0x15, 2, 0, 1, 0), moved(6, 1), ins(0x71, 0, 6, 3, 0), ins(0x71, 3, 1, 15, 0), exit))
	v := looked(two)
	f, g, n := frees(t, two, v)
	if n != 2 || guards(f) != 3 || v.Facts[5] != seen(0, 3, 3) || !sameCode(g, guardAt(f, 5)) {
		t.Errorf("two regions: %d go, %v: %v", n, v.Facts, g)
	}
	for x, region := range map[byte]int{0: 3, 5: 1} {
		m := fresh()
		m[0][0] = x
		if end, want := runs(t, g, m, nil, 100), uint64(m[region-1][3]); end.Kind != api.EndReturn || end.Value != want {
			t.Errorf("two regions: with %d it ends %s; want %d", x, brief(end), want)
		}
	}
	never := row(mov(0, 3), ins(0x25, 0, 0, 1, 2), ins(0x79, 0, 10, 8, 0), ins(0x71, 3, 1, 15, 0), exit)
	v = looked(never)
	f, g, n = frees(t, never, v)
	if n != 1 || guards(f) != 2 || v.Facts[2] != (api.Fact{}) || !sameCode(g, guardAt(f, 2)) {
		t.Errorf("nobody comes there: %d go, %v: %v", n, v.Facts, g)
	}
	if end := runs(t, g, fresh(), nil, 100); end.Kind != api.EndReturn || end.Value != 3 {
		t.Errorf("nobody comes there: it ends %s", brief(end))
	}
}

// guardAt answers code in which accesses of one instruction alone have a guard.
func guardAt(f api.Ir, at int) api.Ir {
	f = copied(f)
	for _, p := range f.Parts {
		for i, n := range p.Nodes {
			p.Nodes[i].Guard = n.Guard && n.At == at
		}
	}
	return f
}

// TestRefusedPrograms have no facts, so all their guards stay.
func TestRefusedPrograms(t *testing.T) {
	p := row(ins(0x79, 0, 1, 0, 0), ins(0x79, 0, 1, 9, 0), exit)
	v := looked(p)
	f, _ := ssa.Build(p)
	if v.Code != api.ErrUnsafe || v.At != 1 || guards(f) != 2 {
		t.Fatalf("%v, %v", v, f)
	}
	stays(t, "refused", sample, f, v.Facts)
	if end := runs(t, f, fresh(), nil, 100); end.Trap != api.TrapGuard {
		t.Errorf("it ends %s", brief(end))
	}
}

// work counts what came about with programs that were accepted.
type work struct{ accepted, round, calls, gone, two, never int }

// TestWhatIsAccepted and freed by its own facts never traps, and does what the program does.
func TestWhatIsAccepted(t *testing.T) {
	r := chance()
	w := &work{}
	for range 3000 {
		p := someProgram(r)
		if _, e := legal.Check(p); e != api.OK {
			t.Fatalf("%v may not be: %d", p, e)
		}
		v := looked(p)
		if v.Code != api.OK {
			continue
		}
		f, g, n := frees(t, p, v)
		w.accepted++
		w.gone += n
		w.stay(t, g, v)
		if guards(f) != n+guards(g) {
			t.Fatalf("of %d guards %d went, %d stay: %v", guards(f), n, guards(g), p)
		}
		if want, count := modelFree(sample, f, v.Facts); !sameCode(g, want) || n != count {
			t.Fatalf("Free(%v, %v) = %v, %d; want %v, %d", f, v.Facts, g, n, want, count)
		}
		for range 3 {
			m, answers := someMemory(r), someAnswers(r)
			end, _ := interp.Run(sample, p, m, answers, v.Visits)
			fuel := 32 + 16*end.Steps
			if got, built := runs(t, g, m, answers, fuel), runs(t, f, m, answers, fuel); !sameEnd(got, built) || !like(got, end) {
				t.Fatalf("%v\nends %s,\nits code %s,\nfreed %s", p, brief(end), brief(built), brief(got))
			}
			for i, h := range made(t, f, v.Facts) {
				if got := runs(t, h, m, answers, fuel); !like(got, end) {
					t.Fatalf("%v\nends %s,\nmade %d %v\n%s", p, brief(end), i, h, brief(got))
				}
			}
			w.calls += len(end.Told)
			if end.Steps > len(p) {
				w.round++
			}
		}
	}
	if w.accepted < 1500 || w.round < 500 || w.calls < 1000 || w.gone < 10000 || w.two < 100 || w.never < 100 {
		t.Errorf("too few: %+v", w)
	}
}

// stay asks which guards stay: those of facts of several regions, and of what the verifier knows that nobody comes to.
func (w *work) stay(t *testing.T, g api.Ir, v api.Verdict) {
	t.Helper()
	for _, p := range g.Parts {
		for _, n := range p.Nodes {
			if n.Op != api.NodeLoad && n.Op != api.NodeStore {
				continue
			}
			f := v.Facts[n.At]
			if n.Guard != (f.Region == 0) {
				t.Fatalf("%v, by %v", n, f)
			}
			switch {
			case !f.Seen:
				w.never++
			case n.Guard:
				w.two++
			}
		}
	}
}

// like tells whether code returned as the program did.
func like(got, end api.End) bool {
	return end.Kind == api.EndReturn && got.Kind == api.EndReturn && got.Value == end.Value && slices.EqualFunc(got.Told, end.Told, sameTold) && sameMemory(got.Mem, end.Mem)
}

// made answers code that is freed and made less by the layers below, in several orders.
func made(t *testing.T, f api.Ir, facts []api.Fact) []api.Ir {
	t.Helper()
	do := func(code api.Ir, e api.Errno) api.Ir {
		if e != api.OK {
			t.Fatalf("%v: %d", f, e)
		}
		return code
	}
	free := func(code api.Ir) api.Ir {
		g, _, e := checks.Free(sample, code, facts)
		return do(g, e)
	}
	folded := do(fold.Fold(f))
	return []api.Ir{free(folded), free(do(dead.Dead(folded))), do(dead.Dead(free(folded))), do(dead.Dead(do(fold.Fold(free(f)))))}
}

// TestOtherLayouts: what the facts of one layout do not prove of another one stays checked there.
func TestOtherLayouts(t *testing.T) {
	p := slices.Concat(area(6, 0), row(ins(0x71, 0, 6, 39, 0), ins(0x71, 0, 6, 38, 0), exit))
	v := looked(p)
	f, g, n := frees(t, p, v)
	if n != 2 || guards(g) != 0 {
		t.Fatalf("%v: %d go", v.Facts, n)
	}
	less := api.Layout{Context: sample.Context, Maps: []api.Area{{Size: 39}}}
	becomes(t, "a map that is shorter", less, f, v.Facts, guardAt(f, 2), 1)
	m, _ := mem.Fresh(less)
	h, _, _ := checks.Free(less, f, v.Facts)
	if end, e := ir.Run(less, h, m, nil, 100); e != api.OK || end.Trap != api.TrapGuard || end.At != 2 {
		t.Errorf("a map that is shorter: it ends %s, %d", brief(end), e)
	}
}
