package ir_test

import (
	"slices"
	"testing"

	"clevis/api"
	"clevis/ir"
	"clevis/mem"
)

// row answers so many parts, each of which leads to the next one and makes the value of its number of the one ahead.
func row(n int) api.Ir {
	f := code(n, part(nil, on(1), num(0, 1)))
	for i := 1; i < n; i++ {
		f.Parts = append(f.Parts, part([]int{i - 1}, on(i+1), alu(i, api.Add, i-1, 0)))
	}
	f.Parts[n-1].End = back(n - 1)
	return f
}

// checks asks whether code may be, without the model, which is slow.
func checks(t *testing.T, name string, f api.Ir, want api.Errno) {
	t.Helper()
	if got := ir.Check(f); got != want {
		t.Errorf("%s: Check = %d; want %d", name, got, want)
	}
}

func TestTheMostParts(t *testing.T) {
	f := row(8192)
	checks(t, "8192 parts", f, api.OK)
	if succ := ir.Succ(f); len(succ) != 8192 || !slices.Equal(succ[8190], []int{8191}) || len(succ[8191]) > 0 {
		t.Error("Succ of 8192 parts")
	}
	m, _ := mem.Fresh(api.Layout{})
	got, e := ir.Run(api.Layout{}, f, m, nil, 1<<30)
	if want := (api.End{Kind: api.EndReturn, Value: 8192, Steps: 2 * 8192, Mem: m}); e != api.OK || !sameEnd(got, want) {
		t.Errorf("of 8192 parts: %s, %d", brief(got), e)
	}
	checks(t, "8193 parts", row(8193), api.ErrIR)
	f.Parts[8191].End.A = 0
	checks(t, "the first value in the last part", f, api.OK)
	f.Parts[0].Nodes = append(f.Parts[0].Nodes, store(1, 8191, 0, 0))
	checks(t, "the last value in the first part", f, api.ErrIR)
	// without limits of its own Succ answers of more
	if succ := ir.Succ(code(0, make([]api.Part, 1<<16)...)); len(succ) != 1<<16 {
		t.Errorf("Succ of 65536 parts has %d rows", len(succ))
	}
}

// TestTheMostValues: one part that makes them all, or phis that do.
func TestTheMostValues(t *testing.T) {
	for _, n := range []int{65536, 65537} {
		want := api.OK
		if n > 65536 {
			want = api.ErrIR
		}
		f := one(n, back(n-1), num(0, 1))
		for i := 1; i < n; i++ {
			f.Parts[0].Nodes = append(f.Parts[0].Nodes, alu(i, api.Add, i-1, 0))
		}
		checks(t, "nodes", f, want)
		g := code(n, part(nil, on(1), num(0, 1)), part([]int{0, 1}, on(1)))
		for i := 1; i < n; i++ {
			g.Parts[1].Phis = append(g.Parts[1].Phis, phi(i, 0, i-1))
		}
		checks(t, "phis", g, want)
	}
	// the last value there may be
	f := one(65536, back(65535), num(65535, 7))
	checks(t, "the last value", f, api.OK)
	f.Parts[0].Nodes[0].Id = 65536
	checks(t, "one behind it", f, api.ErrIR)
}

// TestManyNodes: stores make no value, so a part may have any number of them.
func TestManyNodes(t *testing.T) {
	n := 1 << 20
	f := one(1, back(0), append([]api.Node{to(0, api.Stack, 0)}, slices.Repeat([]api.Node{store(8, 0, 0, 0)}, n)...)...)
	checks(t, "2^20 stores", f, api.OK)
	l := api.Layout{Context: api.Area{Size: 4096}, Maps: slices.Repeat([]api.Area{{Size: 4096, Write: true}}, 8)}
	m, _ := mem.Fresh(l)
	if got, e := ir.Run(l, f, m, nil, 1<<30); e != api.OK || got.Kind != api.EndReturn || got.Steps != n+2 {
		t.Errorf("of 2^20 stores: %d, %d steps, %d", got.Kind, got.Steps, e)
	}
	f.Parts[0].Nodes[n/2].B = 1
	checks(t, "one of them wrong", f, api.ErrIR)
}

// TestManyWays: each of the first parts leads to the next one, or by one of as many others to the last one, whose phis choose by thousands of ways.
func TestManyWays(t *testing.T) {
	n := 4000
	f := code(2, part(nil, on(0), num(0, 1), num(1, 2)))
	for range 2 * n {
		f.Parts = append(f.Parts, api.Part{})
	}
	last := 2 * n
	var from []int
	for i := range n {
		p := &f.Parts[i]
		p.End = when(api.Jne, 0, 1, i+1, n+i)
		if i == n-1 {
			p.End = on(n + i)
		}
		if i > 0 {
			p.Pred = []int{i - 1}
		}
		f.Parts[n+i] = part([]int{i}, on(last))
		from = append(from, n+i)
	}
	f.Parts[last] = part(from, back(2))
	for id := 2; id < 102; id++ {
		p := &f.Parts[last]
		p.Phis = append(p.Phis, phi(id, slices.Repeat([]int{id % 2}, n)...))
	}
	f.Values = 102
	checks(t, "many ways", f, api.OK)
	m, _ := mem.Fresh(api.Layout{})
	if got, e := ir.Run(api.Layout{}, f, m, nil, 10000); e != api.OK || got.Kind != api.EndReturn || got.Value != 1 || got.Steps != 2+n+2 {
		t.Errorf("of many ways: %s, %d", brief(got), e)
	}
	f.Parts[last].Phis[99].From[n-1] = 2
	checks(t, "the last one of all From", f, api.ErrIR)
}

// TestALongLoopEndsSoon: a store in a loop is no copy of all regions, and a way back no search among all parts.
func TestALongLoopEndsSoon(t *testing.T) {
	l := api.Layout{Context: api.Area{Size: 4096, Write: true}, Maps: slices.Repeat([]api.Area{{Size: 4096, Write: true}}, 8)}
	m, _ := mem.Fresh(l)
	rounds := 1 << 20
	f := code(7,
		part(nil, on(1), context(0), num(1, 0), num(2, 1), num(3, uint64(rounds))),
		chosen(part([]int{0, 1}, when(api.Jlt, 5, 3, 1, 2), alu(5, api.Add, 4, 2), store(8, 0, 4088, 5)), phi(4, 1, 5)),
		part([]int{1}, back(6), load(6, 8, 0, 4088)))
	got, e := ir.Run(l, f, m, nil, 1<<30)
	if e != api.OK || got.Kind != api.EndReturn || got.Value != uint64(rounds) || got.Steps != 5+3*rounds+2 {
		t.Errorf("%d: %d, %d, %d steps", e, got.Kind, got.Value, got.Steps)
	}
}
