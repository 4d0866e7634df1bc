package ssa_test

import (
	"bytes"
	"fmt"
	"reflect"
	"slices"
	"testing"

	"clevis/api"
	"clevis/flow"
	"clevis/interp"
	"clevis/ir"
	"clevis/legal"
	"clevis/mem"
	"clevis/ssa"
)

var exit = api.Ins{Op: 0x95}

func mov(d, imm int) api.Ins     { return api.Ins{Op: 0xb7, Dst: d, Imm: imm} }
func movReg(d, s int) api.Ins    { return api.Ins{Op: 0xbf, Dst: d, Src: s} }
func add(d, imm int) api.Ins     { return api.Ins{Op: 0x07, Dst: d, Imm: imm} }
func addReg(d, s int) api.Ins    { return api.Ins{Op: 0x0f, Dst: d, Src: s} }
func ja(off int) api.Ins         { return api.Ins{Op: 0x05, Off: off} }
func jeq(d, imm, to int) api.Ins { return api.Ins{Op: 0x15, Dst: d, Imm: imm, Off: to} }
func call(n int) api.Ins         { return api.Ins{Op: 0x85, Imm: n} }

// ldx, st and stx access eight bytes.
func ldx(d, s, off int) api.Ins  { return api.Ins{Op: 0x79, Dst: d, Src: s, Off: off} }
func st(d, off, imm int) api.Ins { return api.Ins{Op: 0x7a, Dst: d, Off: off, Imm: imm} }
func stx(d, off, s int) api.Ins  { return api.Ins{Op: 0x7b, Dst: d, Src: s, Off: off} }

// wide answers both slots of a number.
func wide(d int, x uint64) []api.Ins {
	return []api.Ins{{Op: 0x18, Dst: d, Imm: int(int32(x)), Wide: x}, {}}
}

// wideMap answers both slots of a map's address.
func wideMap(d, n int) []api.Ins {
	return []api.Ins{{Op: 0x18, Dst: d, Src: 1, Imm: n, Wide: uint64(n)}, {}}
}

// row answers a program of instructions and rows of such.
func row(parts ...any) []api.Ins {
	var p []api.Ins
	for _, x := range parts {
		switch x := x.(type) {
		case api.Ins:
			p = append(p, x)
		case []api.Ins:
			p = append(p, x...)
		}
	}
	return p
}

// sample answers a layout with regions that may be written and such that may not, and a memory of it in which no two bytes near one another are alike.
func sample() (api.Layout, api.Memory) {
	l := api.Layout{Context: api.Area{Size: 16}, Maps: []api.Area{{Size: 100, Write: true}, {Size: 70}, {Size: 9, Write: true}}}
	m, _ := mem.Fresh(l)
	for i := range m {
		for j := range m[i] {
			m[i][j] = byte(77*i + 3*j + 1)
		}
	}
	return l, m
}

func sameMemory(a, b api.Memory) bool { return slices.EqualFunc(a, b, bytes.Equal) }

func sameTold(a, b api.Told) bool {
	return a.Helper == b.Helper && slices.Equal(a.Args, b.Args) && bytes.Equal(a.Data, b.Data)
}

// build asks for a program's code, and whether it is as the promises say, whatever it does.
func build(t *testing.T, p []api.Ins) api.Ir {
	t.Helper()
	f, e := ssa.Build(p)
	if e != api.OK || ir.Check(f) != api.OK {
		t.Fatalf("Build(%v) = %v, %d; Check says %d of it", p, f, e, ir.Check(f))
	}
	blocks, _ := flow.Blocks(p)
	if n := len(f.Parts) - len(blocks); n != 0 && n != 1 {
		t.Fatalf("Build(%v) has %d parts of %d blocks", p, len(f.Parts), len(blocks))
	}
	for i, x := range f.Parts {
		if len(x.Pred) == 1 && len(x.Phis) > 0 {
			t.Fatalf("Build(%v): part %d has one Pred, and phis: %v", p, i, f)
		}
	}
	touches(t, p, f)
	return f
}

// touches asks whether code has the program's accesses and calls, and no others.
func touches(t *testing.T, p []api.Ins, f api.Ir) {
	t.Helper()
	var want, got []string
	tell := func(what api.NodeOp, at, size, off int) string {
		return fmt.Sprintf("%4d: %d of %d at %d", at, what, size, off)
	}
	for _, i := range flow.Reach(p) {
		x := p[i]
		switch {
		case x.Op == 0x85:
			want = append(want, tell(api.NodeCall, i, x.Imm, 0))
		case legal.Size(x.Op) > 0 && x.Op%8 == api.ClsLdx:
			want = append(want, tell(api.NodeLoad, i, legal.Size(x.Op), x.Off))
		case legal.Size(x.Op) > 0:
			want = append(want, tell(api.NodeStore, i, legal.Size(x.Op), x.Off))
		}
	}
	for _, part := range f.Parts {
		for _, n := range part.Nodes {
			switch n.Op {
			case api.NodeCall:
				got = append(got, tell(n.Op, n.At, int(n.Imm), 0))
			case api.NodeLoad, api.NodeStore:
				got = append(got, tell(n.Op, n.At, n.Size, n.Off))
				if !n.Guard {
					t.Fatalf("Build(%v): no guard at %v", p, n)
				}
			}
			if clean := cleaned(n); !reflect.DeepEqual(n, clean) {
				t.Fatalf("Build(%v): %v has what it should not have", p, n)
			}
		}
	}
	slices.Sort(want)
	slices.Sort(got)
	if !slices.Equal(got, want) {
		t.Fatalf("Build(%v) accesses and calls %q; want %q", p, got, want)
	}
}

// cleaned answers a node with the fields alone that one of its kind has.
func cleaned(n api.Node) api.Node {
	c := api.Node{Op: n.Op, Id: n.Id, At: n.At}
	switch n.Op {
	case api.NodeNum:
		c.Imm = n.Imm
	case api.NodeAlu:
		c.Alu, c.Wide, c.A, c.B = n.Alu, n.Wide, n.A, n.B
	case api.NodeLoad:
		c.Size, c.Off, c.Guard, c.A = n.Size, n.Off, n.Guard, n.A
	case api.NodeStore:
		c.Size, c.Off, c.Guard, c.A, c.B = n.Size, n.Off, n.Guard, n.A, n.B
	case api.NodeCall:
		c.Imm, c.Args = n.Imm, n.Args
	}
	return c
}

// does runs a program and code that was built of it, each with just the fuel it should need, and asks whether they do the same. It answers how the program ended.
func does(t *testing.T, l api.Layout, p []api.Ins, f api.Ir, m api.Memory, answers []uint64, fuel int) api.End {
	t.Helper()
	want, e := interp.Run(l, p, m, answers, fuel)
	if e != api.OK {
		t.Fatalf("%v cannot be run: %d", p, e)
	}
	kind, trap := want.Kind, api.TrapNone
	switch {
	case want.Trap == api.TrapRange || want.Trap == api.TrapPerm:
		trap = api.TrapGuard
	case want.Trap == api.TrapHelper:
		trap = api.TrapHelper
	case want.Kind != api.EndReturn: // of it nothing is said, but that it is a run
		if _, e := ir.Run(l, f, m, answers, 32+16*want.Steps); e != api.OK {
			t.Fatalf("Run of %v: %d", f, e)
		}
		return want
	}
	got, e := ir.Run(l, f, m, answers, 32+16*want.Steps)
	if e != api.OK || got.Kind != kind || got.Trap != trap || got.Value != want.Value || !slices.EqualFunc(got.Told, want.Told, sameTold) || !sameMemory(got.Mem, want.Mem) {
		t.Fatalf("%v\nends %s;\ncode %v\nends %s, %d", p, brief(want), f, brief(got), e)
	}
	return want
}

// brief tells of an end without its memory.
func brief(e api.End) string {
	return fmt.Sprintf("%d with %#x, trap %d, %d steps, told %v", e.Kind, e.Value, e.Trap, e.Steps, e.Told)
}

// runs builds a program, and asks whether it does the same on the sample. It answers how it ended.
func runs(t *testing.T, p []api.Ins, answers ...uint64) api.End {
	t.Helper()
	l, m := sample()
	return does(t, l, p, build(t, p), m, answers, 5000)
}
