package dead_test

import (
	"bytes"
	"fmt"
	"reflect"
	"slices"
	"testing"

	"clevis/api"
	"clevis/dead"
	"clevis/ir"
	"clevis/mem"
)

// The nodes; what stands in none of their fields is nought.

func num(id int, x uint64) api.Node { return api.Node{Op: api.NodeNum, Id: id, Imm: x} }

func context(id int) api.Node { return api.Node{Op: api.NodeContext, Id: id} }

func frame(id int) api.Node { return api.Node{Op: api.NodeFrame, Id: id} }

func alu(id, op, a, b int) api.Node {
	return api.Node{Op: api.NodeAlu, Id: id, Alu: op, Wide: true, A: a, B: b}
}

func add(id, a, b int) api.Node { return alu(id, api.Add, a, b) }

// load and store access eight bytes, without a guard.
func load(id, a, off int) api.Node {
	return api.Node{Op: api.NodeLoad, Id: id, Size: 8, A: a, Off: off}
}

func store(a, off, b int) api.Node {
	return api.Node{Op: api.NodeStore, Id: -1, Size: 8, A: a, Off: off, B: b}
}

// guarded answers an access that is checked.
func guarded(n api.Node) api.Node {
	n.Guard = true
	return n
}

func call(id, helper int, args ...int) api.Node {
	return api.Node{Op: api.NodeCall, Id: id, Imm: uint64(helper), Args: args}
}

// now makes a value by a helper that takes nothing.
func now(id int) api.Node { return call(id, 1) }

// from answers a node of an instruction.
func from(at int, n api.Node) api.Node {
	n.At = at
	return n
}

// The ends.

func on(to int) api.Term { return api.Term{Op: api.TermGo, To: to} }

func when(cond, a, b, to, otherwise int) api.Term {
	return api.Term{Op: api.TermIf, Cond: cond, Wide: true, A: a, B: b, To: to, Else: otherwise}
}

func back(a int) api.Term { return api.Term{Op: api.TermReturn, A: a} }

func phi(id int, from ...int) api.Phi { return api.Phi{Id: id, From: from} }

func phis(l ...api.Phi) []api.Phi { return l }

// part answers a part without phis.
func part(pred []int, end api.Term, nodes ...api.Node) api.Part {
	return api.Part{Pred: pred, Nodes: nodes, End: end}
}

// chosen answers a part with phis.
func chosen(pred []int, l []api.Phi, end api.Term, nodes ...api.Node) api.Part {
	return api.Part{Pred: pred, Phis: l, Nodes: nodes, End: end}
}

func code(values int, parts ...api.Part) api.Ir { return api.Ir{Parts: parts, Values: values} }

// one answers code of one part.
func one(values int, end api.Term, nodes ...api.Node) api.Ir {
	return code(values, part(nil, end, nodes...))
}

// copied answers code that shares nothing with what is handed in, and in which no list is empty, but nil.
func copied(f api.Ir) api.Ir {
	list := func(l []int) []int { return append([]int(nil), l...) }
	g := api.Ir{Values: f.Values}
	for _, p := range f.Parts {
		q := api.Part{Pred: list(p.Pred), End: p.End}
		for _, x := range p.Phis {
			q.Phis = append(q.Phis, api.Phi{Id: x.Id, From: list(x.From)})
		}
		for _, n := range p.Nodes {
			n.Args = list(n.Args)
			q.Nodes = append(q.Nodes, n)
		}
		g.Parts = append(g.Parts, q)
	}
	return g
}

// sameCode compares code; of lists that are empty one may be nil.
func sameCode(f, g api.Ir) bool { return reflect.DeepEqual(copied(f), copied(g)) }

// sample answers a layout with regions that may be written and such that may not, and a memory of it in which no two bytes near one another are alike.
func sample() (api.Layout, api.Memory) {
	l := api.Layout{Context: api.Area{Size: 16}, Maps: []api.Area{{Size: 100, Write: true}, {Size: 70}, {Size: 9, Write: true}}}
	m, _ := mem.Fresh(l)
	for i := range m {
		for j := range m[i] {
			m[i][j] = byte(77*i + 3*j + 1)
		}
	}
	return l, m
}

func sameMemory(a, b api.Memory) bool { return slices.EqualFunc(a, b, bytes.Equal) }

func sameTold(a, b api.Told) bool {
	return a.Helper == b.Helper && slices.Equal(a.Args, b.Args) && bytes.Equal(a.Data, b.Data)
}

// sameRun tells whether a run that has ended did the same as another one, in no more steps. A trap is of the same node; an End that returns tells of the node ahead of it, which may be another one.
func sameRun(a, b api.End) bool {
	return a.Kind == b.Kind && a.Trap == b.Trap && a.Value == b.Value && (a.Kind != api.EndTrap || a.At == b.At) && a.Steps <= b.Steps &&
		slices.EqualFunc(a.Told, b.Told, sameTold) && sameMemory(a.Mem, b.Mem)
}

// begins tells whether what was told begins as something.
func begins(with, told []api.Told) bool {
	return len(with) <= len(told) && slices.EqualFunc(with, told[:len(with)], sameTold)
}

// brief tells of an end without its memory.
func brief(e api.End) string {
	return fmt.Sprintf("%d with %#x, trap %d at %d, %d steps, told %v", e.Kind, e.Value, e.Trap, e.At, e.Steps, e.Told)
}

// needs asks which of code's values are needed.
func needs(t *testing.T, name string, f api.Ir, want ...int) {
	t.Helper()
	if e := ir.Check(f); e != api.OK {
		t.Fatalf("%s: %v may not be", name, f)
	}
	all := make([]bool, f.Values)
	for _, id := range want {
		all[id] = true
	}
	if got := dead.Needed(f); !slices.Equal(got, all) {
		t.Errorf("%s: Needed(%v) = %v; want %v", name, f, got, all)
	}
}

// becomes asks what code is without what nobody needs.
func becomes(t *testing.T, name string, f, want api.Ir) {
	t.Helper()
	got, e := dead.Dead(f)
	if e != api.OK || !sameCode(got, want) {
		t.Errorf("%s: Dead(%v)\n= %v, %d;\nwant %v", name, f, got, e, want)
	}
	if ir.Check(got) != api.OK {
		t.Errorf("%s: Dead(%v) = %v, which may not be", name, f, got)
	}
	if again, e := dead.Dead(got); e != api.OK || !sameCode(again, got) {
		t.Errorf("%s: once more, %v becomes %v, %d", name, got, again, e)
	}
}

// stays asks whether code stays as it is.
func stays(t *testing.T, name string, f api.Ir) {
	t.Helper()
	becomes(t, name, f, copied(f))
}

// does asks whether code without what is dead does what the code does, if no load without a guard traps that nobody needs. It answers how the code ended.
func does(t *testing.T, f, g api.Ir, answers []uint64, fuel int) api.End {
	t.Helper()
	l, m := sample()
	want, e := ir.Run(l, f, m, answers, fuel)
	got, code := ir.Run(l, g, m, answers, fuel)
	if e != api.OK || code != api.OK {
		t.Fatalf("%v: %d\n%v: %d", f, e, g, code)
	}
	if astray(f, want) {
		return want
	}
	same := sameRun(got, want)
	if want.Kind == api.EndFuel {
		same = begins(want.Told, got.Told)
	}
	if !same {
		t.Fatalf("%v\nends %s;\nwithout what is dead %v\nends %s", f, brief(want), g, brief(got))
	}
	return want
}

// astray tells whether a run ended at a load without a guard, of a value that nobody needs; no two nodes are of one instruction.
func astray(f api.Ir, e api.End) bool {
	if e.Kind != api.EndTrap {
		return false
	}
	needed := modelNeeded(f)
	for _, p := range f.Parts {
		for _, n := range p.Nodes {
			if n.At == e.At && n.Op == api.NodeLoad && !n.Guard && !needed[n.Id] {
				return true
			}
		}
	}
	return false
}
