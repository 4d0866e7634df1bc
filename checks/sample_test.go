package checks_test

import (
	"bytes"
	"fmt"
	"reflect"
	"slices"
	"testing"

	"clevis/api"
	"clevis/checks"
	"clevis/ir"
	"clevis/mem"
)

// The nodes; what stands in none of their fields is nought.

func num(id int, x uint64) api.Node { return api.Node{Op: api.NodeNum, Id: id, Imm: x} }

func context(id int) api.Node { return api.Node{Op: api.NodeContext, Id: id} }

func frame(id int) api.Node { return api.Node{Op: api.NodeFrame, Id: id} }

func alu(id, op, a, b int) api.Node {
	return api.Node{Op: api.NodeAlu, Id: id, Alu: op, Wide: true, A: a, B: b}
}

func call(id, helper int, args ...int) api.Node {
	return api.Node{Op: api.NodeCall, Id: id, Imm: uint64(helper), Args: args}
}

// load and store access so many bytes, with a guard.
func load(id, size, a, off int) api.Node {
	return api.Node{Op: api.NodeLoad, Id: id, Size: size, A: a, Off: off, Guard: true}
}

func store(size, a, off, b int) api.Node {
	return api.Node{Op: api.NodeStore, Id: -1, Size: size, A: a, Off: off, B: b, Guard: true}
}

// bare answers an access that is not checked.
func bare(n api.Node) api.Node {
	n.Guard = false
	return n
}

// from answers a node of an instruction.
func from(at int, n api.Node) api.Node {
	n.At = at
	return n
}

// The ends.

func on(to int) api.Term { return api.Term{Op: api.TermGo, To: to} }

func when(cond, a, b, to, otherwise int) api.Term {
	return api.Term{Op: api.TermIf, Cond: cond, Wide: true, A: a, B: b, To: to, Else: otherwise}
}

func back(a int) api.Term { return api.Term{Op: api.TermReturn, A: a} }

func phi(id int, from ...int) api.Phi { return api.Phi{Id: id, From: from} }

func phis(l ...api.Phi) []api.Phi { return l }

// part answers a part without phis.
func part(pred []int, end api.Term, nodes ...api.Node) api.Part {
	return api.Part{Pred: pred, Nodes: nodes, End: end}
}

// chosen answers a part with phis.
func chosen(pred []int, l []api.Phi, end api.Term, nodes ...api.Node) api.Part {
	return api.Part{Pred: pred, Phis: l, Nodes: nodes, End: end}
}

func code(values int, parts ...api.Part) api.Ir { return api.Ir{Parts: parts, Values: values} }

// one answers code of one part.
func one(values int, end api.Term, nodes ...api.Node) api.Ir {
	return code(values, part(nil, end, nodes...))
}

func seen(region int, low, high int64) api.Fact {
	return api.Fact{Seen: true, Region: region, Low: low, High: high}
}

// sample is a layout with regions that may be written and such that may not.
var sample = api.Layout{Context: api.Area{Size: 16}, Maps: []api.Area{{Size: 40, Write: true}, {Size: 70}, {Size: 9, Write: true}}}

// fresh answers a memory of the sample in which no two bytes near one another are alike.
func fresh() api.Memory {
	m, _ := mem.Fresh(sample)
	for i := range m {
		for j := range m[i] {
			m[i][j] = byte(77*i + 3*j + 1)
		}
	}
	return m
}

// copied answers code that shares nothing with what is handed in, and in which no list is empty, but nil.
func copied(f api.Ir) api.Ir {
	list := func(l []int) []int { return append([]int(nil), l...) }
	g := api.Ir{Values: f.Values}
	for _, p := range f.Parts {
		q := api.Part{Pred: list(p.Pred), End: p.End}
		for _, x := range p.Phis {
			q.Phis = append(q.Phis, api.Phi{Id: x.Id, From: list(x.From)})
		}
		for _, n := range p.Nodes {
			n.Args = list(n.Args)
			q.Nodes = append(q.Nodes, n)
		}
		g.Parts = append(g.Parts, q)
	}
	return g
}

// sameCode compares code; of lists that are empty one may be nil.
func sameCode(f, g api.Ir) bool { return reflect.DeepEqual(copied(f), copied(g)) }

func sameMemory(a, b api.Memory) bool { return slices.EqualFunc(a, b, bytes.Equal) }

func sameTold(a, b api.Told) bool {
	return a.Helper == b.Helper && slices.Equal(a.Args, b.Args) && bytes.Equal(a.Data, b.Data)
}

// sameEnd compares all of two ends.
func sameEnd(a, b api.End) bool {
	return a.Kind == b.Kind && a.Value == b.Value && a.Trap == b.Trap && a.At == b.At && a.Steps == b.Steps &&
		slices.EqualFunc(a.Told, b.Told, sameTold) && sameMemory(a.Mem, b.Mem)
}

// brief tells of an end without its memory.
func brief(e api.End) string {
	return fmt.Sprintf("%d with %#x, trap %d at %d, %d steps, told %v", e.Kind, e.Value, e.Trap, e.At, e.Steps, e.Told)
}

// guards counts the accesses that are checked.
func guards(f api.Ir) int {
	count := 0
	for _, p := range f.Parts {
		for _, n := range p.Nodes {
			if n.Guard && (n.Op == api.NodeLoad || n.Op == api.NodeStore) {
				count++
			}
		}
	}
	return count
}

// becomes asks what code is without needless guards, and how many there were.
func becomes(t *testing.T, name string, l api.Layout, f api.Ir, facts []api.Fact, want api.Ir, count int) {
	t.Helper()
	if e := ir.Check(f); e != api.OK {
		t.Fatalf("%s: %v may not be", name, f)
	}
	got, n, e := checks.Free(l, f, facts)
	if e != api.OK || n != count || !sameCode(got, want) {
		t.Errorf("%s: Free(%v, %v)\n= %v, %d, %d;\nwant %v, %d", name, f, facts, got, n, e, want, count)
	}
	if ir.Check(got) != api.OK {
		t.Errorf("%s: Free(%v) = %v, which may not be", name, f, got)
	}
	if again, n, e := checks.Free(l, got, facts); e != api.OK || n != 0 || !sameCode(again, got) {
		t.Errorf("%s: once more, %v becomes %v, %d, %d", name, got, again, n, e)
	}
}

// stays asks whether code stays as it is.
func stays(t *testing.T, name string, l api.Layout, f api.Ir, facts []api.Fact) {
	t.Helper()
	becomes(t, name, l, f, facts, copied(f), 0)
}

// runs answers how code ends.
func runs(t *testing.T, f api.Ir, m api.Memory, answers []uint64, fuel int) api.End {
	t.Helper()
	end, e := ir.Run(sample, f, m, answers, fuel)
	if e != api.OK {
		t.Fatalf("Run(%v, %d): %d", f, fuel, e)
	}
	return end
}
