package ir_test

import (
	"bytes"
	"fmt"
	"reflect"
	"slices"

	"clevis/api"
	"clevis/mem"
)

const (
	yes = true
	no  = false
)

// The nodes; what stands in none of their fields is nought.

func num(id int, x uint64) api.Node { return api.Node{Op: api.NodeNum, Id: id, Imm: x} }

func context(id int) api.Node { return api.Node{Op: api.NodeContext, Id: id} }

func frame(id int) api.Node { return api.Node{Op: api.NodeFrame, Id: id} }

func alu(id, op, a, b int) api.Node {
	return api.Node{Op: api.NodeAlu, Id: id, Alu: op, Wide: true, A: a, B: b}
}

func load(id, size, a, off int) api.Node {
	return api.Node{Op: api.NodeLoad, Id: id, Size: size, A: a, Off: off}
}

func store(size, a, off, b int) api.Node {
	return api.Node{Op: api.NodeStore, Id: -1, Size: size, A: a, Off: off, B: b}
}

func call(id, helper int, args ...int) api.Node {
	return api.Node{Op: api.NodeCall, Id: id, Imm: uint64(helper), Args: args}
}

// guarded answers a node with a guard.
func guarded(n api.Node) api.Node {
	n.Guard = true
	return n
}

// from answers a node of an instruction.
func from(at int, n api.Node) api.Node {
	n.At = at
	return n
}

// The ends.

func on(to int) api.Term { return api.Term{Op: api.TermGo, To: to} }

func when(cond, a, b, to, otherwise int) api.Term {
	return api.Term{Op: api.TermIf, Cond: cond, Wide: true, A: a, B: b, To: to, Else: otherwise}
}

func back(a int) api.Term { return api.Term{Op: api.TermReturn, A: a} }

func phi(id int, from ...int) api.Phi { return api.Phi{Id: id, From: from} }

// part answers a part without phis.
func part(pred []int, end api.Term, nodes ...api.Node) api.Part {
	return api.Part{Pred: pred, Nodes: nodes, End: end}
}

// chosen answers a part with phis.
func chosen(p api.Part, phis ...api.Phi) api.Part {
	p.Phis = phis
	return p
}

func code(values int, parts ...api.Part) api.Ir { return api.Ir{Parts: parts, Values: values} }

// one answers code of one part.
func one(values int, end api.Term, nodes ...api.Node) api.Ir {
	return code(values, part(nil, end, nodes...))
}

// looped sums up as many bytes of the first map as value 3 says, keeps the sum on the stack, and mixes what it becomes.
func looped() api.Ir {
	return code(15,
		part(nil, on(1),
			from(1, context(0)), from(2, frame(1)), from(3, num(2, 0)), from(4, num(3, 3)), from(5, num(4, mem.Address(3, 0))),
			from(6, store(8, 1, -8, 2)), from(7, num(13, 1))),
		chosen(part([]int{0, 2}, when(api.Jlt, 5, 3, 2, 3)),
			phi(5, 2, 8), phi(6, 4, 9), phi(7, 2, 11)),
		part([]int{1}, on(1),
			from(8, alu(8, api.Add, 5, 13)), from(9, alu(9, api.Add, 6, 13)), from(10, guarded(load(14, 1, 6, 0))),
			from(11, alu(11, api.Add, 7, 14)), from(12, store(8, 1, -8, 11))),
		part([]int{1}, back(12),
			from(13, load(10, 8, 1, -8)), from(14, call(12, 5, 7, 10, 3))),
	)
}

// copied answers code that shares nothing with what is handed in.
func copied(f api.Ir) api.Ir {
	parts := slices.Clone(f.Parts)
	for i, p := range parts {
		parts[i].Pred = slices.Clone(p.Pred)
		parts[i].Phis = slices.Clone(p.Phis)
		for j, x := range p.Phis {
			parts[i].Phis[j].From = slices.Clone(x.From)
		}
		parts[i].Nodes = slices.Clone(p.Nodes)
		for j, n := range p.Nodes {
			parts[i].Nodes[j].Args = slices.Clone(n.Args)
		}
	}
	return api.Ir{Parts: parts, Values: f.Values}
}

// upTo answers the numbers from 0 below n.
func upTo(n int) []int {
	var l []int
	for i := range n {
		l = append(l, i)
	}
	return l
}

// sample answers a layout with regions that may be written and such that may not, and a memory of it in which no two bytes near one another are alike.
func sample() (api.Layout, api.Memory) {
	l := api.Layout{Context: api.Area{Size: 16}, Maps: []api.Area{{Size: 20, Write: true}, {Size: 70}, {Size: 9, Write: true}}}
	m, _ := mem.Fresh(l)
	for i := range m {
		for j := range m[i] {
			m[i][j] = byte(77*i + 3*j + 1)
		}
	}
	return l, m
}

func clone(m api.Memory) api.Memory {
	var c api.Memory
	for _, b := range m {
		c = append(c, bytes.Clone(b))
	}
	return c
}

func sameMemory(a, b api.Memory) bool { return slices.EqualFunc(a, b, bytes.Equal) }

func sameTold(a, b api.Told) bool {
	return a.Helper == b.Helper && slices.Equal(a.Args, b.Args) && bytes.Equal(a.Data, b.Data)
}

// begins tells whether what is told in a is a beginning of what is told in b.
func begins(a, b []api.Told) bool {
	return len(a) <= len(b) && slices.EqualFunc(a, b[:len(a)], sameTold)
}

// sameEnd compares ends; of lists that are empty one may be nil.
func sameEnd(a, b api.End) bool {
	if !sameMemory(a.Mem, b.Mem) || !slices.EqualFunc(a.Told, b.Told, sameTold) {
		return false
	}
	a.Mem, b.Mem, a.Told, b.Told = nil, nil, nil, nil
	return reflect.DeepEqual(a, b)
}

// brief tells of an end in few words: of its memory only some that is not as the sample's.
func brief(e api.End) string {
	_, m := sample()
	var other []string
	for i, b := range e.Mem {
		for j, x := range b {
			if len(other) < 20 && i < len(m) && j < len(m[i]) && x != m[i][j] {
				other = append(other, fmt.Sprintf("%d at %d and %d", x, i+1, j))
			}
		}
	}
	return fmt.Sprintf("end %d, value %#x, trap %d at %d, %d steps, told %v, %d areas, bytes %v", e.Kind, e.Value, e.Trap, e.At, e.Steps, e.Told, len(e.Mem), other)
}
