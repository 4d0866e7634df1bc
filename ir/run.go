package ir

import (
	"bytes"
	"slices"

	"clevis/api"
	"clevis/helper"
	"clevis/mem"
	"clevis/word"
)

// mostFuel is how many steps a run may be given.
const mostFuel = 1 << 30

// may tells whether a run may begin.
func may(l api.Layout, f api.Ir, m api.Memory, fuel int) bool {
	return 0 <= fuel && fuel <= mostFuel && mem.May(l, m) && check(f) == nil
}

// machine is a run: how far it has come.
type machine struct {
	layout  api.Layout
	parts   []api.Part
	memory  api.Memory // the run's own, so stores are done in place
	answers []uint64   // those that are left
	values  []uint64
	chosen  []uint64 // room for what phis choose, used again
	fuel    int      // what is left
	told    []api.Told
}

func begin(l api.Layout, f api.Ir, m api.Memory, answers []uint64, fuel int) *machine {
	r := &machine{layout: l, parts: f.Parts, answers: answers, values: make([]uint64, f.Values), fuel: fuel}
	for _, b := range m {
		r.memory = append(r.memory, bytes.Clone(b))
	}
	return r
}

// run goes on till it ends.
func (r *machine) run() api.End {
	fuel := r.fuel
	var e api.End
	for part := 0; e.Kind == 0; { // it has not ended
		if e = r.nodes(part); e.Kind == 0 {
			part, e = r.leave(part)
		}
	}
	e.Steps, e.Told, e.Mem = fuel-r.fuel, r.told, r.memory
	return e
}

// step tells whether there is fuel for one more, and takes it.
func (r *machine) step() bool {
	if r.fuel == 0 {
		return false
	}
	r.fuel--
	return true
}

// nodes does a part's nodes, and answers how the run ended, if it did.
func (r *machine) nodes(part int) api.End {
	l := r.parts[part].Nodes
	for i := range l {
		if !r.step() {
			return api.End{Kind: api.EndFuel}
		}
		if trap := r.node(&l[i]); trap != api.TrapNone {
			return api.End{Kind: api.EndTrap, Trap: trap, At: l[i].At}
		}
	}
	return api.End{}
}

// leave does a part's End, and answers the next part, or how the run ended.
func (r *machine) leave(part int) (int, api.End) {
	if !r.step() {
		return part, api.End{Kind: api.EndFuel}
	}
	p := &r.parts[part]
	to := p.End.To
	switch p.End.Op {
	case api.TermReturn:
		return part, api.End{Kind: api.EndReturn, Value: r.values[p.End.A], At: last(p.Nodes)}
	case api.TermIf:
		if holds, _ := word.Cond(p.End.Cond, r.values[p.End.A], r.values[p.End.B], p.End.Wide); !holds {
			to = p.End.Else
		}
	}
	r.choose(&r.parts[to], part)
	return to, api.End{}
}

// last answers the instruction of the last node; 0, if there is none.
func last(l []api.Node) int {
	if len(l) == 0 {
		return 0
	}
	return l[len(l)-1].At
}

// choose does a part's phis, for the way from another one. One may choose what another one makes, so all are read ahead of any change.
func (r *machine) choose(p *api.Part, from int) {
	way, _ := slices.BinarySearch(p.Pred, from)
	r.chosen = r.chosen[:0]
	for _, phi := range p.Phis {
		r.chosen = append(r.chosen, r.values[phi.From[way]])
	}
	for i, phi := range p.Phis {
		r.values[phi.Id] = r.chosen[i]
	}
}

// node does a node, and answers why it traps.
func (r *machine) node(n *api.Node) api.TrapKind {
	switch n.Op {
	case api.NodeNum:
		r.values[n.Id] = n.Imm
	case api.NodeContext:
		r.values[n.Id] = mem.Address(api.Context, 0)
	case api.NodeFrame:
		r.values[n.Id] = mem.Address(api.Stack, api.StackSize)
	case api.NodeAlu:
		r.values[n.Id], _ = word.Alu(n.Alu, r.values[n.A], r.values[n.B], n.Wide)
	case api.NodeCall:
		return r.call(n)
	default:
		return r.access(n)
	}
	return api.TrapNone
}

func (r *machine) access(n *api.Node) api.TrapKind {
	at, write := r.values[n.A]+uint64(n.Off), n.Op == api.NodeStore
	if mem.Access(r.layout, at, n.Size, write) != api.OK {
		if n.Guard {
			return api.TrapGuard
		}
		return api.TrapWild
	}
	region, off := mem.Split(at)
	b := r.memory[region-api.Context][off : off+n.Size]
	if write {
		copy(b, word.Put(r.values[n.B], n.Size))
	} else {
		r.values[n.Id] = word.Get(b)
	}
	return api.TrapNone
}

func (r *machine) call(n *api.Node) api.TrapKind {
	args := make([]uint64, len(n.Args))
	for i, v := range n.Args {
		args[i] = r.values[v]
	}
	value, after, told, e := helper.Do(r.layout, r.memory, int(n.Imm), args, r.answers)
	if e != api.OK {
		return api.TrapHelper
	}
	r.values[n.Id] = value
	r.memory = after
	r.told = append(r.told, told)
	r.answers = r.answers[min(1, len(r.answers)):]
	return api.TrapNone
}
