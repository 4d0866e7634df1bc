package checks_test

import (
	"math/big"

	"clevis/api"
	"clevis/helper"
	"clevis/mem"
	"clevis/verify"
	"clevis/word"
)

// The model says once more what the chapter says, by other means: with numbers without end, and of a layout by what its regions are written down as.

// room is a region, if there is one.
type room struct {
	is    bool
	size  int64
	write bool
}

func modelRoom(l api.Layout, region int) room {
	few := len(l.Maps) <= 8 && 0 <= l.Context.Size && l.Context.Size <= 4096
	for _, a := range l.Maps {
		few = few && 1 <= a.Size && a.Size <= 4096
	}
	switch {
	case !few || region < 1:
		return room{}
	case region == 1:
		return room{true, int64(l.Context.Size), l.Context.Write}
	case region == 2:
		return room{true, 512, true}
	}
	for i, a := range l.Maps {
		if region == 3+i {
			return room{true, int64(a.Size), a.Write}
		}
	}
	return room{}
}

func modelProves(l api.Layout, f api.Fact, size int, write bool) bool {
	r := modelRoom(l, f.Region)
	low, high := big.NewInt(f.Low), big.NewInt(f.High)
	end := new(big.Int).Add(high, big.NewInt(int64(size)))
	return f.Seen && r.is && low.Sign() >= 0 && low.Cmp(high) <= 0 && end.Cmp(big.NewInt(r.size)) <= 0 && size > 0 && (r.write || !write)
}

// modelFree is of code that may be.
func modelFree(l api.Layout, f api.Ir, facts []api.Fact) (api.Ir, int) {
	g := copied(f)
	for i := range g.Parts {
		for j, n := range g.Parts[i].Nodes {
			for at, x := range facts {
				if at == n.At && (n.Op == 5 && modelProves(l, x, n.Size, false) || n.Op == 6 && modelProves(l, x, n.Size, true)) {
					g.Parts[i].Nodes[j].Guard = false
				}
			}
		}
	}
	return g, guards(f) - guards(g)
}

// trace is a run that notes where its accesses lie, also that at which it traps. Its facts are right of this run.
type trace struct {
	f       api.Ir
	m       api.Memory
	answers []uint64
	values  []uint64
	facts   []api.Fact
	steps   int
	done    int // accesses
}

// traced runs code on the sample's memory, and answers what its facts are.
func traced(f api.Ir, m api.Memory, answers []uint64, fuel, facts int) *trace {
	r := &trace{f: f, m: m, answers: answers, values: make([]uint64, f.Values), facts: make([]api.Fact, facts)}
	for part := 0; part >= 0; {
		for _, n := range f.Parts[part].Nodes {
			if r.steps == fuel || !r.node(n) {
				return r
			}
			r.steps++
		}
		if r.steps == fuel {
			return r
		}
		r.steps++
		part = r.leave(part)
	}
	return r
}

// leave answers the next part, -1 without.
func (r *trace) leave(part int) int {
	e := r.f.Parts[part].End
	to := e.To
	if e.Op == 3 {
		return -1
	}
	if holds, _ := word.Cond(e.Cond, r.values[e.A], r.values[e.B], e.Wide); e.Op == 2 && !holds {
		to = e.Else
	}
	p := r.f.Parts[to]
	for way, from := range p.Pred {
		if from != part {
			continue
		}
		var l []uint64
		for _, x := range p.Phis {
			l = append(l, r.values[x.From[way]])
		}
		for i, x := range p.Phis {
			r.values[x.Id] = l[i]
		}
	}
	return to
}

// node does a node, and answers whether the run goes on.
func (r *trace) node(n api.Node) bool {
	e := api.OK
	switch n.Op {
	case 1:
		r.values[n.Id] = n.Imm
	case 2:
		r.values[n.Id] = 1 << 32
	case 3:
		r.values[n.Id] = 2<<32 + 512
	case 4:
		r.values[n.Id], _ = word.Alu(n.Alu, r.values[n.A], r.values[n.B], n.Wide)
	case 5:
		r.values[n.Id], e = mem.Load(sample, r.m, r.access(n), n.Size)
	case 6:
		r.m, e = mem.Store(sample, r.m, r.access(n), n.Size, r.values[n.B])
	case 7:
		var args []uint64
		for _, id := range n.Args {
			args = append(args, r.values[id])
		}
		r.values[n.Id], r.m, _, e = helper.Do(sample, r.m, int(n.Imm), args, r.answers)
		r.answers = r.answers[min(1, len(r.answers)):]
	}
	return e == api.OK
}

// access notes where an access lies.
func (r *trace) access(n api.Node) uint64 {
	a := r.values[n.A] + uint64(n.Off)
	region, off := mem.Split(a)
	r.facts[n.At] = verify.Merge(r.facts[n.At], seen(region, int64(off), int64(off)))
	r.done++
	return a
}
