package ir_test

import (
	"math/big"
	"slices"

	"clevis/api"
	"clevis/helper"
	"clevis/mem"
	"clevis/word"
)

// The model says once more what the chapter says, by other means: what is made ahead is what is made on all ways, found by sets that are made smaller until they stay; a run asks the layers below for all that it does, with a new memory for each store, and has its values in a map.

func modelSucc(t api.Term) []int {
	switch t.Op {
	case 1:
		return []int{t.To}
	case 2:
		return []int{t.To, t.Else}
	}
	return []int{}
}

func modelUses(n api.Node) []int {
	return map[api.NodeOp][]int{4: {n.A, n.B}, 5: {n.A}, 6: {n.A, n.B}, 7: n.Args}[n.Op]
}

func modelAsked(t api.Term) []int {
	return map[api.TermOp][]int{2: {t.A, t.B}, 3: {t.A}}[t.Op]
}

// between tells whether a number is in bounds, both among them.
func between(x, low, high int) bool { return low <= x && x <= high }

func modelCheck(f api.Ir) bool {
	return between(len(f.Parts), 1, 8192) && between(f.Values, 0, 65536) &&
		modelEnds(f) && modelWays(f) && modelNodes(f) && modelMakes(f) && modelAhead(f)
}

var modelConditions = []int{0x10, 0x20, 0x30, 0x40, 0x50, 0x60, 0x70, 0xa0, 0xb0, 0xc0, 0xd0}

func modelEnds(f api.Ir) bool {
	last := len(f.Parts) - 1
	for _, p := range f.Parts {
		t := p.End
		may := false
		switch t.Op {
		case 1:
			may = between(t.To, 0, last)
		case 2:
			may = between(t.To, 0, last) && between(t.Else, 0, last) && t.To != t.Else && slices.Contains(modelConditions, t.Cond)
		case 3:
			may = true
		}
		if !may {
			return false
		}
	}
	return true
}

// modelWays asks each two parts, and goes on from the first one until no more can be come to.
func modelWays(f api.Ir) bool {
	met := map[int]bool{0: true}
	for range f.Parts {
		for i, p := range f.Parts {
			for _, to := range modelSucc(p.End) {
				met[to] = met[to] || met[i]
			}
		}
	}
	for i, p := range f.Parts {
		var pred []int
		for j, q := range f.Parts {
			if slices.Contains(modelSucc(q.End), i) {
				pred = append(pred, j)
			}
		}
		if !met[i] || !slices.Equal(p.Pred, pred) || i == 0 && len(pred) > 0 {
			return false
		}
	}
	return true
}

func modelNodes(f api.Ir) bool {
	for _, p := range f.Parts {
		for _, n := range p.Nodes {
			may := false
			switch n.Op {
			case 1, 2, 3:
				may = true
			case 4:
				may = n.Alu%16 == 0 && between(n.Alu, 0, 0xc0)
			case 5, 6:
				may = slices.Contains([]int{1, 2, 4, 8}, n.Size) && between(n.Off, -32768, 32767)
			case 7:
				may = n.Imm >= 1 && n.Imm <= 5 && len(n.Args) == []int{0, 0, 1, 2, 2, 3}[n.Imm]
			}
			if !may {
				return false
			}
		}
	}
	return true
}

// modelMade answers what a part makes: phis, then nodes, -1 of a store.
func modelMade(p api.Part) []int {
	var l []int
	for _, x := range p.Phis {
		l = append(l, x.Id)
	}
	for _, n := range p.Nodes {
		l = append(l, n.Id)
	}
	return l
}

func modelMakes(f api.Ir) bool {
	times := map[int]int{}
	for _, p := range f.Parts {
		for _, n := range p.Nodes {
			if n.Op == 6 && n.Id != -1 || n.Op != 6 && n.Id == -1 {
				return false
			}
		}
		for _, x := range p.Phis {
			if x.Id == -1 {
				return false
			}
		}
		for _, id := range modelMade(p) {
			times[id]++
			if id != -1 && (times[id] > 1 || !between(id, 0, f.Values-1)) {
				return false
			}
		}
	}
	return true
}

// modelSets answers of each part what was made on all ways there: ahead of its phis, and behind its nodes. At first all is, but ahead of the first part nothing.
func modelSets(f api.Ir) ([]*big.Int, []*big.Int) {
	all := new(big.Int).Lsh(big.NewInt(1), uint(f.Values))
	all.Sub(all, big.NewInt(1))
	var ahead, behind []*big.Int
	for range f.Parts {
		ahead, behind = append(ahead, all), append(behind, all)
	}
	for more := true; more; {
		more = false
		for i, p := range f.Parts {
			set := new(big.Int)
			for j, from := range p.Pred {
				if j == 0 {
					set.Set(behind[from])
				}
				set.And(set, behind[from])
			}
			end := new(big.Int).Set(set)
			for _, id := range modelMade(p) {
				if id >= 0 {
					end.SetBit(end, id, 1)
				}
			}
			more = more || set.Cmp(ahead[i]) != 0 || end.Cmp(behind[i]) != 0
			ahead[i], behind[i] = set, end
		}
	}
	return ahead, behind
}

func modelAhead(f api.Ir) bool {
	ahead, behind := modelSets(f)
	in := func(set *big.Int, l []int) bool {
		return !slices.ContainsFunc(l, func(id int) bool { return !between(id, 0, f.Values-1) || set.Bit(id) == 0 })
	}
	for i, p := range f.Parts {
		set := new(big.Int).Set(ahead[i])
		for _, x := range p.Phis {
			if len(x.From) != len(p.Pred) {
				return false
			}
			for j, id := range x.From {
				if !in(behind[p.Pred[j]], []int{id}) {
					return false
				}
			}
			set.SetBit(set, x.Id, 1)
		}
		for _, n := range p.Nodes {
			if !in(set, modelUses(n)) {
				return false
			}
			if n.Id >= 0 {
				set.SetBit(set, n.Id, 1)
			}
		}
		if !in(set, modelAsked(p.End)) {
			return false
		}
	}
	return true
}

type model struct {
	layout  api.Layout
	memory  api.Memory
	values  map[int]uint64
	answers []uint64
	told    []api.Told
}

// modelRun is of code and memories that may be. It stands at a node of a part, or, behind the last one, at the End.
func modelRun(l api.Layout, f api.Ir, m api.Memory, answers []uint64, fuel int) api.End {
	s := &model{l, m, map[int]uint64{}, answers, nil}
	var e api.End
	for at, node := 0, 0; e.Kind == 0; {
		p := f.Parts[at]
		switch {
		case e.Steps == fuel:
			e.Kind = 3
			continue
		case node < len(p.Nodes):
			if trap := s.node(p.Nodes[node]); trap != 0 {
				e.Kind, e.Trap, e.At = 2, trap, p.Nodes[node].At
			}
			node++
		case p.End.Op == 3:
			e.Kind, e.Value = 1, s.values[p.End.A]
			if node > 0 {
				e.At = p.Nodes[node-1].At
			}
		default:
			to := p.End.To
			if holds, _ := word.Cond(p.End.Cond, s.values[p.End.A], s.values[p.End.B], p.End.Wide); p.End.Op == 2 && !holds {
				to = p.End.Else
			}
			s.choose(f.Parts[to], at)
			at, node = to, 0
		}
		e.Steps++
	}
	e.Told, e.Mem = s.told, s.memory
	return e
}

func (s *model) choose(p api.Part, from int) {
	now := map[int]uint64{}
	for _, x := range p.Phis {
		now[x.Id] = s.values[x.From[slices.Index(p.Pred, from)]]
	}
	for id, x := range now {
		s.values[id] = x
	}
}

// node does a node, and answers why it traps. Layer 2's Load and Store refuse by themselves.
func (s *model) node(n api.Node) api.TrapKind {
	a, b := s.values[n.A], s.values[n.B]
	made, e := uint64(0), api.OK
	switch n.Op {
	case 1:
		made = n.Imm
	case 2:
		made = 1 << 32
	case 3:
		made = 2<<32 + 512
	case 4:
		made, _ = word.Alu(n.Alu, a, b, n.Wide)
	case 5:
		made, e = mem.Load(s.layout, s.memory, a+uint64(n.Off), n.Size)
	case 6:
		var after api.Memory
		if after, e = mem.Store(s.layout, s.memory, a+uint64(n.Off), n.Size, b); e == api.OK {
			s.memory = after
		}
	case 7:
		return s.call(n)
	}
	switch {
	case e != api.OK && n.Guard:
		return 9
	case e != api.OK:
		return 8
	case n.Op != 6:
		s.values[n.Id] = made
	}
	return 0
}

func (s *model) call(n api.Node) api.TrapKind {
	var args []uint64
	for _, id := range n.Args {
		args = append(args, s.values[id])
	}
	x, after, told, e := helper.Do(s.layout, s.memory, int(n.Imm), args, s.answers)
	if e != api.OK {
		return 5
	}
	if len(s.answers) > 0 {
		s.answers = s.answers[1:]
	}
	s.values[n.Id], s.memory, s.told = x, after, append(s.told, told)
	return 0
}
