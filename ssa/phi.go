package ssa

import (
	"clevis/api"
	"clevis/dom"
)

// meet finds the parts to which one may come with a register in one state or in another: there a phi is its state.
func (b *builder) meet() {
	b.phis = make([][]int, len(b.code.Parts))
	ends := dom.Frontier(b.succ)
	for register, parts := range b.setters() {
		for part, met := range spread(ends, parts) {
			if met {
				b.phis[part] = append(b.phis[part], register)
			}
		}
	}
}

// setters answers of each register the parts that set it, as often as they do.
func (b *builder) setters() [api.Registers][]int {
	var rows [api.Registers][]int
	for block, x := range b.blocks {
		for _, ins := range b.program[x.From:x.To] {
			if register, ok := sets(ins); ok {
				rows[register] = append(rows[register], b.partOf(block))
			}
		}
	}
	return rows
}

// spread tells of each part whether what some parts set meets there what it was. What meets is a state of its own, so it spreads on.
func spread(ends [][]int, todo []int) []bool {
	met := make([]bool, len(ends))
	for len(todo) > 0 {
		last := len(todo) - 1
		part := todo[last]
		todo = todo[:last]
		for _, at := range ends[part] {
			if !met[at] {
				met[at] = true
				todo = append(todo, at)
			}
		}
	}
	return met
}

// choose tells phis what they choose: on each way what the register is behind the part from which that comes.
func (b *builder) choose() {
	for part := range b.code.Parts {
		p := &b.code.Parts[part]
		for at, register := range b.phis[part] {
			from := make([]int, len(p.Pred))
			for way, pred := range p.Pred {
				from[way] = b.behind[spot{pred, register}]
			}
			p.Phis[at].From = from
		}
	}
}
