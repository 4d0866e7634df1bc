package ssa

import (
	"clevis/api"
	"clevis/dom"
)

// registers is which value each register is.
type registers [api.Registers]int

// rename makes the values. Ahead of a part a register that has no phi there is what it is behind the nearest part that one must have come through.
func (b *builder) rename() {
	below := make([][]int, len(b.code.Parts))
	for part, up := range dom.Idom(b.succ) {
		if part > 0 {
			below[up] = append(below[up], part)
		}
	}
	var visit func(part int, now registers)
	visit = func(part int, now registers) {
		now = b.write(part, now)
		for register, value := range now {
			b.behind[spot{part, register}] = value
		}
		for _, next := range below[part] {
			visit(next, now)
		}
	}
	visit(0, registers{})
}

// write writes a part, and answers what registers are behind it.
func (b *builder) write(part int, now registers) registers {
	w := &writer{builder: b, part: &b.code.Parts[part], now: now}
	if part == 0 {
		w.start()
	}
	for _, register := range b.phis[part] {
		id := b.fresh()
		w.now[register] = id
		w.part.Phis = append(w.part.Phis, api.Phi{Id: id})
	}
	if part >= b.ahead {
		w.block(b.blocks[part-b.ahead])
	}
	return w.now
}

// fresh answers a value that nothing makes yet.
func (b *builder) fresh() int {
	b.code.Values++
	return b.code.Values - 1
}
