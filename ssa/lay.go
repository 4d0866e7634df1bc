package ssa

import (
	"clevis/api"
	"clevis/ir"
	"clevis/legal"
)

// spot is a register in a part.
type spot struct {
	part     int
	register int
}

// builder is code that is made of a program.
type builder struct {
	program []api.Ins
	blocks  []api.Block
	ahead   int // how many parts stand ahead of those of the blocks
	code    api.Ir
	succ    [][]int      // of each part
	phis    [][]int      // of each part the registers that its phis are, rising
	behind  map[spot]int // the value that a register is behind a part
}

// lay answers the parts, with their ways, but without values. Nothing may lead back to the first part: where something leads to the first block, one more part stands ahead.
func lay(p []api.Ins, blocks []api.Block) *builder {
	b := &builder{program: p, blocks: blocks, behind: map[spot]int{}}
	if len(blocks[0].Pred) > 0 {
		b.ahead = 1
		b.code.Parts = append(b.code.Parts, api.Part{End: api.Term{Op: api.TermGo, To: 1}})
	}
	for _, x := range blocks {
		b.code.Parts = append(b.code.Parts, api.Part{End: b.end(x)})
	}
	b.succ = ir.Succ(b.code)
	for part, row := range b.succ { // in order, so that Pred rises
		for _, to := range row {
			p := &b.code.Parts[to]
			p.Pred = append(p.Pred, part)
		}
	}
	return b
}

// end answers how a block's part ends, but not yet what it asks. A jump by 0 leads to one block, whatever its condition.
func (b *builder) end(x api.Block) api.Term {
	switch len(x.Succ) {
	case 0:
		return api.Term{Op: api.TermReturn}
	case 1:
		return api.Term{Op: api.TermGo, To: b.partOf(x.Succ[0])}
	}
	cond, wide, _ := legal.Jump(b.program[x.Last].Op)
	return api.Term{Op: api.TermIf, Cond: cond, Wide: wide, To: b.partOf(x.Succ[1]), Else: b.partOf(x.Succ[0])}
}

// partOf answers the part of a block.
func (b *builder) partOf(block int) int { return block + b.ahead }
