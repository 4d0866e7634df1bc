package flow_test

import (
	"slices"

	"clevis/api"
	"clevis/legal"
)

// The model says once more what the chapter says, by other means: what one may come to is closed step by step, and of each two instructions, and of each two blocks, it is asked anew what they are to one another.

// modelReach tells of each place whether one may come to it.
func modelReach(p []api.Ins) []bool {
	met := make([]bool, len(p))
	met[0] = true
	for more := true; more; {
		more = false
		for i := range p {
			for _, next := range legal.Succ(p, i) {
				if met[i] && !met[next] {
					met[next], more = true, true
				}
			}
		}
	}
	return met
}

// modelEnds tells whether an instruction is a jump, or Ja.
func modelEnds(x api.Ins) bool {
	if x.Op == 0x05 {
		return true
	}
	switch x.Op & 0xf7 {
	case 0x15, 0x25, 0x35, 0x45, 0x55, 0x65, 0x75, 0xa5, 0xb5, 0xc5, 0xd5, 0x16, 0x26, 0x36, 0x46, 0x56, 0x66, 0x76, 0xa6, 0xb6, 0xc6, 0xd6:
		return true
	}
	return false
}

// modelLeader tells whether i is a leader.
func modelLeader(p []api.Ins, met []bool, i int) bool {
	if i == 0 {
		return true
	}
	for j := range p {
		if met[i] && met[j] && modelEnds(p[j]) && slices.Contains(legal.Succ(p, j), i) {
			return true
		}
	}
	return false
}

// modelBlock answers the block of a leader, without Succ and Pred.
func modelBlock(p []api.Ins, met []bool, leader int) api.Block {
	b := api.Block{From: leader, Last: leader}
	for {
		next := legal.Succ(p, b.Last)
		b.To = b.Last + 1
		if p[b.Last].Op == 0x18 {
			b.To++
		}
		if len(next) != 1 || p[b.Last].Op == 0x05 || modelLeader(p, met, next[0]) {
			return b
		}
		b.Last = next[0]
	}
}

// modelBlocks answers the blocks of a program that may be.
func modelBlocks(p []api.Ins) []api.Block {
	met := modelReach(p)
	var l []api.Block
	for i := range p {
		if modelLeader(p, met, i) {
			l = append(l, modelBlock(p, met, i))
		}
	}
	for i := range l {
		for _, next := range legal.Succ(p, l[i].Last) {
			at := slices.IndexFunc(l, func(b api.Block) bool { return b.From == next })
			if len(l[i].Succ) == 0 || l[i].Succ[0] != at {
				l[i].Succ = append(l[i].Succ, at)
			}
		}
	}
	for i := range l {
		for j := range l {
			if slices.Contains(l[j].Succ, i) {
				l[i].Pred = append(l[i].Pred, j)
			}
		}
	}
	return l
}

// places answers those of which it is told that they are, rising.
func places(met []bool) []int {
	var l []int
	for i, is := range met {
		if is {
			l = append(l, i)
		}
	}
	return l
}
