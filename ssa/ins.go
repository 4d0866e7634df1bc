package ssa

import (
	"clevis/api"
	"clevis/legal"
)

// none is the Id of what makes no value.
const none = -1

// opCall is a helper's call.
const opCall = api.ClsJmp | api.Call

// The registers that are more than others.
const (
	answer  = 0                 // what helpers and programs answer
	first   = 1                 // a helper's first argument
	context = 1                 // at first the context's address
	frame   = api.Registers - 1 // the stack's end
)

// arguments is how many registers each helper takes.
var arguments = [...]int{1: 0, 2: 1, 3: 2, 4: 2, 5: 3}

// class answers an op's three lowest bits.
func class(op int) int { return op & 7 }

// sets answers the register that an instruction sets, if it does. A call leaves r1 to r5 as they are: who reads them behind it traps, so they may be anything.
func sets(x api.Ins) (int, bool) {
	if x.Op == opCall {
		return answer, true
	}
	_, _, ok := legal.Alu(x.Op)
	return x.Dst, ok || x.Op == api.OpWide || class(x.Op) == api.ClsLdx
}

// whole answers what a wide instruction makes: its number, or a map's address.
func whole(x api.Ins) uint64 {
	if x.Src == 0 {
		return x.Wide
	}
	return uint64(api.FirstMap+x.Imm) << 32
}

// imm answers what Imm is as an operand: with its sign, of 64 bits or of 32.
func imm(n int, wide bool) uint64 {
	if wide {
		return uint64(n)
	}
	return uint64(uint32(n))
}
