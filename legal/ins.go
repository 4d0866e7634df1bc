package legal

import "clevis/api"

const (
	top     = api.Registers - 1 // the register of the stack's end, which nothing sets
	lastMap = api.MaxMaps - 1
	helpers = 5
)

// Ins tells whether an instruction, by itself, may be.
func Ins(x api.Ins) bool {
	if !fits(x) {
		return false
	}
	if x.Op == api.OpWide {
		return mayWide(x)
	}
	return nought(x.Wide) && mayOne(x)
}

// fits tells whether the fields are numbers that they may be of some op; a field that is not named is 0, which is one.
func fits(x api.Ins) bool {
	return within(x.Dst, 0, top) && within(x.Src, 0, top) && within(x.Off, -1<<15, 1<<15-1) && within(x.Imm, -1<<31, 1<<31-1)
}

func within(n int, least int, most int) bool { return least <= n && n <= most }

// nought tells whether all are: it is handed the fields that an instruction does not name.
func nought[N int | uint64](fields ...N) bool {
	for _, n := range fields {
		if n != 0 {
			return false
		}
	}
	return true
}

func mayWide(x api.Ins) bool {
	if x.Dst == top || !nought(x.Off) {
		return false
	}
	switch x.Src {
	case 0:
		return x.Imm == int(int32(x.Wide))
	case 1:
		return within(x.Imm, 0, lastMap) && x.Wide == uint64(x.Imm)
	}
	return false
}

// mayOne is of instructions of one slot.
func mayOne(x api.Ins) bool {
	switch x.Op {
	case opJa:
		return nought(x.Dst, x.Src, x.Imm)
	case opCall:
		return nought(x.Dst, x.Src, x.Off) && within(x.Imm, 1, helpers)
	case opExit:
		return nought(x.Dst, x.Src, x.Off, x.Imm)
	}
	if operation, wide, ok := Alu(x.Op); ok {
		return mayAlu(x, operation, wide)
	}
	if _, _, ok := Jump(x.Op); ok {
		return mayOperand(x)
	}
	return Size(x.Op) != 0 && mayAccess(x)
}

// mayOperand tells whether nothing stands in that one of Src and Imm which the op does not take.
func mayOperand(x api.Ins) bool {
	if byReg(x.Op) {
		return nought(x.Imm)
	}
	return nought(x.Src)
}

func mayAlu(x api.Ins, operation int, wide bool) bool {
	if x.Dst == top || !nought(x.Off) || !mayOperand(x) {
		return false
	}
	switch operation {
	case api.Neg:
		return nought(x.Imm)
	case api.Lsh, api.Rsh, api.Arsh:
		return mayShift(x.Imm, wide)
	}
	return true
}

// mayShift tells whether a number may be shifted so far; by a register it may always, Imm is 0 then.
func mayShift(n int, wide bool) bool {
	if wide {
		return within(n, 0, 63)
	}
	return within(n, 0, 31)
}

func mayAccess(x api.Ins) bool {
	switch class(x.Op) {
	case api.ClsLdx: // as a store of a register, but that it sets one
		if x.Dst == top {
			return false
		}
		fallthrough
	case api.ClsStx:
		return nought(x.Imm)
	}
	return nought(x.Src)
}
