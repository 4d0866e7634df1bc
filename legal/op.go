package legal

import "clevis/api"

// The jumps that have no condition.
const (
	opJa   = api.ClsJmp | api.Ja
	opCall = api.ClsJmp | api.Call
	opExit = api.ClsJmp | api.Exit
)

// class answers an op's three lowest bits.
func class(op int) int { return op & 0x07 }

// high answers all that stands above an op's four lowest bits: of one that is no byte that is no operation, nor a condition.
func high(op int) int { return op &^ 0x0f }

// byReg tells whether an op takes a register, and not Imm.
func byReg(op int) bool { return op&api.ByReg != 0 }

// Size tells how many bytes an op accesses.
func Size(op int) int {
	switch op {
	case 0x71, 0x72, 0x73:
		return 1
	case 0x69, 0x6a, 0x6b:
		return 2
	case 0x61, 0x62, 0x63:
		return 4
	case 0x79, 0x7a, 0x7b:
		return 8
	}
	return 0
}

// Alu answers an op's operation, and whether it is wide, and one at all.
func Alu(op int) (int, bool, bool) {
	wide := false
	switch class(op) {
	case api.ClsAlu64:
		wide = true
		fallthrough
	case api.ClsAlu:
		if isOperation(op) {
			return high(op), wide, true
		}
	}
	return 0, false, false
}

func isOperation(op int) bool {
	if high(op) == api.Neg {
		return !byReg(op) // it has one operand alone
	}
	return api.Add <= high(op) && high(op) <= api.Arsh
}

// Jump answers an op's condition, and whether it is wide, and one at all.
func Jump(op int) (int, bool, bool) {
	wide := false
	switch class(op) {
	case api.ClsJmp:
		wide = true
		fallthrough
	case api.ClsJmp32:
		if isCondition(high(op)) {
			return high(op), wide, true
		}
	}
	return 0, false, false
}

func isCondition(cond int) bool {
	switch cond {
	case api.Ja, api.Call, api.Exit: // they lie among the conditions, and ask nothing
		return false
	}
	return api.Jeq <= cond && cond <= api.Jsle
}
