package astep

import (
	"clevis/api"
	"clevis/arith"
	"clevis/bound"
	"clevis/legal"
)

func (t step) alu() (outcome, error) {
	op, wide, _ := legal.Alu(t.Op)
	a, err := t.get(t.Dst)
	if err != nil && op != api.Mov {
		return outcome{}, err
	}
	b, err := t.operand(wide)
	if err != nil {
		return outcome{}, err
	}
	return t.sets(reckoned(op, a, b, wide)), nil
}

// reckoned answers what is known of a register behind an operation.
func reckoned(op int, a api.Known, b api.Known, wide bool) api.Known {
	if wide && op == api.Mov {
		return b
	}
	if region := moved(op, a, b); wide && region != 0 {
		num, _ := arith.Alu(op, a.Num, b.Num, wide)
		return api.Known{Kind: api.Place, Num: num, Region: region}
	}
	num, _ := arith.Alu(op, value(a), value(b), wide)
	return number(num)
}

// moved answers the region in which a number and a place make another place; 0, if they do not.
func moved(op int, a api.Known, b api.Known) int {
	switch {
	case a.Kind == api.Place && b.Kind == api.Number && (op == api.Add || op == api.Sub):
		return a.Region
	case a.Kind == api.Number && b.Kind == api.Place && op == api.Add: // less a place a number is none
		return b.Region
	}
	return 0
}

// value answers what is known of a register as a number: of an address nothing.
func value(k api.Known) api.Bound {
	if k.Kind == api.Number {
		return k.Num
	}
	return bound.Any()
}
