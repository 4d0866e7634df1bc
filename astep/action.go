package astep

import (
	"clevis/api"
	"clevis/bound"
	"clevis/branch"
	"clevis/legal"
	"clevis/mem"
)

// The jumps that have no condition.
const (
	opJa   = api.ClsJmp | api.Ja
	opCall = api.ClsJmp | api.Call
	opExit = api.ClsJmp | api.Exit
)

// class answers an op's three lowest bits.
func class(op int) int { return op & 0x07 }

// action answers what does an instruction of an op that may be.
func action(op int) func(step) (outcome, error) {
	switch op {
	case opJa:
		return step.leap
	case opCall:
		return step.call
	case opExit:
		return step.exit
	}
	switch class(op) {
	case api.ClsLd: // OpWide is the only one
		return step.wide
	case api.ClsLdx:
		return step.load
	case api.ClsSt, api.ClsStx:
		return step.store
	case api.ClsJmp, api.ClsJmp32:
		return step.branch
	}
	return step.alu
}

func (t step) leap() (outcome, error) { return t.on(twin(t.before)), nil }

func (t step) exit() (outcome, error) {
	_, err := t.get(0)
	return outcome{}, err
}

func (t step) wide() (outcome, error) {
	if t.Src != 1 {
		return t.sets(number(bound.Const(t.Wide))), nil
	}
	region := api.FirstMap + t.Imm
	if _, ok := mem.Area(t.layout, region); !ok {
		return outcome{}, t.harm(noMap)
	}
	return t.sets(api.Known{Kind: api.Place, Num: bound.Const(0), Region: region}), nil
}

func (t step) branch() (outcome, error) {
	cond, wide, _ := legal.Jump(t.Op)
	a, err := t.get(t.Dst)
	if err != nil {
		return outcome{}, err
	}
	b, err := t.operand(wide)
	if err != nil {
		return outcome{}, err
	}
	var o outcome
	for i, to := range t.succ {
		holds := i == 1 // the target is the second one
		if a.Kind != api.Number || b.Kind != api.Number {
			o.ways = append(o.ways, api.Next{At: to, Abs: twin(t.before)})
		} else if x, y, can := branch.Refine(cond, a.Num, b.Num, wide, holds); can {
			o.ways = append(o.ways, api.Next{At: to, Abs: t.learned(x, y)})
		}
	}
	return o, nil
}

// learned answers what is known where more is known of the numbers that were compared.
func (t step) learned(dst api.Bound, src api.Bound) api.Abs {
	s := twin(t.before)
	if byReg(t.Op) && t.Dst == t.Src {
		return s
	}
	s.Regs[t.Dst].Num = dst
	if byReg(t.Op) {
		s.Regs[t.Src].Num = src
	}
	return s
}
