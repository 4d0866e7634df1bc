package interp

import (
	"clevis/api"
	"clevis/helper"
	"clevis/legal"
	"clevis/mem"
	"clevis/word"
)

// The jumps that have no condition.
const (
	opJa   = api.ClsJmp | api.Ja
	opCall = api.ClsJmp | api.Call
	opExit = api.ClsJmp | api.Exit
)

// The registers that a call leaves unset.
const (
	firstArg = 1
	lastArg  = 5
)

// class answers an op's three lowest bits.
func class(op int) int { return op & 0x07 }

// action answers what does an instruction of an op that may be.
func action(op int) func(*machine, api.Ins) error {
	switch class(op) {
	case api.ClsLd: // OpWide is the only one
		return (*machine).wide
	case api.ClsLdx:
		return (*machine).load
	case api.ClsSt, api.ClsStx:
		return (*machine).store
	case api.ClsJmp:
		switch op {
		case opJa:
			return (*machine).leap
		case opCall:
			return (*machine).call
		case opExit:
			return (*machine).exit
		}
		fallthrough // the others have conditions, as all of 32 bits have
	case api.ClsJmp32:
		return (*machine).branch
	}
	return (*machine).alu
}

// operand answers register Src, or the instruction's own number.
func (r *machine) operand(x api.Ins, wide bool) (uint64, error) {
	if x.Op&api.ByReg != 0 {
		return r.get(x.Src)
	}
	return word.Imm(x.Imm, wide), nil
}

func (r *machine) alu(x api.Ins) error {
	op, wide, _ := legal.Alu(x.Op)
	dst, err := r.get(x.Dst)
	if err != nil && op != api.Mov {
		return err
	}
	y, err := r.operand(x, wide)
	if err != nil {
		return err
	}
	value, _ := word.Alu(op, dst, y, wide)
	r.put(x.Dst, value)
	return nil
}

func (r *machine) leap(x api.Ins) error {
	r.next += x.Off
	return nil
}

func (r *machine) branch(x api.Ins) error {
	cond, wide, _ := legal.Jump(x.Op)
	dst, err := r.get(x.Dst)
	if err != nil {
		return err
	}
	y, err := r.operand(x, wide)
	if err != nil {
		return err
	}
	if holds, _ := word.Cond(cond, dst, y, wide); holds {
		return r.leap(x)
	}
	return nil
}

func (r *machine) wide(x api.Ins) error {
	value := x.Wide
	if x.Src == 1 {
		value = mem.Address(api.FirstMap+x.Imm, 0)
	}
	r.put(x.Dst, value)
	r.next++ // behind the hole
	return nil
}

// span answers the bytes that an instruction accesses, from a register and Off on.
func span(x api.Ins, base uint64) api.Span {
	return api.Span{At: base + uint64(x.Off), N: legal.Size(x.Op)}
}

func (r *machine) load(x api.Ins) error {
	base, err := r.get(x.Src)
	if err != nil {
		return err
	}
	s := span(x, base)
	if err := r.access(s, false); err != nil {
		return err
	}
	if err := r.ready(s); err != nil {
		return err
	}
	r.put(x.Dst, word.Get(r.bytes(s)))
	return nil
}

func (r *machine) store(x api.Ins) error {
	base, err := r.get(x.Dst)
	if err != nil {
		return err
	}
	value := word.Imm(x.Imm, true)
	if class(x.Op) == api.ClsStx {
		if value, err = r.get(x.Src); err != nil {
			return err
		}
	}
	s := span(x, base)
	if err := r.access(s, true); err != nil {
		return err
	}
	copy(r.bytes(s), word.Put(value, s.N))
	r.mark(s)
	return nil
}

// args answers the registers that a helper takes.
func (r *machine) args(n int) ([]uint64, error) {
	h, _ := helper.Table(n)
	var l []uint64
	for i := range h.Args {
		x, err := r.get(firstArg + i)
		if err != nil {
			return nil, err
		}
		l = append(l, x)
	}
	return l, nil
}

func (r *machine) call(x api.Ins) error {
	args, err := r.args(x.Imm)
	if err != nil {
		return err
	}
	value, after, told, e := helper.Do(r.layout, r.memory, x.Imm, args, r.answers)
	if e != api.OK {
		return trap{api.TrapHelper, r.at}
	}
	reads, writes, _ := helper.Spans(x.Imm, args)
	if err := r.ready(reads); err != nil {
		return err
	}
	r.memory = after
	r.mark(writes)
	r.told = append(r.told, told)
	r.answers = r.answers[min(1, len(r.answers)):]
	clear(r.regs[firstArg : lastArg+1])
	r.put(0, value)
	return nil
}

func (r *machine) exit(api.Ins) error {
	if _, err := r.get(0); err != nil {
		return err
	}
	r.next = r.at // it ends here
	r.over = true
	return nil
}
