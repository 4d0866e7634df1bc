package astep

import (
	"clevis/api"
	"clevis/bound"
	"clevis/helper"
	"clevis/state"
)

// The registers of a helper's arguments, which a call leaves unset.
const (
	firstArg = 1
	lastArg  = 5
)

// buffer is bytes that a helper is handed: where they lie, and from least to most of them.
type buffer struct {
	api.Fact
	least, most int
}

// ends answers where the bytes may begin, and where they end at the latest.
func (b buffer) ends() (int, int) { return int(b.Low), int(b.High) + b.most }

func (t step) call() (outcome, error) {
	h, _ := helper.Table(t.Imm)
	after := twin(t.before)
	for i, kind := range h.Args {
		b, err := t.argument(kind, firstArg+i, h.Most)
		if err != nil {
			return outcome{}, err
		}
		if kind == api.ArgWrite && b.Region == api.Stack {
			after = filled(after, b)
		}
	}
	after.Regs[0] = number(bound.Any())
	clear(after.Regs[firstArg : lastArg+1])
	return t.on(after), nil
}

// argument answers the bytes that an argument hands over: none, if it is no address.
func (t step) argument(kind api.ArgKind, r int, most int) (buffer, error) {
	switch kind {
	case api.ArgScalar:
		if t.before.Regs[r].Kind != api.Number {
			return buffer{}, t.harm(unfit)
		}
	case api.ArgRead:
		return t.read(r, most)
	case api.ArgWrite:
		return t.buffer(r, most, true)
	}
	return buffer{}, nil // a size is looked at with its address
}

// read answers the bytes at an address that a helper reads.
func (t step) read(r int, most int) (buffer, error) {
	b, err := t.buffer(r, most, false)
	if err != nil {
		return buffer{}, err
	}
	low, end := b.ends()
	if b.Region == api.Stack && !state.Ready(t.before, low, end) {
		return buffer{}, t.harm(unready)
	}
	return b, nil
}

// buffer answers the bytes at an address, behind which their number stands.
func (t step) buffer(r int, most int, write bool) (buffer, error) {
	base, size := t.before.Regs[r], t.before.Regs[r+1]
	if size.Kind != api.Number || size.Num.Umin < 1 || size.Num.Umax > uint64(most) {
		return buffer{}, t.harm(unfit)
	}
	b := buffer{least: int(size.Num.Umin), most: int(size.Num.Umax)}
	f, err := t.access(base, 0, b.most, write)
	b.Fact = f
	return b, err
}

// filled answers what is known of the stack behind a helper that wrote there: as many bytes as it writes at least are set, if it is known where, and no register lies where it may have written.
func filled(s api.Abs, b buffer) api.Abs {
	low, end := b.ends()
	after := state.Store(s, low, int(b.High), b.most, api.Known{})
	copy(after.Set[low+b.least:end], s.Set[low+b.least:end])
	return after
}
