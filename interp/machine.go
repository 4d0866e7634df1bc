package interp

import (
	"bytes"
	"errors"
	"slices"

	"clevis/api"
	"clevis/mem"
)

// top is the register of the stack's end.
const top = api.Registers - 1

// register is a number, once it is set.
type register struct {
	value uint64
	set   bool
}

// machine is a run: how far it has come.
type machine struct {
	layout  api.Layout
	program []api.Ins
	memory  api.Memory // the run's own, so stores are done in place
	answers []uint64   // those that are left
	regs    [api.Registers]register
	written [api.StackSize]bool // which bytes of the stack are set
	at      int
	next    int // where it goes on behind this step
	over    bool
	told    []api.Told
}

func begin(l api.Layout, p []api.Ins, m api.Memory, answers []uint64) *machine {
	r := &machine{layout: l, program: p, answers: answers}
	for _, b := range m {
		r.memory = append(r.memory, bytes.Clone(b))
	}
	r.put(1, mem.Address(api.Context, 0))
	r.put(top, mem.Address(api.Stack, api.StackSize))
	return r
}

// run goes on as long as there is fuel, and answers how many steps were done.
func (r *machine) run(fuel int) (int, error) {
	for done := range fuel {
		if err := r.step(); err != nil || r.over {
			return done + 1, err
		}
	}
	return fuel, nil
}

// step does the instruction at which the run is; one that traps changes nothing.
func (r *machine) step() error {
	x := r.program[r.at]
	r.next = r.at + 1
	if err := action(x.Op)(r, x); err != nil {
		return err
	}
	r.at = r.next
	return nil
}

// end tells how the run ended.
func (r *machine) end(steps int, err error) api.End {
	e := api.End{Kind: api.EndFuel, At: r.at, Steps: steps, Told: r.told, Mem: r.memory}
	var t trap
	switch {
	case errors.As(err, &t):
		e.Kind, e.Trap = api.EndTrap, t.kind
	case r.over:
		e.Kind, e.Value = api.EndReturn, r.regs[0].value
	}
	return e
}

// get answers a register that is needed.
func (r *machine) get(i int) (uint64, error) {
	if !r.regs[i].set {
		return 0, trap{api.TrapReg, r.at}
	}
	return r.regs[i].value, nil
}

func (r *machine) put(i int, x uint64) { r.regs[i] = register{x, true} }

// access tells why a span may not be accessed.
func (r *machine) access(s api.Span, write bool) error {
	switch mem.Access(r.layout, s.At, s.N, write) {
	case api.OK:
		return nil
	case api.ErrPerm:
		return trap{api.TrapPerm, r.at}
	}
	return trap{api.TrapRange, r.at}
}

// bytes answers the memory's own bytes of a span that may be accessed.
func (r *machine) bytes(s api.Span) []byte {
	region, off := mem.Split(s.At)
	return r.memory[region-api.Context][off : off+s.N]
}

// marks answers, of a span that may be accessed and lies on the stack, which of its bytes are set; nothing of others.
func (r *machine) marks(s api.Span) []bool {
	region, off := mem.Split(s.At)
	if region != api.Stack {
		return nil
	}
	return r.written[off : off+s.N]
}

// ready tells why a span may not be read, though it may be accessed.
func (r *machine) ready(s api.Span) error {
	if slices.Contains(r.marks(s), false) {
		return trap{api.TrapStack, r.at}
	}
	return nil
}

func (r *machine) mark(s api.Span) {
	l := r.marks(s)
	for i := range l {
		l[i] = true
	}
}
