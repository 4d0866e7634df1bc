package ssa

import (
	"slices"

	"clevis/api"
	"clevis/legal"
)

// writer writes a part.
type writer struct {
	*builder
	part *api.Part
	now  registers
	at   int // the instruction
}

// put puts a node behind the others, and answers the value that it makes.
func (w *writer) put(n api.Node) int {
	n.Id, n.At = none, w.at
	if n.Op != api.NodeStore {
		n.Id = w.fresh()
	}
	w.part.Nodes = append(w.part.Nodes, n)
	return n.Id
}

func (w *writer) number(x uint64) int { return w.put(api.Node{Op: api.NodeNum, Imm: x}) }

// start makes what registers are ahead of the first instruction. One that is not set is a value too, since phis choose it for ways on which nobody reads it.
func (w *writer) start() {
	unset := w.number(0)
	for register := range w.now {
		w.now[register] = unset
	}
	w.now[context] = w.put(api.Node{Op: api.NodeContext})
	w.now[frame] = w.put(api.Node{Op: api.NodeFrame})
}

// block writes what a block does.
func (w *writer) block(b api.Block) {
	for w.at = b.From; w.at < b.To; w.at++ {
		x := w.program[w.at]
		value := w.do(x)
		if register, ok := sets(x); ok {
			w.now[register] = value
		}
	}
	w.at = b.Last
	w.ask(&w.part.End)
}

// ask fills in what a part's End asks.
func (w *writer) ask(t *api.Term) {
	x := w.program[w.at]
	switch t.Op {
	case api.TermIf:
		t.A, t.B = w.now[x.Dst], w.operand(x, t.Wide)
	case api.TermReturn:
		t.A = w.now[answer]
	}
}

// do writes an instruction, and answers the value that it makes. Of jumps the part's End asks; a hole is nothing.
func (w *writer) do(x api.Ins) int {
	operation, wide, ok := legal.Alu(x.Op)
	switch {
	case ok:
		return w.alu(x, operation, wide)
	case x.Op == api.OpWide:
		return w.number(whole(x))
	case x.Op == opCall:
		return w.put(api.Node{Op: api.NodeCall, Imm: uint64(x.Imm), Args: slices.Clone(w.now[first : first+arguments[x.Imm]])})
	case legal.Size(x.Op) > 0:
		return w.access(x)
	}
	return none
}

// operand answers the value that an instruction takes beside Dst.
func (w *writer) operand(x api.Ins, wide bool) int {
	if x.Op&api.ByReg != 0 {
		return w.now[x.Src]
	}
	return w.number(imm(x.Imm, wide))
}

// alu writes a reckoning. A copy is the same value, but that of a register's lower half.
func (w *writer) alu(x api.Ins, operation int, wide bool) int {
	a := w.now[x.Dst]
	b := a // Neg has one operand alone
	if operation != api.Neg {
		b = w.operand(x, wide)
	}
	if operation == api.Mov {
		if wide || x.Op&api.ByReg == 0 {
			return b
		}
		a = b // what is there now need not be kept for it
	}
	return w.put(api.Node{Op: api.NodeAlu, Alu: operation, Wide: wide, A: a, B: b})
}

// access writes a load or a store.
func (w *writer) access(x api.Ins) int {
	n := api.Node{Op: api.NodeStore, A: w.now[x.Dst], Size: legal.Size(x.Op), Off: x.Off, Guard: true}
	switch class(x.Op) {
	case api.ClsLdx:
		n.Op, n.A = api.NodeLoad, w.now[x.Src]
	case api.ClsStx:
		n.B = w.now[x.Src]
	default:
		n.B = w.number(imm(x.Imm, true))
	}
	return w.put(n)
}
