package ir_test

import (
	"math"
	"math/big"
	"math/rand/v2"
	"slices"
	"testing"

	"clevis/api"
	"clevis/ir"
	"clevis/mem"
)

// chance is a row of numbers that is the same one each time.
func chance() *rand.Rand { return rand.New(rand.NewPCG(16, 160)) }

// some answers an element of a list.
func some[T any](r *rand.Rand, l []T) T { return l[r.IntN(len(l))] }

// someWays answers parts without nodes that one can all come to, with their Pred.
func someWays(r *rand.Rand, n int) []api.Part {
	succ := make([][]int, n)
	for i := 1; i < n; i++ {
		from := max(0, i-1-r.IntN(3))
		for len(succ[from]) > 1 {
			from = r.IntN(i)
		}
		succ[from] = append(succ[from], i)
	}
	for i := range succ {
		for n > 1 && len(succ[i]) < 2 && r.IntN(2) == 0 {
			if to := 1 + r.IntN(n-1); !slices.Contains(succ[i], to) {
				succ[i] = append(succ[i], to)
			}
		}
	}
	parts := make([]api.Part, n)
	for i, row := range succ {
		r.Shuffle(len(row), func(a, b int) { row[a], row[b] = row[b], row[a] })
		switch len(row) {
		case 0:
			parts[i].End = back(0)
		case 1:
			parts[i].End = on(row[0])
		case 2:
			parts[i].End = when(some(r, modelConditions), 0, 0, row[0], row[1])
			parts[i].End.Wide = r.IntN(2) == 0
		}
		for _, to := range row {
			parts[to].Pred = append(parts[to].Pred, i)
		}
	}
	return parts
}

// someNode answers a node that uses nothing yet.
func someNode(r *rand.Rand) api.Node {
	n := api.Node{At: r.IntN(4096), Wide: r.IntN(2) == 0, Guard: r.IntN(2) == 0}
	switch r.IntN(12) {
	case 0, 1:
		n.Op, n.Imm = api.NodeNum, some(r, []uint64{0, 1, 2, 3, 8, 9, 64, 65, 1 << 31, 1 << 32, r.Uint64()})
	case 2:
		n.Op, n.Imm = api.NodeNum, mem.Address(some(r, []int{3, 3, 3, 4, 5, 6}), r.IntN(12))
	case 3:
		n.Op = some(r, []api.NodeOp{api.NodeContext, api.NodeFrame})
	case 4, 5, 6:
		n.Op, n.Alu = api.NodeAlu, 16*r.IntN(13)
	case 7, 8:
		n.Op, n.Size, n.Off = api.NodeLoad, some(r, []int{1, 2, 4, 8}), r.IntN(12)-2
	case 9, 10:
		n.Op, n.Size, n.Off = api.NodeStore, some(r, []int{1, 2, 4, 8}), r.IntN(12)-2
	case 11:
		n.Op, n.Imm = api.NodeCall, uint64(1+r.IntN(5))
		n.Args = make([]int, []int{0, 0, 1, 2, 2, 3}[n.Imm])
	}
	return n
}

// start is the nodes that each first part begins with: an address in each of the sample's regions, and numbers.
func start() []api.Node {
	return []api.Node{context(0), frame(0), to(0, 3, 2), to(0, 4, 2), to(0, 2, 100), num(0, 8), num(0, 3), num(0, 0)}
}

// someCode answers code that may be.
func someCode(r *rand.Rand) api.Ir {
	f := api.Ir{Parts: someWays(r, 1+r.IntN(8))}
	f.Parts[0].Nodes = start()
	for i := range f.Parts {
		p := &f.Parts[i]
		for range r.IntN(4) {
			if len(p.Pred) > 0 {
				p.Phis = append(p.Phis, phi(0, make([]int, len(p.Pred))...))
			}
		}
		for range some(r, []int{0, 1, 2, 3, 4, 5, 16}) {
			p.Nodes = append(p.Nodes, someNode(r))
		}
	}
	f.Values = numbered(r, f)
	choose(r, f)
	return f
}

// numbered gives each value a number, in no order, and answers below which all are.
func numbered(r *rand.Rand, f api.Ir) int {
	var l []*int
	for _, p := range f.Parts {
		for i := range p.Phis {
			l = append(l, &p.Phis[i].Id)
		}
		for i := range p.Nodes {
			if n := &p.Nodes[i]; n.Op == api.NodeStore {
				n.Id = -1
			} else {
				l = append(l, &n.Id)
			}
		}
	}
	values := len(l) + r.IntN(3)
	for i, id := range r.Perm(values)[:len(l)] {
		*l[i] = id
	}
	return values
}

// choose lets all that uses something use what is made ahead, mostly what is not far.
func choose(r *rand.Rand, f api.Ir) {
	ahead, behind := modelSets(f)
	var places []int // addresses that there are
	for _, n := range f.Parts[0].Nodes[:5] {
		places = append(places, n.Id)
	}
	from := func(set *big.Int, near []int) int {
		if len(near) > 0 && r.IntN(2) == 0 {
			return some(r, near)
		}
		for {
			if id := r.IntN(f.Values); set.Bit(id) == 1 {
				return id
			}
		}
	}
	for i, p := range f.Parts {
		set := new(big.Int).Set(ahead[i])
		var near []int
		for _, x := range p.Phis {
			for way, pred := range p.Pred {
				x.From[way] = from(behind[pred], nil)
			}
			near = append(near, x.Id)
			set.SetBit(set, x.Id, 1)
		}
		for j := range p.Nodes {
			n := &p.Nodes[j]
			uses(r, n, func() int { return from(set, near) }, places, f.Parts[0].Nodes[5].Id)
			if n.Id >= 0 {
				near = append(near, n.Id)
				set.SetBit(set, n.Id, 1)
			}
		}
		e := &f.Parts[i].End
		switch e.Op {
		case api.TermIf:
			e.A, e.B = from(set, near), from(set, near)
		case api.TermReturn:
			e.A = from(set, near)
		}
	}
}

// uses lets a node use something; as an address mostly one, and as a size a small number.
func uses(r *rand.Rand, n *api.Node, any func() int, places []int, size int) {
	place := func() int {
		if r.IntN(8) == 0 {
			return any()
		}
		return some(r, places)
	}
	switch n.Op {
	case api.NodeAlu:
		n.A, n.B = any(), any()
	case api.NodeLoad, api.NodeStore:
		n.A, n.B = place(), any()
	case api.NodeCall:
		for i := range n.Args {
			n.Args[i] = any()
		}
		if n.Imm == 3 || n.Imm == 4 {
			n.Args[0], n.Args[1] = place(), size
		}
	}
}

func someAnswers(r *rand.Rand) []uint64 {
	var l []uint64
	for range r.IntN(4) {
		l = append(l, r.Uint64()>>r.IntN(64))
	}
	return l
}

func TestRunByChanceAgainstTheModel(t *testing.T) {
	r := chance()
	l, m := sample()
	before := clone(m)
	kinds, traps, told := map[api.EndKind]int{}, map[api.TrapKind]int{}, 0
	for range 12000 {
		f, answers, fuel := someCode(r), someAnswers(r), r.IntN(120)
		asks(t, "code by chance", f, yes)
		got, e := ir.Run(l, f, m, answers, fuel)
		want := modelRun(l, f, m, answers, fuel)
		if e != api.OK || !sameEnd(got, want) {
			t.Fatalf("Run(%v, %v, %d) = %s, %d; want %s", f, answers, fuel, brief(got), e, brief(want))
		}
		kinds[got.Kind]++
		traps[got.Trap]++
		told += len(got.Told)
	}
	for _, k := range []api.EndKind{api.EndReturn, api.EndTrap, api.EndFuel} {
		if kinds[k] < 1000 {
			t.Errorf("only %d runs ended by %d", kinds[k], k)
		}
	}
	for _, k := range []api.TrapKind{api.TrapWild, api.TrapGuard, api.TrapHelper} {
		if traps[k] < 300 {
			t.Errorf("only %d runs ended by trap %d", traps[k], k)
		}
	}
	if told < 3000 {
		t.Errorf("only %d calls were told", told)
	}
	if !sameMemory(m, before) {
		t.Error("Run changed the memory that was handed in")
	}
}

func TestMoreFuelChangesNothingThatHasEnded(t *testing.T) {
	r := chance()
	l, m := sample()
	ends := map[api.EndKind]int{}
	for range 1000 {
		f, answers := someCode(r), someAnswers(r)
		whole, _ := ir.Run(l, f, m, answers, 100)
		ends[whole.Kind]++
		for fuel := range whole.Steps + 3 {
			got, e := ir.Run(l, f, m, answers, fuel)
			ended := fuel >= whole.Steps && whole.Kind != api.EndFuel
			switch {
			case e != api.OK:
				t.Fatalf("Run(%v) with fuel %d: %d", f, fuel, e)
			case ended && !sameEnd(got, whole):
				t.Fatalf("Run(%v) with fuel %d: %s; with more %s", f, fuel, brief(got), brief(whole))
			case !ended && (got.Kind != api.EndFuel || got.Steps != fuel || got.Value != 0 || got.Trap != 0 || got.At != 0):
				t.Fatalf("Run(%v) with fuel %d: %s; with more it does %d steps", f, fuel, brief(got), whole.Steps)
			case fuel <= whole.Steps && !begins(got.Told, whole.Told):
				t.Fatalf("Run(%v) with fuel %d tells %v; with more %v", f, fuel, got.Told, whole.Told)
			}
		}
		if whole.Kind != api.EndFuel {
			if got, _ := ir.Run(l, f, m, answers, 1<<30); !sameEnd(got, whole) {
				t.Fatalf("Run(%v) with all fuel: %s; with less %s", f, brief(got), brief(whole))
			}
		}
	}
	for _, k := range []api.EndKind{api.EndReturn, api.EndTrap, api.EndFuel} {
		if ends[k] < 50 {
			t.Errorf("only %d runs ended by %d", ends[k], k)
		}
	}
}

// spoil changes something of code.
func spoil(r *rand.Rand, f *api.Ir) {
	i := r.IntN(len(f.Parts))
	p := &f.Parts[i]
	value := func() int { return r.IntN(max(f.Values, 0)+4) - 2 }
	number := func() int { return r.IntN(len(f.Parts)+2) - 1 }
	switch r.IntN(14) {
	case 0:
		f.Values += r.IntN(3) - 1
	case 1:
		p.Pred = append(p.Pred, number())
	case 2:
		if len(p.Pred) > 0 {
			p.Pred[r.IntN(len(p.Pred))] = number()
		}
	case 3:
		p.End.To = number()
	case 4:
		p.End.Else = number()
	case 5:
		p.End.A, p.End.B = value(), value()
	case 6:
		p.End.Op = api.TermOp(r.IntN(5))
	case 7:
		p.End.Cond = 16 * r.IntN(16)
	case 8:
		j := r.IntN(len(f.Parts))
		*p, f.Parts[j] = f.Parts[j], *p
	case 9, 10:
		spoilPhis(r, p, value)
	default:
		spoilNodes(r, p, value)
	}
}

func spoilPhis(r *rand.Rand, p *api.Part, value func() int) {
	if len(p.Phis) == 0 {
		p.Phis = append(p.Phis, phi(value(), slices.Repeat([]int{value()}, len(p.Pred))...))
		return
	}
	at := r.IntN(len(p.Phis))
	x := &p.Phis[at]
	kind := r.IntN(5)
	switch {
	case kind == 0:
		x.Id = value()
	case kind == 1:
		p.Phis = slices.Delete(p.Phis, at, at+1)
	case kind == 2 || len(x.From) == 0:
		x.From = append(x.From, value())
	case kind == 3:
		x.From = x.From[1:]
	default:
		x.From[r.IntN(len(x.From))] = value()
	}
}

func spoilNodes(r *rand.Rand, p *api.Part, value func() int) {
	if len(p.Nodes) == 0 {
		p.Nodes = append(p.Nodes, num(value(), 5))
		return
	}
	at, other := r.IntN(len(p.Nodes)), r.IntN(len(p.Nodes))
	n := &p.Nodes[at]
	switch r.IntN(11) {
	case 0:
		n.Id = value()
	case 1:
		n.Op = api.NodeOp(r.IntN(9))
	case 2:
		n.A = value()
	case 3:
		n.B = value()
	case 4:
		n.Imm = uint64(r.IntN(7))
	case 5:
		n.Size = r.IntN(10)
	case 6:
		n.Alu += some(r, []int{-16, 1, 16})
	case 7:
		n.Args = append(n.Args, value())
	case 8:
		p.Nodes = slices.Delete(p.Nodes, at, at+1)
	case 9:
		*n, p.Nodes[other] = p.Nodes[other], *n
	default:
		if len(n.Args) > 0 {
			n.Args[r.IntN(len(n.Args))] = value()
		}
	}
}

// TestCheckByChanceAgainstTheModel asks of code that is changed a little, again and again.
func TestCheckByChanceAgainstTheModel(t *testing.T) {
	r := chance()
	may := map[bool]int{}
	for range 12000 {
		f := someCode(r)
		for range 6 {
			spoil(r, &f)
			want := modelCheck(f)
			may[want]++
			if got := ir.Check(f) == api.OK; got != want {
				t.Fatalf("Check(%v) = %v; want %v", f, got, want)
			}
		}
	}
	if may[yes] < 5000 || may[no] < 5000 {
		t.Errorf("%d times it may be, %d times not", may[yes], may[no])
	}
}

// junk answers code of numbers that are seldom right.
func junk(r *rand.Rand) api.Ir {
	n := func() int {
		return some(r, []int{0, 0, 1, 1, 2, 3, 4, 5, 8, 16, -1, -2, 1 << 15, math.MaxInt, math.MinInt, int(r.Uint64())})
	}
	list := func() []int {
		var l []int
		for range r.IntN(4) {
			l = append(l, n())
		}
		return l
	}
	f := api.Ir{Values: n()}
	for range r.IntN(4) {
		p := api.Part{Pred: list(), End: api.Term{Op: api.TermOp(n()), Cond: n(), A: n(), B: n(), To: n(), Else: n()}}
		for range r.IntN(3) {
			p.Phis = append(p.Phis, api.Phi{Id: n(), From: list()})
		}
		for range r.IntN(4) {
			p.Nodes = append(p.Nodes, api.Node{Op: api.NodeOp(n()), Id: n(), Alu: n(), A: n(), B: n(), Imm: uint64(n()), Size: n(), Off: n(), Args: list(), At: n()})
		}
		f.Parts = append(f.Parts, p)
	}
	return f
}

// TestJunk: no call panics, whatever it is handed.
func TestJunk(t *testing.T) {
	r := chance()
	l, m := sample()
	for range 100000 {
		f := junk(r)
		want := modelCheck(f)
		if got := ir.Check(f) == api.OK; got != want {
			t.Fatalf("Check(%v) = %v; want %v", f, got, want)
		}
		if got, e := ir.Run(l, f, m, nil, 50); (e == api.OK) != want || !want && !sameEnd(got, api.End{}) {
			t.Fatalf("Run(%v) = %s, %d", f, brief(got), e)
		}
		rows := ir.Succ(f)
		for i, p := range f.Parts {
			if !slices.Equal(rows[i], modelSucc(p.End)) {
				t.Fatalf("Succ(%v) = %v", f, rows)
			}
			for _, n := range p.Nodes {
				if got := ir.Uses(n); !slices.Equal(got, modelUses(n)) {
					t.Fatalf("Uses(%v) = %v", n, got)
				}
			}
		}
	}
}
