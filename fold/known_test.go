package fold_test

import (
	"fmt"
	"math"
	"slices"
	"testing"

	"clevis/api"
	"clevis/fold"
	"clevis/word"
)

// TestTheExample is the chapter's: 2 and 3 added.
func TestTheExample(t *testing.T) {
	f := one(3, back(2), num(0, 2), num(1, 3), add(2, 0, 1))
	knows(t, "2 and 3 added", f, is(2), is(3), is(5))
	folds(t, "2 and 3 added", f, one(3, back(2), num(0, 2), num(1, 3), num(2, 5)))
}

// TestNodes: of all nodes but those of numbers and reckonings nothing is known, and of a value that nothing makes neither.
func TestNodes(t *testing.T) {
	for _, x := range []uint64{0, 1, 1 << 32, 1 << 63, math.MaxUint64} {
		knows(t, "a number", one(1, back(0), num(0, x)), is(x))
	}
	f := one(8, back(4), context(0), frame(5), num(6, 9), load(4, 0, 0), store(5, -8, 6), load(1, 5, -8), now(3))
	knows(t, "what is no number", f, unknown, unknown, unknown, unknown, unknown, unknown, is(9), unknown)
	f = one(4, back(3), num(0, 1), num(1, 2), num(2, 3), call(3, 5, 0, 1, 2))
	knows(t, "a helper of known numbers", f, is(1), is(2), is(3), unknown)
	f = one(2, back(1), num(0, 5), call(1, 2, 0))
	knows(t, "a helper of nought", f, is(5), unknown)
	knows(t, "no values", code(0, part(nil, on(1)), part([]int{0, 1}, on(1))))
	knows(t, "none that is made", code(2, part(nil, on(1)), part([]int{0, 1}, on(1))), unknown, unknown)
	most := make([]api.Tnum, 65536)
	for i := range most {
		most[i] = unknown
	}
	most[65535] = is(0)
	knows(t, "the last one", one(65536, back(65535), num(65535, 0)), most...)
}

// wanted says of an operation what is known of its value, of operands that are or are not known; same, if both are one value.
func wanted(op int, wide bool, a, b api.Tnum, same bool) api.Tnum {
	x, _ := word.Alu(op, a.Value, b.Value, wide)
	switch {
	case a.Mask == 0 && b.Mask == 0:
		return is(x)
	case op == api.Mov && b.Mask == 0, op == api.Neg && a.Mask == 0:
		return is(x)
	case op == api.And || op == api.Mul:
		if a == is(0) || b == is(0) {
			return is(0)
		}
	case op == api.Sub || op == api.Xor:
		if same {
			return is(0)
		}
	case op == api.Div:
		if b == is(0) {
			return is(0)
		}
	}
	return unknown
}

// operand makes a value of which that is known.
func operand(id int, x api.Tnum) api.Node {
	if x == unknown {
		return now(id)
	}
	return num(id, x.Value)
}

// TestReckoning: each operation, of 64 and of 32 bits, of operands that are or are not known, or are one value.
func TestReckoning(t *testing.T) {
	operands := []api.Tnum{unknown}
	for _, x := range []uint64{0, 1, 2, 7, 31, 32, 63, 64, 1<<31 - 1, 1 << 31, 1<<32 - 1, 1 << 32, 1<<32 + 5, 1 << 63, math.MaxUint64} {
		operands = append(operands, is(x))
	}
	for op := 0; op <= 0xc0; op += 0x10 {
		for _, wide := range []bool{wide, narrow} {
			for _, a := range operands {
				for _, b := range operands {
					name := fmt.Sprintf("%#x, wide %v, of %v and %v", op, wide, a, b)
					want := wanted(op, wide, a, b, false)
					f := one(3, back(2), operand(0, a), operand(1, b), from(7, alu(2, op, wide, 0, 1)))
					knows(t, name, f, a, b, want)
					g := copied(f)
					if want != unknown {
						g.Parts[0].Nodes[2] = from(7, num(2, want.Value))
					}
					folds(t, name, f, g)
				}
				want := wanted(op, wide, a, a, true)
				f := one(2, back(1), operand(0, a), alu(1, op, wide, 0, 0))
				knows(t, fmt.Sprintf("%#x, wide %v, of %v and itself", op, wide, a), f, a, want)
			}
		}
	}
}

// TestWhatIsKnownOfOneOperand: the edges that the chapter names, one by one.
func TestWhatIsKnownOfOneOperand(t *testing.T) {
	for _, c := range []struct {
		name string
		want api.Tnum
		x    uint64 // value 0; value 1 is not known
		n    api.Node
	}{
		{"and, 0 ahead", is(0), 0, alu(2, api.And, wide, 0, 1)},
		{"and, 0 behind", is(0), 0, alu(2, api.And, wide, 1, 0)},
		{"and of 32 bits, 0 ahead", is(0), 0, alu(2, api.And, narrow, 0, 1)},
		{"and of 32 bits, 0 behind", is(0), 0, alu(2, api.And, narrow, 1, 0)},
		{"and of 32 bits, 2^32", unknown, 1 << 32, alu(2, api.And, narrow, 1, 0)},
		{"and, 1", unknown, 1, alu(2, api.And, wide, 1, 0)},
		{"product, 0 ahead", is(0), 0, alu(2, api.Mul, wide, 0, 1)},
		{"product, 0 behind", is(0), 0, alu(2, api.Mul, wide, 1, 0)},
		{"product of 32 bits, 0 ahead", is(0), 0, alu(2, api.Mul, narrow, 0, 1)},
		{"product of 32 bits, 0 behind", is(0), 0, alu(2, api.Mul, narrow, 1, 0)},
		{"product of 32 bits, 2^32", unknown, 1 << 32, alu(2, api.Mul, narrow, 0, 1)},
		{"by 0", is(0), 0, alu(2, api.Div, wide, 1, 0)},
		{"of 32 bits by 0", is(0), 0, alu(2, api.Div, narrow, 1, 0)},
		{"of 32 bits by 2^32", unknown, 1 << 32, alu(2, api.Div, narrow, 1, 0)},
		{"0 by something", unknown, 0, alu(2, api.Div, wide, 0, 1)},
		{"the rest by 0", unknown, 0, alu(2, api.Mod, wide, 1, 0)},
		{"the rest of 0", unknown, 0, alu(2, api.Mod, wide, 0, 1)},
		{"the rest by 1", unknown, 1, alu(2, api.Mod, wide, 1, 0)},
		{"0 shifted", unknown, 0, alu(2, api.Lsh, wide, 0, 1)},
		{"or, all bits", unknown, math.MaxUint64, alu(2, api.Or, wide, 0, 1)},
		{"less itself", is(0), 0, alu(2, api.Sub, wide, 1, 1)},
		{"of 32 bits less itself", is(0), 0, alu(2, api.Sub, narrow, 1, 1)},
		{"exclusive-or of itself", is(0), 0, alu(2, api.Xor, wide, 1, 1)},
		{"of 32 bits exclusive-or of itself", is(0), 0, alu(2, api.Xor, narrow, 1, 1)},
		{"by itself", unknown, 0, alu(2, api.Div, wide, 1, 1)},
		{"the rest by itself", unknown, 0, alu(2, api.Mod, wide, 1, 1)},
		{"and of itself", unknown, 0, alu(2, api.And, wide, 1, 1)},
		{"a number, whatever A is", is(5), 5, alu(2, api.Mov, wide, 1, 0)},
		{"a number's lower half", is(5), 1<<32 + 5, alu(2, api.Mov, narrow, 1, 0)},
		{"what is not known, with A known", unknown, 5, alu(2, api.Mov, wide, 0, 1)},
		{"0 less a number, whatever B is", is(1<<64 - 5), 5, alu(2, api.Neg, wide, 0, 1)},
		{"of 32 bits 0 less a number", is(1<<32 - 5), 5, alu(2, api.Neg, narrow, 0, 1)},
		{"0 less what is not known, with B known", unknown, 0, alu(2, api.Neg, wide, 1, 0)},
	} {
		knows(t, c.name, one(3, back(2), num(0, c.x), now(1), c.n), is(c.x), unknown, c.want)
	}
	f := one(4, back(2), now(0), alu(1, api.Mov, wide, 0, 0), alu(2, api.Sub, wide, 0, 1), alu(3, api.Xor, narrow, 1, 0))
	knows(t, "copies are not one value", f, unknown, unknown, unknown, unknown)
}

// joined answers code in which part 3 chooses by the way from part 1 or 2; value 0 is not known, and nodes stand ahead of both.
func joined(values int, l []api.Phi, nodes ...api.Node) api.Ir {
	return code(values,
		part(nil, when(api.Jeq, 0, 1, 1, 2), append([]api.Node{now(0), num(1, 5)}, nodes...)...),
		part([]int{0}, on(3)), part([]int{0}, on(3)),
		chosen([]int{1, 2}, l, back(2)))
}

func TestPhis(t *testing.T) {
	knows(t, "one value", joined(3, phis(phi(2, 1, 1))), unknown, is(5), is(5))
	knows(t, "one number", joined(4, phis(phi(2, 1, 3)), num(3, 5)), unknown, is(5), is(5), is(5))
	knows(t, "two numbers", joined(4, phis(phi(2, 1, 3)), num(3, 1<<32+5)), unknown, is(5), unknown, is(1<<32+5))
	knows(t, "0 and what is not known", joined(4, phis(phi(2, 0, 3)), num(3, 0)), unknown, is(5), unknown, is(0))
	knows(t, "what is not known, first", joined(3, phis(phi(2, 0, 1))), unknown, is(5), unknown)
	knows(t, "what is not known, last", joined(3, phis(phi(2, 1, 0))), unknown, is(5), unknown)
	knows(t, "one value that is not known", joined(3, phis(phi(2, 0, 0))), unknown, is(5), unknown)
	knows(t, "the greatest number", joined(5, phis(phi(2, 3, 4)), num(3, 1<<64-1), num(4, 1<<64-1)), unknown, is(5), is(1<<64-1), is(1<<64-1), is(1<<64-1))
	knows(t, "two phis", joined(5, phis(phi(2, 1, 3), phi(4, 3, 3)), num(3, 5)), unknown, is(5), is(5), is(5), is(5))
	knows(t, "less itself", joined(4, phis(phi(3, 2, 2)), alu(2, api.Sub, wide, 0, 0)), unknown, is(5), is(0), is(0))
	knows(t, "no way there is", code(2, chosen(nil, phis(phi(0)), back(1), add(1, 0, 0))), unknown, unknown)
	f := code(2, part(nil, on(1), num(0, 7)), chosen([]int{0}, phis(phi(1, 0)), back(1)))
	knows(t, "one way", f, is(7), is(7))
}

// round answers code whose part 1 leads to itself and on; part 0 makes values 0 (not known) and 1 (5), and other nodes.
func round(values int, ahead []api.Node, l []api.Phi, nodes ...api.Node) api.Ir {
	return code(values,
		part(nil, on(1), append([]api.Node{now(0), num(1, 5)}, ahead...)...),
		chosen([]int{0, 1}, l, when(api.Jgt, 0, 1, 1, 2), nodes...),
		part([]int{1}, back(0)))
}

// TestPhisInLoops: itself is passed over, but what comes of it must be known by something else.
func TestPhisInLoops(t *testing.T) {
	knows(t, "itself", round(3, nil, phis(phi(2, 1, 2))), unknown, is(5), is(5))
	knows(t, "itself, and not known", round(3, nil, phis(phi(2, 0, 2))), unknown, is(5), unknown)
	knows(t, "a copy of itself", round(4, nil, phis(phi(2, 1, 3)), alu(3, api.Mov, wide, 2, 2)), unknown, is(5), unknown, unknown)
	knows(t, "itself and 0", round(5, []api.Node{num(4, 0)}, phis(phi(2, 1, 3)), add(3, 2, 4)), unknown, is(5), unknown, unknown, is(0))
	knows(t, "by one another", round(4, nil, phis(phi(2, 1, 3), phi(3, 1, 2))), unknown, is(5), unknown, unknown)
	knows(t, "by one that is passed over", round(4, nil, phis(phi(2, 1, 2), phi(3, 1, 2))), unknown, is(5), is(5), is(5))
	knows(t, "by one behind it", round(4, nil, phis(phi(3, 1, 2), phi(2, 1, 2))), unknown, is(5), is(5), is(5))
	knows(t, "a product of itself and 0", round(5, []api.Node{num(4, 0)}, phis(phi(2, 4, 3)), alu(3, api.Mul, wide, 2, 4)), unknown, is(5), is(0), is(0), is(0))
	knows(t, "the same, from another number on", round(5, []api.Node{num(4, 0)}, phis(phi(2, 1, 3)), alu(3, api.Mul, wide, 2, 4)), unknown, is(5), unknown, is(0), is(0))
	knows(t, "less itself", round(5, []api.Node{num(4, 0)}, phis(phi(2, 4, 3)), alu(3, api.Sub, narrow, 2, 2)), unknown, is(5), is(0), is(0), is(0))
	knows(t, "counted", round(5, []api.Node{num(4, 1)}, phis(phi(2, 1, 3)), add(3, 2, 4)), unknown, is(5), unknown, unknown, is(1))
	knows(t, "itself on two ways", code(4,
		part(nil, on(1), now(0), num(1, 5)),
		chosen([]int{0, 2, 3}, phis(phi(2, 1, 2, 2), phi(3, 1, 3, 2)), when(api.Jgt, 0, 1, 2, 3)),
		part([]int{1}, on(1)), part([]int{1}, on(1))), unknown, is(5), is(5), is(5))
}

// TestEndsAreNotAsked: what is known hangs on what phis choose, not on which ways one may go.
func TestEndsAreNotAsked(t *testing.T) {
	f := code(4,
		part(nil, when(api.Jeq, 0, 0, 1, 2), num(0, 1), num(1, 2)),
		part([]int{0}, on(3)), part([]int{0}, on(3)),
		chosen([]int{1, 2}, phis(phi(2, 0, 1)), back(3), add(3, 2, 2)))
	knows(t, "a way that is never gone", f, is(1), is(2), unknown, unknown)
	g, e := fold.Fold(f)
	want := code(4, part(nil, on(1), num(0, 1), num(1, 2)), part([]int{0}, on(2)), chosen([]int{1}, phis(phi(2, 0)), back(3), add(3, 2, 2)))
	if e != api.OK || !sameCode(g, want) {
		t.Errorf("Fold(%v) = %v, %d", f, g, e)
	}
	knows(t, "the same, folded", g, is(1), is(2), is(1), is(2))
	folds(t, "the same, folded once more", g, code(4, part(nil, on(1), num(0, 1), num(1, 2)), part([]int{0}, on(2)), chosen([]int{1}, phis(phi(2, 0)), back(3), num(3, 2))))
}

// TestAgainAndAgain: parts stand in no order, so what is known may be found from the last one up.
func TestAgainAndAgain(t *testing.T) {
	f := code(7,
		part(nil, on(4), num(0, 1)),
		part([]int{2}, back(6), add(6, 5, 5)),
		part([]int{3}, on(1), add(5, 4, 4), add(1, 4, 5)),
		part([]int{4}, on(2), add(4, 3, 2)),
		part([]int{0}, on(3), add(2, 0, 0), add(3, 2, 0)))
	knows(t, "from below", f, is(1), is(15), is(2), is(3), is(5), is(10), is(20))
}

// wrong is code that may not be.
func wrong() map[string]api.Ir {
	right := one(1, back(0), num(0, 5))
	late := one(2, back(0), add(0, 1, 1), num(1, 5))
	led := code(1, part([]int{0}, on(0), num(0, 5)))
	stray := code(1, right.Parts[0], right.Parts[0])
	return map[string]api.Ir{
		"nothing":                   {},
		"no parts":                  {Values: 1},
		"values below 0":            {Parts: right.Parts, Values: -1},
		"the least values":          {Parts: right.Parts, Values: math.MinInt},
		"too many values":           {Parts: right.Parts, Values: 65537},
		"the most values":           {Parts: right.Parts, Values: math.MaxInt},
		"a value too few":           {Parts: right.Parts},
		"no End":                    one(1, api.Term{}, num(0, 5)),
		"a way to no part":          one(1, on(1), num(0, 5)),
		"a way far off":             one(1, on(math.MinInt), num(0, 5)),
		"a way back to the first":   led,
		"a part nobody comes to":    stray,
		"a value made behind":       late,
		"a value that is none":      one(1, back(-1), num(0, 5)),
		"one value twice":           one(1, back(0), num(0, 5), num(0, 5)),
		"no operation":              one(2, back(0), num(0, 5), alu(1, 0xd0, wide, 0, 0)),
		"no condition":              code(1, part(nil, when(api.Ja, 0, 0, 1, 2), num(0, 5)), part([]int{0}, back(0)), part([]int{0}, back(0))),
		"two ways to one part":      code(1, part(nil, when(api.Jeq, 0, 0, 1, 1), num(0, 5)), part([]int{0}, back(0))),
		"a phi without From":        code(2, part(nil, on(1), num(0, 5)), chosen([]int{0}, phis(phi(1)), back(1))),
		"Pred that do not lead":     code(1, part(nil, on(1), num(0, 5)), part(nil, back(0))),
		"too many parts":            code(1, slices.Repeat(right.Parts, 8193)...),
		"a node that is none":       one(1, back(0), api.Node{Op: 8}),
		"a helper without its Args": one(1, back(0), call(0, 2)),
	}
}

func TestWrongCode(t *testing.T) {
	for name, f := range wrong() {
		if l := fold.Known(f); len(l) != 0 {
			t.Errorf("%s: Known = %v", name, l)
		}
		if g, e := fold.Fold(f); e != api.ErrIR || len(g.Parts) != 0 || g.Values != 0 {
			t.Errorf("%s: Fold = %v, %d", name, g, e)
		}
	}
}
