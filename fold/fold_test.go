package fold_test

import (
	"fmt"
	"math"
	"slices"
	"testing"

	"clevis/api"
	"clevis/fold"
	"clevis/ir"
	"clevis/word"
)

// conditions are all there are.
var conditions = []int{api.Jeq, api.Jgt, api.Jge, api.Jset, api.Jne, api.Jsgt, api.Jsge, api.Jlt, api.Jle, api.Jslt, api.Jsle}

// forked answers code whose first part asks a condition of a and b, and leads to a part that returns a, or one that returns b; c is not known.
func forked(cond int, wide bool, a, b int, nodes ...api.Node) api.Ir {
	end := when(cond, a, b, 2, 1)
	end.Wide = wide
	return code(3, part(nil, end, nodes...), part([]int{0}, back(0), from(5, now(2))), part([]int{0}, back(1)))
}

// straight answers the same code, where one always goes one way.
func straight(holds bool, f api.Ir) api.Ir {
	f = copied(f)
	f.Parts[0].End = api.Term{Op: api.TermGo, To: 1}
	if holds {
		f.Parts = slices.Delete(f.Parts, 1, 2)
	} else {
		f.Parts = f.Parts[:2]
	}
	return f
}

// TestConditions: each one, of 64 and of 32 bits, of numbers that are known, or not.
func TestConditions(t *testing.T) {
	numbers := []uint64{0, 1, 2, 6, 1<<31 - 1, 1 << 31, 1<<32 - 1, 1 << 32, 1<<32 + 2, 1 << 63, math.MaxUint64}
	for _, cond := range conditions {
		for _, wide := range []bool{wide, narrow} {
			for _, x := range numbers {
				for _, y := range numbers {
					f := forked(cond, wide, 0, 1, num(0, x), num(1, y))
					holds, _ := word.Cond(cond, x, y, wide)
					folds(t, fmt.Sprintf("%#x, wide %v, of %d and %d", cond, wide, x, y), f, straight(holds, f))
				}
				f := forked(cond, wide, 0, 0, num(0, x), now(1))
				holds, _ := word.Cond(cond, x, x, wide)
				folds(t, fmt.Sprintf("%#x, wide %v, of %d and itself", cond, wide, x), f, straight(holds, f))
				stays(t, "the second is not known", forked(cond, wide, 0, 1, num(0, x), now(1)))
				stays(t, "the first is not known", forked(cond, wide, 1, 0, num(0, x), now(1)))
			}
			stays(t, "none is known", code(3, part(nil, when(cond, 0, 1, 1, 2), now(0), now(1)), part([]int{0}, back(0)), part([]int{0}, back(1))))
		}
	}
}

// TestOneValue: of what is not known and itself it is decided all the same, but of Jset.
func TestOneValue(t *testing.T) {
	holds := map[int]bool{
		api.Jeq: true, api.Jge: true, api.Jle: true, api.Jsge: true, api.Jsle: true,
		api.Jne: false, api.Jgt: false, api.Jlt: false, api.Jsgt: false, api.Jslt: false,
	}
	for _, cond := range conditions {
		for _, wide := range []bool{wide, narrow} {
			f := forked(cond, wide, 0, 0, now(0), now(1))
			if cond == api.Jset {
				stays(t, "Jset of one value", f)
			} else {
				folds(t, fmt.Sprintf("%#x of one value", cond), f, straight(holds[cond], f))
			}
			stays(t, "copies are not one value", forked(cond, wide, 0, 1, now(0), alu(1, api.Mov, wide, 0, 0)))
		}
	}
	for _, n := range []api.Node{context(0), frame(0)} {
		f := forked(api.Jne, wide, 0, 0, n, now(1))
		folds(t, "an address and itself", f, straight(false, f))
	}
	l := phis(phi(2, 0, 0))
	f := joined(4, l)
	f.Parts[3] = chosen([]int{1, 2}, l, when(api.Jge, 2, 2, 4, 5))
	f.Parts = append(f.Parts, part([]int{3}, back(0)), part([]int{3}, back(1)))
	want := copied(f)
	want.Parts[3].End = on(4)
	want.Parts = want.Parts[:5]
	folds(t, "a phi and itself", f, want)
}

// TestWhatANodeBecomes: Id and At stay, all else is nought.
func TestWhatANodeBecomes(t *testing.T) {
	x := api.Node{Op: api.NodeAlu, Id: 2, Alu: api.Sub, Wide: true, A: 0, B: 1, Imm: 77, Size: 8, Off: -3, Guard: true, Args: []int{0}, At: 4095}
	folds(t, "known", one(3, back(2), num(0, 2), num(1, 3), x), one(3, back(2), num(0, 2), num(1, 3), api.Node{Op: api.NodeNum, Id: 2, Imm: 1<<64 - 1, At: 4095}))
	x.Alu = api.Mul
	folds(t, "known as nought", one(3, back(2), num(0, 0), now(1), x), one(3, back(2), num(0, 0), now(1), api.Node{Op: api.NodeNum, Id: 2, At: 4095}))
	stays(t, "not known", one(3, back(2), num(0, 2), now(1), x))
	stays(t, "not known, of 32 bits", one(3, back(2), num(0, 2), now(1), from(9, alu(2, api.Add, narrow, 0, 1))))
}

// TestWhatStays: all that is no reckoning, be it known or not.
func TestWhatStays(t *testing.T) {
	stays(t, "a number", one(1, back(0), from(3, num(0, 5))))
	stays(t, "all other nodes", one(7, back(5),
		from(1, context(0)), from(2, frame(1)), from(3, num(2, 8)), from(4, store(1, -8, 2)), from(5, load(3, 1, -8)),
		from(6, api.Node{Op: api.NodeStore, Id: -1, Size: 2, A: 1, Off: -4, B: 2}), from(7, api.Node{Op: api.NodeLoad, Id: 4, Size: 1, A: 1, Off: -1}),
		from(8, call(6, 3, 1, 2)), from(9, call(5, 5, 2, 2, 3))))
	stays(t, "a phi that is known", joined(4, phis(phi(2, 1, 3)), num(3, 5)))
	stays(t, "a phi that is not known", joined(3, phis(phi(2, 1, 0))))
	stays(t, "a loop", round(4, nil, phis(phi(2, 1, 3)), add(3, 2, 0)))
	stays(t, "no values", code(0, part(nil, on(1)), part([]int{0, 1}, on(1))))
	stays(t, "values that nothing makes", one(65536, back(9), num(9, 5)))
	stays(t, "a phi of the first part", code(2, chosen(nil, phis(phi(1)), back(0), num(0, 4))))
	junk := api.Node{Op: api.NodeNum, Id: 0, Imm: 3, Alu: 5, Wide: true, A: 6, B: 7, Size: 8, Off: 9, Guard: true, Args: []int{10, 11}, At: 12}
	stays(t, "fields that a node has not", one(1, back(0), junk))
	f := one(1, api.Term{Op: api.TermReturn, Cond: 1, Wide: true, A: 0, B: -2, To: -3, Else: 4}, num(0, 5))
	stays(t, "fields that an End has not", f)
	f = code(0, part(nil, on(1)), part([]int{0, 1}, api.Term{Op: api.TermGo, Cond: 1, Wide: true, A: -2, B: 3, To: 1, Else: 99}))
	stays(t, "the same of one that goes on", f)
}

// TestPartsThatAreLeftOut: with all that one came to by them alone, be it a loop; the others are numbered anew, and phis choose by the ways that stay.
func TestPartsThatAreLeftOut(t *testing.T) {
	f := code(10,
		part(nil, when(api.Jlt, 0, 1, 5, 1), num(0, 1), num(1, 2)),
		part([]int{0, 2}, on(2), num(2, 3)),            // left out
		part([]int{1}, when(api.Jeq, 2, 0, 1, 7)),      // left out
		part([]int{6}, on(4), num(3, 4)),               // stays
		chosen([]int{3, 7}, phis(phi(4, 3, 5)), on(8)), // from 3 alone
		part([]int{0}, when(api.Jne, 9, 0, 6, 8), now(9)),
		part([]int{5}, on(3)),
		part([]int{2}, on(4), num(5, 6)), // left out
		chosen([]int{4, 5}, phis(phi(6, 4, 0), phi(7, 0, 1)), back(8), add(8, 0, 1)))
	want := code(10,
		part(nil, on(3), num(0, 1), num(1, 2)),
		part([]int{4}, on(2), num(3, 4)),
		chosen([]int{1}, phis(phi(4, 3)), on(5)),
		part([]int{0}, when(api.Jne, 9, 0, 4, 5), now(9)),
		part([]int{3}, on(1)),
		chosen([]int{2, 3}, phis(phi(6, 4, 0), phi(7, 0, 1)), back(8), num(8, 3)))
	folds(t, "some of all kinds", f, want)
}

// TestAWayThatIsNoMore: its part stays, and what it led to, too; but it is no way.
func TestAWayThatIsNoMore(t *testing.T) {
	f := code(4,
		part(nil, when(api.Jeq, 0, 0, 1, 2), now(0), num(1, 5)),
		part([]int{0}, on(2)),
		chosen([]int{0, 1}, phis(phi(2, 0, 1), phi(3, 1, 0)), back(2)))
	want := code(4,
		part(nil, on(1), now(0), num(1, 5)),
		part([]int{0}, on(2)),
		chosen([]int{1}, phis(phi(2, 1), phi(3, 0)), back(2)))
	folds(t, "the shorter one", f, want)
	f.Parts[0].End.Cond = api.Jne
	want = code(4,
		part(nil, on(1), now(0), num(1, 5)),
		chosen([]int{0}, phis(phi(2, 0), phi(3, 1)), back(2)))
	folds(t, "the longer one", f, want)
	loop := round(4, []api.Node{num(3, 5)}, phis(phi(2, 1, 2)))
	loop.Parts[1].End = when(api.Jeq, 2, 3, 1, 2)
	folds(t, "the way out of a loop", loop, code(4,
		part(nil, on(1), now(0), num(1, 5), num(3, 5)),
		chosen([]int{0, 1}, phis(phi(2, 1, 2)), on(1))))
	loop.Parts[1].End.Cond = api.Jne
	folds(t, "the way round a loop", loop, code(4,
		part(nil, on(1), now(0), num(1, 5), num(3, 5)),
		chosen([]int{0}, phis(phi(2, 1)), on(2)),
		part([]int{1}, back(0))))
}

// TestFoldedOnce: what is known of the code itself is reckoned, not what could be known of the folded code; until at last nothing changes.
func TestFoldedOnce(t *testing.T) {
	f := code(6,
		part(nil, when(api.Jgt, 0, 0, 1, 2), num(0, 1), num(1, 2)),
		part([]int{0}, on(2)),
		chosen([]int{0, 1}, phis(phi(2, 0, 1)), when(api.Jeq, 2, 0, 3, 4), add(3, 2, 0)),
		part([]int{2}, on(4)),
		chosen([]int{2, 3}, phis(phi(4, 1, 0)), back(5), add(5, 4, 0)))
	first := code(6,
		part(nil, on(1), num(0, 1), num(1, 2)),
		chosen([]int{0}, phis(phi(2, 0)), when(api.Jeq, 2, 0, 2, 3), add(3, 2, 0)),
		part([]int{1}, on(3)),
		chosen([]int{1, 2}, phis(phi(4, 1, 0)), back(5), add(5, 4, 0)))
	second := code(6,
		part(nil, on(1), num(0, 1), num(1, 2)),
		chosen([]int{0}, phis(phi(2, 0)), on(2), num(3, 2)),
		part([]int{1}, on(3)),
		chosen([]int{2}, phis(phi(4, 0)), back(5), add(5, 4, 0)))
	third := copied(second)
	third.Parts[3].Nodes[0] = num(5, 2)
	for _, want := range []api.Ir{first, second, third, third} {
		folds(t, "once more", f, want)
		f = want
	}
}

// TestStepsAreTheSame: each node stays one, and each End.
func TestStepsAreTheSame(t *testing.T) {
	f := forked(api.Jeq, wide, 0, 1, num(0, 2), from(3, add(1, 0, 0)))
	g, _ := fold.Fold(f)
	l, m := sample()
	for fuel := range 8 {
		want, _ := ir.Run(l, f, m, []uint64{7}, fuel)
		got, e := ir.Run(l, g, m, []uint64{7}, fuel)
		if e != api.OK || got.Kind != want.Kind || fuel > 4 && (got.Kind != api.EndReturn || got.Steps != 5 || got.Value != 2 || got.At != 5) {
			t.Errorf("fuel %d: %s, %d; want %s", fuel, brief(got), e, brief(want))
		}
	}
}
