package astep

import (
	"errors"
	"strings"
	"testing"

	"clevis/api"
	"clevis/bound"
	"clevis/state"
)

// known answers a state in which r0 is a number, r2 one of a helper's sizes, r3 an address in a map.
func known() api.Abs {
	s := state.Begin()
	s = state.Put(s, 0, number(bound.Const(5)))
	s = state.Put(s, 2, number(bound.Const(4)))
	return state.Put(s, 3, api.Known{Kind: api.Place, Num: bound.Const(0), Region: api.FirstMap})
}

func TestWhySomethingMayDoHarm(t *testing.T) {
	l := api.Layout{Context: api.Area{Size: 8}, Maps: []api.Area{{Size: 8, Write: true}}}
	for _, c := range []struct {
		x    api.Ins
		want reason
	}{
		{api.Ins{Op: 0x07, Dst: 4, Imm: 1}, unset},
		{api.Ins{Op: 0xbf, Dst: 4, Src: 4}, unset},
		{api.Ins{Op: 0x15, Dst: 4}, unset},
		{api.Ins{Op: 0x1d, Dst: 2, Src: 4}, unset},
		{api.Ins{Op: 0x7b, Dst: 3, Src: 4}, unset},
		{api.Ins{Op: 0x79, Dst: 4, Src: 3, Off: 1}, astray},
		{api.Ins{Op: 0x79, Dst: 4, Src: 2}, astray},
		{api.Ins{Op: 0x72, Dst: 3, Off: -1}, astray},
		{api.Ins{Op: 0x72, Dst: 1}, fixed},
		{api.Ins{Op: 0x71, Dst: 4, Src: 10, Off: -1}, unready},
		{api.Ins{Op: opCall, Imm: 2}, unfit},
		{api.Ins{Op: opCall, Imm: 4}, fixed},
		{api.Ins{Op: api.OpWide, Dst: 4, Src: 1, Imm: 1, Wide: 1}, noMap},
	} {
		_, err := do(l, []api.Ins{{Op: opJa}, c.x}, 1, known())
		for why := unset; why <= noMap; why++ {
			if errors.Is(err, why) != (why == c.want) {
				t.Errorf("%v: %v; want %v", c.x, err, c.want)
			}
		}
		if !errors.Is(err, errHarm) || errors.Is(err, errArg) || code(err) != api.ErrUnsafe {
			t.Errorf("%v: %v, %d", c.x, err, code(err))
		} else if err.Error() != "instruction 1: "+c.want.Error() {
			t.Errorf("%v: %q; want to hear %q", c.x, err, c.want)
		}
	}
}

// TestWhyACallMayDoHarm asks by what the address in r1 and the size in r2 are.
func TestWhyACallMayDoHarm(t *testing.T) {
	l := api.Layout{Context: api.Area{Size: 8}}
	stack := func(off uint64) api.Known {
		return api.Known{Kind: api.Place, Num: bound.Const(off), Region: api.Stack}
	}
	context := api.Known{Kind: api.Place, Num: bound.Const(0), Region: api.Context}
	four := number(bound.Const(4))
	for _, c := range []struct {
		helper   int
		at, size api.Known
		want     reason
	}{
		{3, stack(0), four, unready},
		{3, stack(509), four, astray},
		{4, stack(509), four, astray},
		{4, context, four, fixed},
		{3, four, four, astray},
		{3, context, number(bound.Const(0)), unfit},
		{4, stack(0), number(bound.Const(65)), unfit},
		{3, context, context, unfit},
		{5, four, context, unfit},
	} {
		s := state.Put(state.Put(state.Begin(), 1, c.at), 2, c.size)
		if _, err := do(l, []api.Ins{{Op: opCall, Imm: c.helper}}, 0, s); !errors.Is(err, c.want) || code(err) != api.ErrUnsafe {
			t.Errorf("helper %d of %v, %v: %v; want %v", c.helper, c.at, c.size, err, c.want)
		}
	}
}

func TestWhyNothingIsDone(t *testing.T) {
	p := []api.Ins{{Op: opExit}}
	if _, err := do(api.Layout{}, p, 1, known()); !errors.Is(err, errArg) || errors.Is(err, errHarm) || code(err) != api.ErrArg {
		t.Errorf("no such place: %v, %d", err, code(err))
	}
	if _, err := do(api.Layout{}, p, 0, known()); err != nil || code(err) != api.OK {
		t.Errorf("exit: %v, %d", err, code(err))
	}
}

func TestReasonsAreToldApart(t *testing.T) {
	met := map[string]reason{}
	for why := unset; why <= noMap; why++ {
		text := why.Error()
		if other, ok := met[text]; ok || strings.TrimSpace(text) == "" {
			t.Errorf("reasons %d and %d: %q", why, other, text)
		}
		met[text] = why
	}
}
