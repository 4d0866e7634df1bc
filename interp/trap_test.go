package interp

import (
	"errors"
	"strings"
	"testing"

	"clevis/api"
	"clevis/mem"
)

// why runs a program in a layout with a context that may not be written, and answers why it traps.
func why(p ...api.Ins) (int, error) {
	l := api.Layout{Context: api.Area{Size: 8}}
	m, _ := mem.Fresh(l)
	return begin(l, append(p, api.Ins{Op: opExit}), m, nil).run(100)
}

func TestATrapIsAnErrorOfItsOwn(t *testing.T) {
	one := api.Ins{Op: 0xb7, Imm: 1}
	for _, c := range []struct {
		p    []api.Ins
		want trap
	}{
		{nil, trap{api.TrapReg, 0}},
		{[]api.Ins{{Op: 0x79, Src: 1, Off: 1}}, trap{api.TrapRange, 0}},
		{[]api.Ins{one, {Op: 0x72, Dst: 1}}, trap{api.TrapPerm, 1}},
		{[]api.Ins{one, one, {Op: 0x71, Src: 10, Off: -1}}, trap{api.TrapStack, 2}},
		{[]api.Ins{one, {Op: 0xb7, Dst: 2}, {Op: opCall, Imm: 3}}, trap{api.TrapHelper, 2}},
	} {
		steps, err := why(c.p...)
		var got trap
		if !errors.As(err, &got) || got != c.want || steps != c.want.at+1 {
			t.Errorf("%v: %v, %d steps; want %v", c.p, err, steps, c.want)
			continue
		}
		if !strings.HasPrefix(err.Error(), "instruction "+string(rune('0'+c.want.at))+": ") {
			t.Errorf("%v: %q", c.p, err)
		}
	}
	if steps, err := why(one); err != nil || steps != 2 {
		t.Errorf("a run that returns: %v, %d steps", err, steps)
	}
}
