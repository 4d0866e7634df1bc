package ir

import (
	"errors"
	"testing"

	"clevis/api"
)

func TestWhyCodeMayNotBe(t *testing.T) {
	five := api.Node{Op: api.NodeNum, Imm: 5}
	begin := api.Part{Nodes: []api.Node{five}, End: api.Term{Op: api.TermGo, To: 1}}
	end := api.Term{Op: api.TermReturn}
	second := func(p api.Part) api.Ir {
		if p.Pred == nil {
			p.Pred = []int{0}
		}
		return api.Ir{Parts: []api.Part{begin, p}, Values: 2}
	}
	for _, c := range []struct {
		f    api.Ir
		part int
		want reason
		text string
	}{
		{api.Ir{}, 0, amount, "part 0: there may not be so many parts, or values"},
		{second(api.Part{}), 1, ending, "part 1: it may not end so"},
		{api.Ir{Parts: []api.Part{{End: end}, {End: end}}}, 1, stray, "part 1: one cannot come there"},
		{second(api.Part{Pred: []int{1}, End: end}), 1, wrongPred, "part 1: its Pred are not those that lead there"},
		{second(api.Part{End: api.Term{Op: api.TermGo}}), 0, back, "part 0: none may lead back there"},
		{second(api.Part{End: end, Nodes: []api.Node{{}}}), 1, nothing, "part 1: there is no such node"},
		{second(api.Part{End: end, Nodes: []api.Node{five}}), 1, twice, "part 1: a value is none, or made twice"},
		{second(api.Part{End: end, Phis: []api.Phi{{Id: 1}}}), 1, choice, "part 1: a phi has not as many From as there are Pred"},
		{second(api.Part{End: end, Phis: []api.Phi{{Id: 0, From: []int{0}}}}), 1, twice, "part 1: a value is none, or made twice"},
		{second(api.Part{End: api.Term{Op: api.TermReturn, A: 1}}), 1, early, "part 1: a value is not made ahead of its use"},
		{second(api.Part{End: end, Phis: []api.Phi{{Id: 1, From: []int{1}}}}), 1, early, "part 1: a value is not made ahead of its use"},
		{second(api.Part{End: end, Nodes: []api.Node{{Op: api.NodeLoad, Id: 1, Size: 8, A: 1}}}), 1, early, "part 1: a value is not made ahead of its use"},
	} {
		err := check(c.f)
		for why := amount; why <= early; why++ {
			if errors.Is(err, why) != (why == c.want) {
				t.Errorf("%v: %v; want %v", c.f, err, c.want)
			}
		}
		var f fault
		if !errors.Is(err, errCode) || number(err) != api.ErrIR || !errors.As(err, &f) || f.part != c.part || err.Error() != c.text {
			t.Errorf("%v: %v, %d; want to hear %q", c.f, err, number(err), c.text)
		}
	}
	if err := check(second(api.Part{End: end})); err != nil || number(err) != api.OK {
		t.Errorf("code that may be: %v", err)
	}
}
