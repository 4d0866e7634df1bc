package verify_test

import (
	"clevis/api"
	"clevis/astep"
	"clevis/legal"
	"clevis/mem"
	"clevis/state"
)

// The model says the chapter's words once more, one behind the other, and asks all visits of an instruction one by one.

// model is what was visited.
type model struct {
	l      api.Layout
	p      []api.Ins
	budget int
	visits int
	past   map[int][]*modelVisit
	facts  []api.Fact
}

type modelVisit struct {
	s     api.Abs
	ended bool
}

func modelMerge(a, b api.Fact) api.Fact {
	if !a.Seen || !b.Seen {
		if a.Seen {
			return a
		}
		return b
	}
	if a.Region != b.Region {
		a.Region = 0
	}
	if b.Low < a.Low {
		a.Low = b.Low
	}
	if b.High > a.High {
		a.High = b.High
	}
	return a
}

func modelVerify(l api.Layout, p []api.Ins, budget int) api.Verdict {
	if e := mem.Check(l); e != 0 {
		return api.Verdict{Code: e}
	}
	if at, e := legal.Check(p); e != 0 {
		return api.Verdict{Code: e, At: at}
	}
	if budget <= 0 || budget > 1000000 {
		return api.Verdict{Code: 2}
	}
	m := &model{l: l, p: p, budget: budget, past: map[int][]*modelVisit{}, facts: make([]api.Fact, len(p))}
	if at, e := m.visit(0, state.Begin()); e != 0 {
		return api.Verdict{Code: e, At: at, Visits: m.visits}
	}
	return api.Verdict{Visits: m.visits, Facts: m.facts}
}

func (m *model) visit(i int, s api.Abs) (int, api.Errno) {
	open := false
	for _, v := range m.past[i] {
		if v.ended && state.Within(v.s, s) {
			return 0, 0
		}
		open = open || state.Within(v.s, s)
	}
	if open {
		return i, 132
	}
	if m.visits+1 > m.budget {
		return i, 131
	}
	m.visits++
	ways, f, e := astep.Step(m.l, m.p, i, s)
	if e != 0 {
		return i, e
	}
	m.facts[i] = modelMerge(m.facts[i], f)
	v := &modelVisit{s: s}
	m.past[i] = append(m.past[i], v)
	for _, n := range ways {
		if at, e := m.visit(n.At, n.Abs); e != 0 {
			return at, e
		}
	}
	v.ended = true
	return 0, 0
}
