package ir

import (
	"slices"

	"clevis/api"
	"clevis/dom"
	"clevis/helper"
	"clevis/word"
)

// The limits of code.
const (
	mostParts  = 8192
	mostValues = 65536
	offs       = 1 << 15 // Off is from -offs to below offs
)

// spot is where in a part something is made, or used: at a node.
type spot struct {
	part int
	node int
}

const (
	none    = -1 // the Id of what makes no value
	nowhere = -1 // the part of what is not made
	phis    = -1 // the node of phis: they are ahead of all others
)

// checker is code that is looked at.
type checker struct {
	api.Ir
	succ [][]int
	made []spot // of each value
	over tree
}

// check tells why code may not be. Each question may be asked where those ahead of it found nothing.
func check(f api.Ir) error {
	c := &checker{Ir: f}
	for _, ask := range []func() error{c.amounts, c.ends, c.ways, c.nodes, c.makes, c.uses} {
		if err := ask(); err != nil {
			return err
		}
	}
	return nil
}

func (c *checker) amounts() error {
	if len(c.Parts) < 1 || len(c.Parts) > mostParts || c.Values < 0 || c.Values > mostValues {
		return fault{0, amount}
	}
	return nil
}

func (c *checker) ends() error {
	for i := range c.Parts {
		if !c.mayEnd(c.Parts[i].End) {
			return fault{i, ending}
		}
	}
	return nil
}

func (c *checker) mayEnd(t api.Term) bool {
	switch t.Op {
	case api.TermGo:
		return c.isPart(t.To)
	case api.TermIf:
		_, ok := word.Cond(t.Cond, 0, 0, t.Wide)
		return ok && c.isPart(t.To) && c.isPart(t.Else) && t.To != t.Else
	}
	return t.Op == api.TermReturn
}

func (c *checker) isPart(i int) bool { return 0 <= i && i < len(c.Parts) }

// ways asks how one comes to the parts.
func (c *checker) ways() error {
	c.succ = Succ(c.Ir)
	pred := make([][]int, len(c.Parts))
	for i, row := range c.succ {
		for _, to := range row {
			pred[to] = append(pred[to], i)
		}
	}
	if len(pred[0]) > 0 {
		return fault{0, back}
	}
	for i, met := range dom.Reach(c.succ) {
		switch {
		case !met:
			return fault{i, stray}
		case !slices.Equal(c.Parts[i].Pred, pred[i]):
			return fault{i, wrongPred}
		}
	}
	return nil
}

// nodes asks of each node whether it is one, by itself.
func (c *checker) nodes() error {
	for i := range c.Parts {
		for _, n := range c.Parts[i].Nodes {
			if !isNode(n) {
				return fault{i, nothing}
			}
		}
	}
	return nil
}

func isNode(n api.Node) bool {
	switch n.Op {
	case api.NodeNum, api.NodeContext, api.NodeFrame:
		return true
	case api.NodeAlu:
		_, ok := word.Alu(n.Alu, 0, 0, n.Wide)
		return ok
	case api.NodeLoad, api.NodeStore:
		return word.Size(n.Size) && -offs <= n.Off && n.Off < offs
	case api.NodeCall:
		h, ok := helper.Table(int(n.Imm))
		return ok && len(h.Args) == len(n.Args)
	}
	return false
}

// makes notes where values are made.
func (c *checker) makes() error {
	c.made = slices.Repeat([]spot{{part: nowhere}}, c.Values)
	for i := range c.Parts {
		for _, phi := range c.Parts[i].Phis {
			if !c.make(phi.Id, spot{i, phis}) {
				return fault{i, twice}
			}
		}
		for at, n := range c.Parts[i].Nodes {
			if n.Op == api.NodeStore && n.Id == none {
				continue
			}
			if n.Op == api.NodeStore || !c.make(n.Id, spot{i, at}) {
				return fault{i, twice}
			}
		}
	}
	return nil
}

// make notes where a value is made, if it may be made there.
func (c *checker) make(id int, at spot) bool {
	if id < 0 || id >= c.Values || c.made[id].part != nowhere {
		return false
	}
	c.made[id] = at
	return true
}

// uses asks whether what is used is made ahead.
func (c *checker) uses() error {
	c.over = grow(c.succ)
	for i := range c.Parts {
		p := &c.Parts[i]
		if err := c.chooses(i); err != nil {
			return err
		}
		for at, n := range p.Nodes {
			if !c.ahead(spot{i, at}, Uses(n)...) {
				return fault{i, early}
			}
		}
		if !c.ahead(c.end(i), asked(p.End)...) {
			return fault{i, early}
		}
	}
	return nil
}

// chooses asks what a part's phis use: each From at the end of the way's part.
func (c *checker) chooses(part int) error {
	p := &c.Parts[part]
	for _, phi := range p.Phis {
		if len(phi.From) != len(p.Pred) {
			return fault{part, choice}
		}
		for way, from := range p.Pred {
			if !c.ahead(c.end(from), phi.From[way]) {
				return fault{part, early}
			}
		}
	}
	return nil
}

// end is where a part's End stands: behind all its nodes.
func (c *checker) end(part int) spot { return spot{part, len(c.Parts[part].Nodes)} }

// ahead tells whether all of these values are made ahead of a spot.
func (c *checker) ahead(at spot, values ...int) bool {
	for _, v := range values {
		if v < 0 || v >= c.Values || !c.precedes(c.made[v], at) {
			return false
		}
	}
	return true
}

// precedes tells whether one has been at a spot whenever one is at another.
func (c *checker) precedes(a, b spot) bool {
	switch a.part {
	case nowhere:
		return false
	case b.part:
		return a.node < b.node
	}
	return c.over.dominates(a.part, b.part)
}
