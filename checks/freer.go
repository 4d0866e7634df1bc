package checks

import (
	"slices"

	"clevis/api"
)

// freer writes code without needless guards.
type freer struct {
	layout api.Layout
	facts  []api.Fact // of each instruction
	gone   int        // how many guards went
}

// part writes a part anew. It shares nothing with what it was.
func (r *freer) part(old *api.Part) api.Part {
	p := api.Part{Pred: slices.Clone(old.Pred), End: old.End}
	for _, x := range old.Phis {
		p.Phis = append(p.Phis, api.Phi{Id: x.Id, From: slices.Clone(x.From)})
	}
	for _, n := range old.Nodes {
		p.Nodes = append(p.Nodes, r.node(n))
	}
	return p
}

// node writes a node anew.
func (r *freer) node(n api.Node) api.Node {
	n.Args = slices.Clone(n.Args)
	if n.Guard && r.proven(n) {
		n.Guard = false
		r.gone++
	}
	return n
}

// proven tells whether a node is an access that its instruction's fact proves.
func (r *freer) proven(n api.Node) bool {
	write := false
	switch n.Op {
	case api.NodeStore:
		write = true
		fallthrough
	case api.NodeLoad:
		return 0 <= n.At && n.At < len(r.facts) && Proves(r.layout, r.facts[n.At], n.Size, write)
	}
	return false
}
