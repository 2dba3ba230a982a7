package check

import "wicketgate/api"

// part of an expression or of a type: its node, the parts behind it, and all
// their nodes. A field of a record is one too, with its part.
type part struct {
	api.Node
	parts []part
	nodes []api.Node
}

// whole tells the part that nodes are, which are just one expression or type.
func whole(list []api.Node) part {
	p, _ := first(list)
	return p
}

// first tells the part that nodes begin with, and what stands behind it.
func first(list []api.Node) (part, []api.Node) {
	p, rest := part{Node: list[0]}, list[1:]
	for range p.count() {
		var next part
		next, rest = first(rest)
		p.parts = append(p.parts, next)
	}
	p.nodes = list[:len(list)-len(rest)]
	return p, rest
}

// count tells how many parts stand behind the node.
func (p part) count() int {
	switch p.Op {
	case api.Set, api.Rec, api.KRec:
		return p.N
	case api.Field, api.Not, api.Neg, api.Has, api.Get, api.Like, api.Is, api.KSet, api.KField:
		return 1
	case api.And, api.Or, api.Eq, api.Lt, api.Le, api.Add, api.Sub, api.Mul,
		api.In, api.One, api.All, api.Any:
		return 2
	case api.If:
		return 3
	}
	return 0
}
