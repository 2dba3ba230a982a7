package fold

import (
	"slices"

	"wicketgate/api"
	"wicketgate/eval"
	"wicketgate/val"
)

// part of an expression: its node, and the parts behind it. A field of a
// record is one too, with its part.
type part struct {
	api.Node
	parts []part
}

// first tells the part that nodes begin with, and what stands behind it. The
// nodes are those of an expression.
func first(e []api.Node) (part, []api.Node) {
	p, rest := part{Node: e[0]}, e[1:]
	for range p.count() {
		var next part
		next, rest = first(rest)
		p.parts = append(p.parts, next)
	}
	return p, rest
}

// count tells how many parts stand behind the node.
func (p part) count() int {
	switch p.Op {
	case api.Bool, api.Num, api.Text, api.Ent, api.Var:
		return 0
	case api.Set, api.Rec:
		return p.N
	case api.Field, api.Not, api.Neg, api.Has, api.Get, api.Like, api.Is:
		return 1
	case api.If:
		return 3
	}
	return 2
}

// onto tells a list with the part's nodes at its end.
func (p part) onto(e []api.Node) []api.Node {
	e = append(e, p.Node)
	for _, below := range p.parts {
		e = below.onto(e)
	}
	return e
}

// best tells the part with nothing in it that could be better. Its parts come
// first: what is better than a part may let the whole be better too.
func (p part) best() part {
	for i, below := range p.parts {
		p.parts[i] = below.best()
	}
again:
	if other, found := p.better(); found {
		p = other
		goto again
	}
	return p
}

// better tells what the part is in fewer nodes, or as a value, if there is
// such a thing. Its parts are as good as can be.
func (p part) better() (part, bool) {
	switch p.Op {
	case api.And:
		return p.joined(1)
	case api.Or:
		return p.joined(0)
	case api.If:
		return p.chosen()
	case api.Var, api.Field:
		// What a name stands for hangs on the request; a field has no value.
		return p, false
	case api.Not:
		if p.parts[0].Op == api.Not && p.parts[0].parts[0].isOfTruth() {
			return p.parts[0].parts[0], true
		}
	}
	return p.known()
}

// joined tells the one of two parts, of And or Or, that is the same as both.
// idle is the Bool that leaves it to the other part what both are. A part that
// is not of truth may be no Bool: it must be left where that is told.
func (p part) joined(idle int) (part, bool) {
	one, two := p.parts[0], p.parts[1]
	nothing := api.Node{Op: api.Bool, N: idle}
	switch {
	case one.Op == api.Bool && one.Node != nothing:
		return one, true
	case one.Node == nothing && two.isOfTruth():
		return two, true
	case two.Node == nothing && one.isOfTruth():
		return one, true
	}
	return p, false
}

// chosen tells the second or the third part of If, where the first one says
// which.
func (p part) chosen() (part, bool) {
	which := p.parts[0]
	switch {
	case which.Op != api.Bool:
		return p, false
	case which.N == 1:
		return p.parts[1], true
	}
	return p.parts[2], true
}

// known tells the value of a part that is none itself, if its parts say all
// that there is to know, and it has a value.
func (p part) known() (part, bool) {
	e := p.onto(nil)
	if val.Check(e) == nil || slices.ContainsFunc(p.parts, hangsOnMore) {
		return p, false
	}
	v, err := eval.Value(nil, anyRequest(), e)
	if err != nil {
		return p, false
	}
	value, _ := first(v)
	return value, true
}

// hangsOnMore tells if it is no value, or one with an entity in it, of which
// the store may have more to say.
func hangsOnMore(p part) bool {
	v := p.onto(nil)
	return val.Check(v) != nil || slices.ContainsFunc(v, isEnt)
}

func isEnt(n api.Node) bool {
	return n.Op == api.Ent
}

// anyRequest is one that may be asked: where nothing hangs on the request, it
// is no matter which.
func anyRequest() api.Request {
	u := api.Uid{Type: "A"}
	return api.Request{Who: u, Act: u, What: u, Context: []api.Node{{Op: api.Rec}}}
}

// isOfTruth tells if it is a Bool wherever it has a value.
func (p part) isOfTruth() bool {
	switch p.Op {
	case api.Bool, api.Not, api.And, api.Or, api.Eq, api.Lt, api.Le, api.In,
		api.Has, api.Like, api.Is, api.One, api.All, api.Any:
		return true
	}
	return false
}
