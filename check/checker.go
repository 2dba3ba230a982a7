package check

import (
	"slices"

	"wicketgate/api"
	"wicketgate/kinds"
)

// actType is the type of the entities that name acts.
const actType = "Action"

// checker tells types, for requests of one act by and about such entities.
// Types that it tells are read alone: they may be pieces of the schema.
type checker struct {
	kinds     []api.Kind
	who, what string
	context   []api.Node
}

// typeOf tells the type of a part where so much is known. That of a field is
// the field of its record's type.
func (c checker) typeOf(p part, k *known) ([]api.Node, error) {
	var types [][]api.Node
	for i, below := range p.parts {
		kind, err := c.typeOf(below, k.within(p, i))
		if err != nil {
			return nil, err
		}
		types = append(types, kind)
	}
	kind, err := c.typeFrom(p, k, types)
	if err != nil {
		return nil, err
	}
	// The chapter names this error behind those that are met on the way to the
	// type: a join of too many nodes comes ahead of it.
	if !fits(p.Op, types) {
		return nil, api.ErrType
	}
	return kind, nil
}

// typeFrom tells the type of a part whose own parts have these types.
func (c checker) typeFrom(p part, k *known, types [][]api.Node) ([]api.Node, error) {
	switch p.Op {
	case api.Num, api.Neg, api.Add, api.Sub, api.Mul:
		return leaf(api.KNum), nil
	case api.Text:
		return leaf(api.KText), nil
	case api.Ent:
		return entOf(p.S), nil
	case api.Set:
		return setOf(types)
	case api.Rec:
		return fit(api.Node{Op: api.KRec, N: p.N}, types...)
	case api.Field:
		return slices.Concat([]api.Node{{Op: api.KField, N: 1, S: p.S}}, types[0]), nil
	case api.Var:
		return c.named(p.S)
	case api.If:
		return kinds.Join(types[1], types[2])
	case api.Get:
		return c.get(whole(types[0]), p.S, k.has(p.parts[0], p.S))
	}
	return leaf(api.KBool), nil
}

// named tells the type of what a name stands for.
func (c checker) named(s string) ([]api.Node, error) {
	switch s {
	case "principal":
		return entOf(c.who), nil
	case "action":
		return entOf(actType), nil
	case "resource":
		return entOf(c.what), nil
	case "context":
		return c.context, nil
	}
	return nil, api.ErrNone
}

// get tells the type of what a record or an entity of a type has by a name,
// which may be sure to be there.
func (c checker) get(kind part, s string, sure bool) ([]api.Node, error) {
	switch kind.Op {
	case api.KNone:
		return kind.nodes, nil
	case api.KRec:
		return fieldOf(kind, s, sure)
	case api.KEnt:
		attrs, err := c.attrsOf(kind.S)
		if err != nil {
			return nil, err
		}
		return fieldOf(whole(attrs), s, sure)
	}
	return nil, api.ErrType
}

// attrsOf tells the type of the records of a kind, or ErrNone.
func (c checker) attrsOf(s string) ([]api.Node, error) {
	for _, k := range c.kinds {
		if k.Name == s {
			return k.Attrs, nil
		}
	}
	return nil, api.ErrNone
}

// fieldOf tells the type of a field of a record's type: ErrNone where there is
// none, or where it may be missing.
func fieldOf(rec part, s string, sure bool) ([]api.Node, error) {
	for _, f := range rec.parts {
		if f.S == s && (f.N == 1 || sure) {
			return f.parts[0].nodes, nil
		}
	}
	return nil, api.ErrNone
}

// fits tells if parts may have these types behind such a node. Of Get it is
// told where its type is.
func fits(op int, types [][]api.Node) bool {
	switch op {
	case api.Not, api.And, api.Or:
		return areAll(types, api.KBool)
	case api.Neg, api.Lt, api.Le, api.Add, api.Sub, api.Mul:
		return areAll(types, api.KNum)
	case api.Like:
		return areAll(types, api.KText)
	case api.Is:
		return areAll(types, api.KEnt)
	case api.Has:
		return areAll(types, api.KRec, api.KEnt)
	case api.All, api.Any:
		return areAll(types, api.KSet)
	case api.If:
		return is(types[0], api.KBool)
	case api.One:
		return is(types[0], api.KSet)
	case api.In:
		return is(types[0], api.KEnt) && hasEnts(types[1])
	}
	return true
}

// areAll tells if each type is one of these.
func areAll(types [][]api.Node, ops ...int) bool {
	for _, kind := range types {
		if !is(kind, ops...) {
			return false
		}
	}
	return true
}

// is tells if a type is one of these. No value has KNone, so nothing goes
// wrong where it stands for any of them.
func is(kind []api.Node, ops ...int) bool {
	return kind[0].Op == api.KNone || slices.Contains(ops, kind[0].Op)
}

// hasEnts tells if a type is that of an entity, or of a set of entities.
func hasEnts(kind []api.Node) bool {
	return is(kind, api.KEnt) || kind[0].Op == api.KSet && is(kind[1:], api.KEnt)
}

// setOf tells the type of a set whose parts have these types.
func setOf(types [][]api.Node) ([]api.Node, error) {
	all := leaf(api.KNone)
	for _, kind := range types {
		join, err := kinds.Join(all, kind)
		if err != nil {
			return nil, err
		}
		all = join
	}
	return fit(api.Node{Op: api.KSet}, all)
}

// fit tells the type of a node and its parts, or ErrFull where it has too many
// nodes.
func fit(n api.Node, parts ...[]api.Node) ([]api.Node, error) {
	kind := []api.Node{n}
	for _, p := range parts {
		kind = append(kind, p...)
	}
	if len(kind) > api.MaxNodes {
		return nil, api.ErrFull
	}
	return kind, nil
}

// leaf tells the type that is all said by what its node is.
func leaf(op int) []api.Node {
	return []api.Node{{Op: op}}
}

func entOf(s string) []api.Node {
	return []api.Node{{Op: api.KEnt, S: s}}
}
