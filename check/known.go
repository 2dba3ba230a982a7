package check

import (
	"slices"

	"wicketgate/api"
)

// fact is that a record or an entity, which is told by an expression, has a
// name.
type fact struct {
	of   []api.Node
	name string
}

// known is a fact, and what else is known. Where nothing is known, it is nil.
type known struct {
	fact
	more *known
}

// where tells what is known where these parts are true too.
func (k *known) where(parts ...part) *known {
	for _, p := range parts {
		switch p.Op {
		case api.Has:
			k = &known{fact{p.parts[0].nodes, p.S}, k}
		case api.And:
			k = k.where(p.parts...)
		}
	}
	return k
}

// within tells what is known in the part of that index: no more than about the
// whole, but in what is asked for only where the first part is true.
func (k *known) within(p part, index int) *known {
	if index == 1 && (p.Op == api.And || p.Op == api.If) {
		return k.where(p.parts[0])
	}
	return k
}

// has tells if it is known that what a part tells has a name.
func (k *known) has(p part, name string) bool {
	for ; k != nil; k = k.more {
		if k.name == name && slices.Equal(k.of, p.nodes) {
			return true
		}
	}
	return false
}
