package kinds

import (
	"slices"
	"strings"

	"wicketgate/api"
	"wicketgate/name"
)

// part of a type or of a value: its node, and the parts behind it. A field of
// a record is one too, with its part.
type part struct {
	api.Node
	parts []part
}

// read tells the type of a list, or what Check tells.
func read(t []api.Node) (part, error) {
	// The length is asked first: it also bounds how deep the walk below goes.
	if len(t) > api.MaxNodes {
		return part{}, api.ErrFull
	}
	kind, rest, whole := first(t)
	if !whole || len(rest) > 0 || !kind.isType() {
		return part{}, api.ErrSyntax
	}
	return kind, nil
}

// readBoth tells two types, or what Check tells of the first that is none.
func readBoth(a, b []api.Node) (one, other part, err error) {
	if one, err = read(a); err != nil {
		return part{}, part{}, err
	}
	if other, err = read(b); err != nil {
		return part{}, part{}, err
	}
	return one, other, nil
}

// first tells the part that nodes begin with, what stands behind it, and if
// all of it is there. A count that is far too great does no harm: the first
// part that is missing ends it.
func first(list []api.Node) (part, []api.Node, bool) {
	if len(list) == 0 {
		return part{}, nil, false
	}
	p, rest := part{Node: list[0]}, list[1:]
	for range p.count() {
		next, behind, whole := first(rest)
		if !whole {
			return part{}, nil, false
		}
		p.parts, rest = append(p.parts, next), behind
	}
	return p, rest, true
}

// count tells how many parts stand behind the node.
func (p part) count() int {
	switch p.Op {
	case api.Set, api.Rec, api.KRec:
		return p.N
	case api.Field, api.KSet, api.KField:
		return 1
	}
	return 0
}

// onto tells a list with the part's nodes at its end.
func (p part) onto(list []api.Node) []api.Node {
	list = append(list, p.Node)
	for _, below := range p.parts {
		list = below.onto(list)
	}
	return list
}

// fit tells the nodes of a part, or ErrFull where they are too many.
func (p part) fit() ([]api.Node, error) {
	list := p.onto(nil)
	if len(list) > api.MaxNodes {
		return nil, api.ErrFull
	}
	return list, nil
}

// isType tells if a part is a type. Its node is held against one that has
// nothing but what such a node names.
func (p part) isType() bool {
	switch p.Op {
	case api.KBool, api.KNum, api.KText, api.KAny, api.KNone:
		return p.Node == api.Node{Op: p.Op}
	case api.KEnt:
		return p.Node == api.Node{Op: p.Op, S: p.S} && name.Check(p.S) == nil
	case api.KSet:
		return p.Node == api.Node{Op: p.Op} && p.parts[0].isType()
	case api.KRec:
		return p.Node == api.Node{Op: p.Op, N: p.N} && p.N >= 0 && areFields(p.parts)
	}
	return false
}

// areFields tells if parts may be those of a record's type.
func areFields(parts []part) bool {
	// No name is empty, so the first one is behind the empty text too.
	last := ""
	for _, p := range parts {
		if !p.isField() || p.S <= last {
			return false
		}
		last = p.S
	}
	return true
}

// isField tells if a part may be a field of a record's type.
func (p part) isField() bool {
	return p.Node == api.Node{Op: api.KField, N: p.N, S: p.S} &&
		(p.N == 0 || p.N == 1) && name.Check(p.S) == nil && p.parts[0].isType()
}

// field tells a record's field of a name, and if it has one.
func (p part) field(s string) (part, bool) {
	for _, f := range p.parts {
		if f.S == s {
			return f, true
		}
	}
	return part{}, false
}

// has tells if a value has the type.
func (p part) has(v part) bool {
	switch p.Op {
	case api.KAny:
		return true
	case api.KBool:
		return v.Op == api.Bool
	case api.KNum:
		return v.Op == api.Num
	case api.KText:
		return v.Op == api.Text
	case api.KEnt:
		return v.Op == api.Ent && v.S == p.S
	case api.KSet:
		return v.Op == api.Set && p.parts[0].hasAll(v.parts)
	case api.KRec:
		return v.Op == api.Rec && p.hasFields(v) && p.missesNone(v)
	}
	return false
}

// hasAll tells if all values have the type.
func (p part) hasAll(vs []part) bool {
	for _, v := range vs {
		if !p.has(v) {
			return false
		}
	}
	return true
}

// hasFields tells if a record's type has all fields of a record.
func (p part) hasFields(v part) bool {
	for _, f := range v.parts {
		if own, found := p.field(f.S); !found || !own.parts[0].has(f.parts[0]) {
			return false
		}
	}
	return true
}

// missesNone tells if a record has all that must be.
func (p part) missesNone(v part) bool {
	for _, f := range p.parts {
		if _, found := v.field(f.S); f.N == 1 && !found {
			return false
		}
	}
	return true
}

// below tells if a type is below another one.
func (p part) below(other part) bool {
	switch {
	case p.Op == api.KNone || other.Op == api.KAny:
		return true
	case p.Op != other.Op:
		return false
	case p.Op == api.KSet:
		return p.parts[0].below(other.parts[0])
	case p.Op == api.KRec:
		return p.fieldsBelow(other) && p.mustAll(other)
	}
	return p.Node == other.Node
}

// fieldsBelow tells if all fields of a record's type are below those of
// another one.
func (p part) fieldsBelow(other part) bool {
	for _, f := range p.parts {
		if over, found := other.field(f.S); !found || !f.parts[0].below(over.parts[0]) {
			return false
		}
	}
	return true
}

// mustAll tells if all that must be in another record's type must be in this
// one.
func (p part) mustAll(other part) bool {
	for _, f := range other.parts {
		// A field that is not found has N 0 too: it need not be.
		if own, _ := p.field(f.S); f.N == 1 && own.N != 1 {
			return false
		}
	}
	return true
}

// join tells the least type that both are below.
func (p part) join(other part) part {
	switch {
	case p.Op == api.KNone:
		return other
	case other.Op == api.KNone:
		return p
	case p.Op == api.KSet && other.Op == api.KSet:
		return setOf(p.parts[0].join(other.parts[0]))
	case p.Op == api.KRec && other.Op == api.KRec:
		return p.joinFields(other)
	case p.Node == other.Node:
		return p
	}
	return leaf(api.KAny)
}

// joinFields tells the join of two records' types.
func (p part) joinFields(other part) part {
	var fields []part
	for _, f := range p.parts {
		twin, both := other.field(f.S)
		if both {
			fields = append(fields, fieldOf(f.S, f.N&twin.N, f.parts[0].join(twin.parts[0])))
		} else {
			fields = append(fields, fieldOf(f.S, 0, f.parts[0]))
		}
	}
	for _, f := range other.parts {
		if _, both := p.field(f.S); !both {
			fields = append(fields, fieldOf(f.S, 0, f.parts[0]))
		}
	}
	slices.SortFunc(fields, byName)
	return recOf(fields)
}

func byName(a, b part) int {
	return strings.Compare(a.S, b.S)
}

// own tells the type that a value has of its own.
func (p part) own() part {
	switch p.Op {
	case api.Bool:
		return leaf(api.KBool)
	case api.Num:
		return leaf(api.KNum)
	case api.Text:
		return leaf(api.KText)
	case api.Ent:
		return part{Node: api.Node{Op: api.KEnt, S: p.S}}
	case api.Set:
		all := leaf(api.KNone)
		for _, v := range p.parts {
			all = all.join(v.own())
		}
		return setOf(all)
	}
	var fields []part
	for _, f := range p.parts {
		fields = append(fields, fieldOf(f.S, 1, f.parts[0].own()))
	}
	return recOf(fields)
}

// leaf tells the type that is all said by what its node is.
func leaf(op int) part {
	return part{Node: api.Node{Op: op}}
}

func setOf(kind part) part {
	return part{api.Node{Op: api.KSet}, []part{kind}}
}

func recOf(fields []part) part {
	return part{api.Node{Op: api.KRec, N: len(fields)}, fields}
}

func fieldOf(s string, must int, kind part) part {
	return part{api.Node{Op: api.KField, N: must, S: s}, []part{kind}}
}
