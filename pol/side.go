package pol

import (
	"wicketgate/api"
	"wicketgate/name"
)

// side is one of the three of which a policy has a scope, with the name that
// stands for it in expressions; its slot has the same name.
type side struct {
	api.Scope
	name string
}

// action is the side that has no slot.
const action = "action"

// sidesOf tells the sides of a policy, in the order in which it has them.
func sidesOf(p api.Policy) []side {
	return []side{{p.Who, "principal"}, {p.Act, action}, {p.What, "resource"}}
}

// mayBe tells if it has a scope, with nothing in it that such a one has not.
func (s side) mayBe() bool {
	switch s.Op {
	case api.Everywhere:
		return s.Type == "" && s.Uid == api.Uid{}
	case api.Same, api.Below:
		return s.Type == "" && isUid(s.Uid)
	case api.Of:
		return isName(s.Type) && s.Uid == api.Uid{}
	case api.OfBelow:
		return isName(s.Type) && isUid(s.Uid)
	case api.SameSlot, api.BelowSlot:
		return s.Type == "" && s.Uid == api.Uid{} && s.name != action
	}
	return false
}

// expr tells the expression that is true where the scope holds.
func (s side) expr() []api.Node {
	it := api.Node{Op: api.Var, S: s.name}
	slot := api.Node{Op: api.Var, S: slotSign + s.name}
	uid := api.Node{Op: api.Ent, S: s.Uid.Type, T: s.Uid.Id}
	of := api.Node{Op: api.Is, S: s.Type}
	same := api.Node{Op: api.Eq}
	below := api.Node{Op: api.In}
	switch s.Op {
	case api.Same:
		return []api.Node{same, it, uid}
	case api.Below:
		return []api.Node{below, it, uid}
	case api.Of:
		return []api.Node{of, it}
	case api.OfBelow:
		return []api.Node{{Op: api.And}, of, it, below, it, uid}
	case api.SameSlot:
		return []api.Node{same, it, slot}
	case api.BelowSlot:
		return []api.Node{below, it, slot}
	}
	return []api.Node{{Op: api.Bool, N: 1}}
}

func isName(s string) bool {
	return name.Check(s) == nil
}

// isUid asks Write, which has an answer for uids alone.
func isUid(u api.Uid) bool {
	_, err := name.Write(u)
	return err == nil
}
