package check_test

import (
	"slices"
	"testing"

	"wicketgate/api"
	"wicketgate/check"
	"wicketgate/kinds"
	"wicketgate/plain"
	"wicketgate/tree"
)

// chapter is what the document says of an expression, written out once more,
// over places.
type chapter struct {
	s         api.Schema
	who, what string
	context   nodes
	e         nodes
}

// partsAt tells the places of the parts of a node, and the place behind them.
func (c chapter) partsAt(at int) ([]int, int) {
	end, err := tree.End(c.e, at)
	if err != nil {
		panic(err)
	}
	var parts []int
	for from := at + 1; from < end; {
		if c.e[from].Op == api.Field {
			from++
		}
		parts = append(parts, from)
		from, _ = tree.End(c.e, from)
	}
	return parts, end
}

// listAt tells the nodes of the expression at a place.
func (c chapter) listAt(at int) nodes {
	_, end := c.partsAt(at)
	return c.e[at:end]
}

// typeAt tells the type of the expression at a place, or what is wrong.
func (c chapter) typeAt(at int) (nodes, api.Errno) {
	places, _ := c.partsAt(at)
	var parts []nodes
	for _, place := range places {
		part, wrong := c.typeAt(place)
		if wrong != api.OK {
			return nil, wrong
		}
		parts = append(parts, part)
	}
	n := c.e[at]
	if n.Op == api.Get && parts[0][0].Op != api.KRec && parts[0][0].Op != api.KEnt && parts[0][0].Op != api.KNone {
		return nil, api.ErrType
	}
	kind, wrong := c.made(at, parts)
	if wrong != api.OK {
		return nil, wrong
	}
	if len(kind) > api.MaxNodes {
		return nil, api.ErrFull
	}
	if !mayStand(n.Op, parts) {
		return nil, api.ErrType
	}
	return kind, api.OK
}

// made tells the type that CH2 has for a node.
func (c chapter) made(at int, parts []nodes) (nodes, api.Errno) {
	switch n := c.e[at]; n.Op {
	case api.Num, api.Neg, api.Add, api.Sub, api.Mul:
		return kNum, api.OK
	case api.Text:
		return kText, api.OK
	case api.Ent:
		return ofEnt(n.S), api.OK
	case api.Set:
		all, wrong := joined(append([]nodes{kNone}, parts...))
		return ofSet(all), wrong
	case api.Rec:
		var fields []nodes
		places, _ := c.partsAt(at)
		for i, part := range parts {
			fields = append(fields, must(c.e[places[i]-1].S, part))
		}
		return ofRec(fields...), api.OK
	case api.Var:
		kind, found := map[string]nodes{"principal": ofEnt(c.who), "resource": ofEnt(c.what), "action": ofEnt("Action"), "context": c.context}[n.S]
		if !found {
			return nil, api.ErrNone
		}
		return kind, api.OK
	case api.If:
		return joined(parts[1:])
	case api.Get:
		return c.got(at, parts[0])
	}
	return kBool, api.OK
}

// joined tells the join of some types.
func joined(all []nodes) (nodes, api.Errno) {
	join := all[0]
	for _, kind := range all[1:] {
		var err error
		if join, err = kinds.Join(join, kind); err != nil {
			return nil, plain.Told(err)
		}
	}
	return join, api.OK
}

// got tells the type of what a Get asks for, of a part of that type.
func (c chapter) got(at int, rec nodes) (nodes, api.Errno) {
	if rec[0].Op == api.KNone {
		return kNone, api.OK
	}
	if rec[0].Op == api.KEnt {
		i := slices.IndexFunc(c.s.Kinds, func(k api.Kind) bool { return k.Name == rec[0].S })
		if i < 0 {
			return nil, api.ErrNone
		}
		rec = c.s.Kinds[i].Attrs
	}
	needs, parts := fieldsIn(rec)
	part, found := parts[c.e[at].S]
	if !found || !needs[c.e[at].S] && !c.known(at) {
		return nil, api.ErrNone
	}
	return part, api.OK
}

// fieldsIn tells the fields of a record's type by their names: whether it must
// be, and its type.
func fieldsIn(list nodes) (needs map[string]bool, parts map[string]nodes) {
	needs, parts = map[string]bool{}, map[string]nodes{}
	for at := 1; at < len(list); {
		end := at + 2
		for kinds.Check(list[at+1:end]) != nil {
			end++
		}
		needs[list[at].S], parts[list[at].S] = list[at].N == 1, list[at+1:end]
		at = end
	}
	return needs, parts
}

// known tells if the name of a Get is known to be there: all And and If are
// looked at in whose second part it stands, and all that their first one says.
func (c chapter) known(at int) bool {
	for over := range at {
		if c.e[over].Op != api.And && c.e[over].Op != api.If {
			continue
		}
		places, _ := c.partsAt(over)
		if _, end := c.partsAt(places[1]); at < places[1] || at >= end {
			continue
		}
		for _, said := range c.saidAt(places[0]) {
			if c.e[said].Op == api.Has && c.e[said].S == c.e[at].S && slices.Equal(c.listAt(said+1), c.listAt(at+1)) {
				return true
			}
		}
	}
	return false
}

// saidAt tells the places of all that is true where the expression at a place
// is, and is no And.
func (c chapter) saidAt(at int) []int {
	if c.e[at].Op != api.And {
		return []int{at}
	}
	places, _ := c.partsAt(at)
	return append(c.saidAt(places[0]), c.saidAt(places[1])...)
}

// under tells if a type is below another one.
func under(a, b nodes) bool {
	is, err := kinds.Below(a, b)
	return err == nil && is
}

// mayStand tells what CH3 says of the types of a node's parts.
func mayStand(op int, parts []nodes) bool {
	all := func(over ...nodes) bool {
		for i, kind := range over {
			if !under(parts[i], kind) {
				return false
			}
		}
		return true
	}
	isEnt := func(kind nodes) bool {
		return under(kind, ofEnt(kind[0].S)) && kind[0].Op == api.KEnt || under(kind, kNone)
	}
	switch op {
	case api.Not:
		return all(kBool)
	case api.And, api.Or:
		return all(kBool, kBool)
	case api.If:
		return all(kBool, kAny, kAny)
	case api.Neg:
		return all(kNum)
	case api.Lt, api.Le, api.Add, api.Sub, api.Mul:
		return all(kNum, kNum)
	case api.Like:
		return all(kText)
	case api.Is:
		return isEnt(parts[0])
	case api.In:
		return isEnt(parts[0]) && (isEnt(parts[1]) || parts[1][0].Op == api.KSet && isEnt(parts[1][1:]))
	case api.Has:
		return isEnt(parts[0]) || parts[0][0].Op == api.KRec
	case api.One:
		return all(ofSet(kAny), kAny)
	case api.All, api.Any:
		return all(ofSet(kAny), ofSet(kAny))
	}
	return true
}

// wantChapter fails unless Type tells what the chapter says, for a request of
// the first act. It tells the type, if there is one.
func wantChapter(t *testing.T, s api.Schema, who, what string, e nodes) (nodes, bool) {
	t.Helper()
	want, wrong := chapter{s, who, what, s.Acts[0].Context, e}.typeAt(0)
	got, err := check.Type(s, who, s.Acts[0].Id, what, e)
	if plain.Told(err) != wrong || !slices.Equal(got, want) || err != nil && got != nil {
		t.Fatalf("Type of %s in %s: got %s and %v, want %s and %v", shown(e), shown(s), shown(got), err, shown(want), wrong)
	}
	if err == nil && kinds.Check(got) != nil {
		t.Fatalf("Type of %s: %s is none", shown(e), shown(got))
	}
	return got, err == nil
}

// CH4: all ways in which some Has and Gets stand in And, Or, Not, Eq and If.
func TestKnownOfAll(t *testing.T) {
	var leaves, twice []nodes
	for _, line := range []string{"principal has m", "resource has m", "principal.m < 1", "true", "principal has n"} {
		leaves = append(leaves, parsed(t, line))
	}
	of := func(op int, parts ...nodes) nodes { return append(nodes{{Op: op}}, slices.Concat(parts...)...) }
	once := slices.Clone(leaves)
	for _, a := range leaves {
		once = append(once, of(api.Not, a))
		for _, b := range leaves {
			once = append(once, of(api.And, a, b), of(api.Or, a, b), of(api.Eq, a, b))
			for _, c := range leaves {
				once = append(once, of(api.If, a, b, c))
			}
		}
	}
	for _, a := range once {
		for _, b := range once {
			twice = append(twice, of(api.And, a, b), of(api.Or, a, b))
		}
		for _, b := range leaves {
			for _, c := range leaves {
				twice = append(twice, of(api.If, a, b, c), of(api.If, b, a, c), of(api.If, b, c, a), of(api.And, of(api.And, b, a), c), of(api.And, b, of(api.And, a, c)))
			}
		}
	}
	well := 0
	for _, e := range twice {
		if _, is := wantChapter(t, house(), "User", "Doc", e); is {
			well++
		}
	}
	if well < len(twice)/10 || well > len(twice)*9/10 {
		t.Errorf("of %d just %d have a type", len(twice), well)
	}
}

// CH1 to CH3: all nodes, with some of all kinds as parts, in all orders.
func TestTypesOfAllSmallOnes(t *testing.T) {
	var leaves []nodes
	for _, line := range []string{"true", "1", `"a"`, "principal", `X::"a"`, "[]", "[1]", "[principal]", "[[]]", "{}", "{a: 1}", "context", "context.void", "context.any", "x", "principal.m", "!1", "principal has m", "principal has m && 1 < 2"} {
		leaves = append(leaves, parsed(t, line))
	}
	twos := []int{api.And, api.Or, api.Eq, api.Lt, api.Le, api.Add, api.Sub, api.Mul, api.In, api.One, api.All, api.Any}
	asked := func(e ...nodes) { wantChapter(t, house(), "User", "Doc", slices.Concat(e...)) }
	for _, a := range leaves {
		for _, s := range []string{"a", "m", "n"} {
			for _, op := range []int{api.Has, api.Get, api.Like, api.Is} {
				asked(nodes{{Op: op, S: s}}, a)
			}
		}
		asked(nodes{{Op: api.Not}}, a)
		asked(nodes{{Op: api.Neg}}, a)
		for _, b := range leaves {
			for _, op := range twos {
				asked(nodes{{Op: op}}, a, b)
			}
			for _, c := range leaves {
				asked(nodes{{Op: api.If}}, a, b, c)
				asked(nodes{{Op: api.Set, N: 3}}, a, b, c)
				asked(nodes{{Op: api.Rec, N: 3}, {Op: api.Field, S: "a"}}, a, nodes{{Op: api.Field, S: "b"}}, b, nodes{{Op: api.Field, S: "c"}}, c)
			}
		}
	}
}
