package pol_test

import (
	"fmt"
	"math"
	"reflect"
	"regexp"
	"slices"
	"strings"
	"testing"

	"wicketgate/api"
	"wicketgate/plain"
	"wicketgate/pol"
)

// Short forms of what every call here is about.
type (
	nodes  = []api.Node
	scope  = api.Scope
	cond   = api.Cond
	policy = api.Policy
)

func uidOf(kind, id string) api.Uid { return api.Uid{Type: kind, Id: id} }

// wantTold fails unless this is the error that is wanted.
func wantTold(t *testing.T, call string, err error, want api.Errno) {
	t.Helper()
	if plain.Told(err) != want || want == api.OK && err != nil {
		t.Errorf("%s: got %v, want %v", call, err, want)
	}
}

// shown has no more of a thing than a message can bear.
func shown(x any) string {
	s := fmt.Sprintf("%+q", fmt.Sprint(x))
	if len(s) > 1000 {
		s = s[:1000] + "..."
	}
	return s
}

// same tells if two policies are, where an empty list and nil are the same.
func same(a, b policy) bool {
	conds := slices.EqualFunc(a.Conds, b.Conds, func(x, y cond) bool {
		return x.Unless == y.Unless && slices.Equal(x.Expr, y.Expr)
	})
	a.Conds, b.Conds = nil, nil
	return conds && reflect.DeepEqual(a, b)
}

// cloned shares no memory with a policy.
func cloned(p policy) policy {
	p.Conds = slices.Clone(p.Conds)
	for i, c := range p.Conds {
		p.Conds[i].Expr = slices.Clone(c.Expr)
	}
	return p
}

// Short forms of expressions.

func variable(s string) nodes { return nodes{{Op: api.Var, S: s}} }
func truth(n int) nodes       { return nodes{{Op: api.Bool, N: n}} }

// nots is so many Not about an expression.
func nots(count int, e nodes) nodes {
	return append(slices.Repeat(nodes{{Op: api.Not}}, count), e...)
}

// numbers is a set of so many numbers, all alike.
func numbers(count int) nodes {
	return append(nodes{{Op: api.Set, N: count}}, slices.Repeat(nodes{{Op: api.Num, N: 7}}, count)...)
}

// when and unless are conditions.
func when(e nodes) cond   { return cond{Expr: e} }
func unless(e nodes) cond { return cond{Unless: true, Expr: e} }

// meant is a scope with what the chapter says of it: the expression of it, and
// what is written behind the name of its side, which SIDE stands for.
type meant struct {
	scope scope
	text  string
	expr  func(it, slot api.Node) nodes
}

// Scopes as they are meant, by their Op.

func everywhere() meant {
	return meant{scope{}, "", func(it, slot api.Node) nodes { return truth(1) }}
}

func sameAs(kind, id, text string) meant {
	return meant{scope{Op: api.Same, Uid: uidOf(kind, id)}, " == " + text, func(it, slot api.Node) nodes {
		return nodes{{Op: api.Eq}, it, {Op: api.Ent, S: kind, T: id}}
	}}
}

func belowIt(kind, id, text string) meant {
	return meant{scope{Op: api.Below, Uid: uidOf(kind, id)}, " in " + text, func(it, slot api.Node) nodes {
		return nodes{{Op: api.In}, it, {Op: api.Ent, S: kind, T: id}}
	}}
}

func ofType(s string) meant {
	return meant{scope{Op: api.Of, Type: s}, " is " + s, func(it, slot api.Node) nodes {
		return nodes{{Op: api.Is, S: s}, it}
	}}
}

func ofBelow(s, kind, id, text string) meant {
	return meant{scope{Op: api.OfBelow, Type: s, Uid: uidOf(kind, id)}, " is " + s + " in " + text, func(it, slot api.Node) nodes {
		return nodes{{Op: api.And}, {Op: api.Is, S: s}, it, {Op: api.In}, it, {Op: api.Ent, S: kind, T: id}}
	}}
}

func sameSlot() meant {
	return meant{scope{Op: api.SameSlot}, " == ?SIDE", func(it, slot api.Node) nodes {
		return nodes{{Op: api.Eq}, it, slot}
	}}
}

func belowSlot() meant {
	return meant{scope{Op: api.BelowSlot}, " in ?SIDE", func(it, slot api.Node) nodes {
		return nodes{{Op: api.In}, it, slot}
	}}
}

var longName = strings.Repeat("N", api.MaxName)

// unslotted are scopes that each side may have; slotted are those that action
// may not.
func unslotted() []meant {
	return []meant{
		everywhere(), sameAs("A", "a", `A :: "a"`), belowIt("B", "", `B :: ""`), ofType("A"), ofBelow("A", "B", "b", `B :: "b"`),
		sameAs("in", "?resource", `in :: "?resource"`), belowIt("is", `"\`, `is :: "\"\\"`), ofType("in"), ofBelow("in", "in", " in ", `in :: " in "`),
		sameAs(longName, strings.Repeat("x", api.MaxText), longName+` :: "`+strings.Repeat("x", api.MaxText)+`"`), ofType(longName), belowIt("principal", ") {", `principal :: ") {"`),
	}
}

func slotted() []meant { return []meant{sameSlot(), belowSlot()} }

// meaning is a policy with what the chapter says of it.
type meaning struct {
	policy policy
	text   string
	expr   nodes
}

// headed is a policy of three scopes and no conditions.
func headed(name string, forbid bool, who, act, what meant) meaning {
	m := meaning{policy: policy{Name: name, Forbid: forbid, Who: who.scope, Act: act.scope, What: what.scope}}
	m.text = name + " : permit ("
	if forbid {
		m.text = name + " : forbid ("
	}
	m.expr = nodes{{Op: api.And}, {Op: api.And}}
	for i, side := range []string{"principal", "action", "resource"} {
		one := []meant{who, act, what}[i]
		m.text += []string{" ", " , ", " , "}[i] + side + strings.ReplaceAll(one.text, "SIDE", side)
		m.expr = append(m.expr, one.expr(variable(side)[0], variable("?" + side)[0])...)
	}
	m.text += " )"
	return m
}

// and is the policy with one more condition, of which this is the text.
func (m meaning) and(c cond, text string) meaning {
	m.policy.Conds = append(slices.Clip(m.policy.Conds), c)
	part := c.Expr
	m.text += map[bool]string{false: " when { ", true: " unless { "}[c.Unless] + text + " }"
	if c.Unless {
		part = nots(1, part)
	}
	m.expr = slices.Concat(nodes{{Op: api.And}}, m.expr, part)
	return m
}

// plainest is the policy that has nothing that it need not have.
func plainest() meaning { return headed("p", false, everywhere(), everywhere(), everywhere()) }

// written are expressions that a condition may have, and how they are written.
func written() map[string]nodes {
	return map[string]nodes{
		"true":           truth(1),
		"a":              variable("a"),
		"principal":      variable("principal"),
		"{ }":            {{Op: api.Rec}},
		"{ a : { } }":    {{Op: api.Rec, N: 1}, {Op: api.Field, S: "a"}, {Op: api.Rec}},
		"{ } == [ { } ]": {{Op: api.Eq}, {Op: api.Rec}, {Op: api.Set, N: 1}, {Op: api.Rec}},
		`"}"`:            {{Op: api.Text, S: "}"}},
		`"{"`:            {{Op: api.Text, S: "{"}},
		`"} when {"`:     {{Op: api.Text, S: "} when {"}},
		`"?s"`:           {{Op: api.Text, S: "?s"}},
		`"\"" like "\\"`: {{Op: api.Like, S: `\`}, {Op: api.Text, S: `"`}},
		`when :: "when"`: {{Op: api.Ent, S: "when", T: "when"}},
		"when":           variable("when"),
		"unless":         variable("unless"),
		"- 7":            {{Op: api.Num, N: -7}},
		"- ( 7 )":        {{Op: api.Neg}, {Op: api.Num, N: 7}},
		"[ 2 , 1 , 1 ]":  {{Op: api.Set, N: 3}, {Op: api.Num, N: 2}, {Op: api.Num, N: 1}, {Op: api.Num, N: 1}},
		"! ( a && b )":   {{Op: api.Not}, {Op: api.And}, {Op: api.Var, S: "a"}, {Op: api.Var, S: "b"}},
		"if a then { when : b } else { } has c": {
			{Op: api.If}, {Op: api.Var, S: "a"}, {Op: api.Rec, N: 1}, {Op: api.Field, S: "when"}, {Op: api.Var, S: "b"}, {Op: api.Has, S: "c"}, {Op: api.Rec}},
	}
}

// meanings are policies of all kinds.
func meanings() []meaning {
	var all []meaning
	for _, who := range append(unslotted(), slotted()...) {
		for _, act := range unslotted() {
			for _, what := range append(unslotted(), slotted()...) {
				name := []string{"p", "permit", "if", longName}[len(all)%4]
				all = append(all, headed(name, len(all)%3 == 0, who, act, what))
			}
		}
	}
	for a, x := range written() {
		all = append(all, plainest().and(when(x), a), plainest().and(unless(x), a))
		for b, y := range written() {
			all = append(all, headed("q", true, sameSlot(), ofType("A"), belowSlot()).and(unless(x), a).and(when(y), b))
			all = append(all, plainest().and(when(x), a).and(when(y), b).and(unless(y), b).and(unless(x), a))
		}
	}
	return all
}

// PO1: policies that may be.
func TestCheckMayBe(t *testing.T) {
	for _, m := range meanings() {
		wantTold(t, "Check of "+shown(m.policy), pol.Check(m.policy), api.OK)
	}
	p := plainest().policy
	p.Conds = slices.Repeat([]cond{unless(nots(199, truth(0)))}, api.MaxConds)
	wantTold(t, "Check of 4 conditions of 200 nodes", pol.Check(p), api.OK)
	p.Conds = []cond{}
	wantTold(t, "Check of an empty list", pol.Check(p), api.OK)
}

// PO1: what Check of chapter 1 tells of the name.
func TestCheckName(t *testing.T) {
	for name, want := range map[string]api.Errno{
		"a": api.OK, "_": api.OK, "Z9_": api.OK, "true": api.OK, "principal": api.OK, longName: api.OK,
		"": api.ErrSyntax, "9": api.ErrSyntax, "a b": api.ErrSyntax, "a-b": api.ErrSyntax, "?a": api.ErrSyntax, "a\x00": api.ErrSyntax, "\xff": api.ErrSyntax,
		longName + "N": api.ErrFull, longName + " ": api.ErrSyntax,
	} {
		p := plainest().policy
		p.Name = name
		wantAll(t, p, want)
	}
}

// wantAll fails unless all that is told of a policy is that error.
func wantAll(t *testing.T, p policy, want api.Errno) {
	t.Helper()
	wantTold(t, "Check of "+shown(p), pol.Check(p), want)
	e, err := pol.Expr(p)
	wantTold(t, "Expr of "+shown(p), err, want)
	s, wrong := pol.Write(p)
	wantTold(t, "Write of "+shown(p), wrong, want)
	if want != api.OK && (e != nil || s != "") {
		t.Errorf("%s: got %s and %q with an error", shown(p), shown(e), s)
	}
}

// The forms of names and uids, by another hand than the program's.
var (
	nameForm = regexp.MustCompile(`^[A-Za-z_][A-Za-z_0-9]{0,19}$`)
	textForm = regexp.MustCompile(`^[ -~]{0,60}$`)
)

// PO1: of each side a scope is one, or ErrSyntax, whatever is wrong with it.
func TestCheckScopes(t *testing.T) {
	types := []string{"", "A", "in", "9", "A ", longName, longName + "N"}
	uids := []api.Uid{
		{}, uidOf("A", "a"), uidOf("A", ""), uidOf("", "a"), uidOf("9", "a"), uidOf("A", "\n"), uidOf("A", "\x7f"), uidOf("in", `"`),
		uidOf(longName, strings.Repeat("x", 60)), uidOf(longName+"N", "a"), uidOf("A", strings.Repeat("x", 61)),
	}
	ops := []int{math.MinInt, -1, 0, 1, 2, 3, 4, 5, 6, 7, 8, 256, 1 << 32, math.MaxInt}
	for _, op := range ops {
		for _, kind := range types {
			for _, u := range uids {
				s := scope{Op: op, Type: kind, Uid: u}
				isType, isUid := nameForm.MatchString(kind), nameForm.MatchString(u.Type) && textForm.MatchString(u.Id)
				noType, noUid := kind == "", u == api.Uid{}
				may := map[int]bool{0: noType && noUid, 1: noType && isUid, 2: noType && isUid, 3: isType && noUid, 4: isType && isUid}[op]
				slot := (op == 5 || op == 6) && noType && noUid
				wantScope(t, policy{Name: "p", Who: s}, may || slot)
				wantScope(t, policy{Name: "p", Act: s}, may)
				wantScope(t, policy{Name: "p", What: s}, may || slot)
			}
		}
	}
}

func wantScope(t *testing.T, p policy, may bool) {
	t.Helper()
	want := api.ErrSyntax
	if may {
		want = api.OK
	}
	wantAll(t, p, want)
}

// PO1: what Check of chapter 7 tells of a condition, and slots in it, wherever
// they stand; a text that looks like one is none.
func TestCheckConds(t *testing.T) {
	for what, c := range map[string]struct {
		e    nodes
		want api.Errno
	}{
		"nothing":             {nil, api.ErrSyntax},
		"two expressions":     {append(truth(1), truth(1)...), api.ErrSyntax},
		"no whole expression": {nots(3, nil), api.ErrSyntax},
		"a word as a name":    {variable("if"), api.ErrSyntax},
		"a type":              {nodes{{Op: api.KBool}}, api.ErrSyntax},
		"201 nodes":           {nots(200, truth(1)), api.ErrFull},
		"201 nodes of none":   {make(nodes, 201), api.ErrFull},
		"201 and a slot":      {nots(200, variable("?a")), api.ErrFull},
		"a slot":              {variable("?principal"), api.ErrSyntax},
		"another slot":        {variable("?A"), api.ErrSyntax},
		"a slot below 199":    {nots(199, variable("?_")), api.ErrSyntax},
		"a slot as last part": {nodes{{Op: api.If}, {Op: api.Var, S: "a"}, {Op: api.Var, S: "b"}, {Op: api.Var, S: "?z"}}, api.ErrSyntax},
		"a slot as first one": {nodes{{Op: api.And}, {Op: api.Var, S: "?z"}, {Op: api.Var, S: "A"}}, api.ErrSyntax},
		"a slot in a record":  {nodes{{Op: api.Rec, N: 1}, {Op: api.Field, S: "a"}, {Op: api.Var, S: "?b"}}, api.ErrSyntax},
		"texts":               {nodes{{Op: api.Like, S: "?a"}, {Op: api.Text, S: "?b"}}, api.OK},
		"an id":               {nodes{{Op: api.Ent, S: "A", T: "?b"}}, api.OK},
	} {
		for ahead := range api.MaxConds {
			for _, last := range []cond{when(c.e), unless(c.e)} {
				p := plainest().policy
				p.Conds = append(slices.Repeat([]cond{when(variable("x"))}, ahead), last)
				wantTold(t, fmt.Sprintf("Check of %s behind %d", what, ahead), pol.Check(p), c.want)
				if c.want != api.OK {
					wantAll(t, p, c.want)
				}
			}
		}
	}
	for _, count := range []int{5, 6, 100, 1 << 16} {
		for _, c := range []cond{{}, when(truth(1))} {
			p := plainest().policy
			p.Conds = slices.Repeat([]cond{c}, count)
			wantAll(t, p, api.ErrFull)
		}
	}
}

// PO1, P3: of two things that are wrong the first one is told.
func TestCheckOrder(t *testing.T) {
	condFault := func(at int, e nodes) func(p *policy) {
		return func(p *policy) { p.Conds[at].Expr = e }
	}
	// The later one is made first: of the two of the name the earlier one stays.
	faults := []struct {
		what string
		make func(p *policy)
		want api.Errno
	}{
		{"a name that is none", func(p *policy) { p.Name = "1" }, api.ErrSyntax},
		{"a long name", func(p *policy) { p.Name = longName + "N" }, api.ErrFull},
		{"no scope of Who", func(p *policy) { p.Who.Op = 9 }, api.ErrSyntax},
		{"a slot of Act", func(p *policy) { p.Act.Op = api.SameSlot }, api.ErrSyntax},
		{"no scope of What", func(p *policy) { p.What.Type = longName + "N" }, api.ErrSyntax},
		{"5 conditions", func(p *policy) { p.Conds = append(p.Conds, cond{}) }, api.ErrFull},
		{"a slot in the first", condFault(0, variable("?a")), api.ErrSyntax},
		{"201 nodes in the second", condFault(1, nots(200, truth(1))), api.ErrFull},
		{"nothing in the third", condFault(2, nil), api.ErrSyntax},
		{"201 nodes in the last", condFault(3, make(nodes, 201)), api.ErrFull},
	}
	for i, early := range faults {
		for j, late := range faults {
			if j <= i {
				continue
			}
			p := plainest().policy
			p.Conds = slices.Repeat([]cond{when(truth(1))}, api.MaxConds)
			late.make(&p)
			early.make(&p)
			wantTold(t, early.what+" and "+late.what, pol.Check(p), early.want)
			wantAll(t, p, early.want)
		}
	}
}

// PO2: the expression of each policy.
func TestExpr(t *testing.T) {
	for _, m := range meanings() {
		got, err := pol.Expr(m.policy)
		if err != nil || !slices.Equal(got, m.expr) {
			t.Fatalf("Expr of %s: got %s and %v, want %s", shown(m.policy), shown(got), err, shown(m.expr))
		}
	}
	// Once in full: each And is about all that is ahead of its second part.
	m := headed("p", true, ofBelow("A", "B", "b", ""), sameAs("Action", "see", ""), belowSlot())
	m = m.and(when(variable("a")), "").and(unless(variable("b")), "").and(when(truth(0)), "")
	got, err := pol.Expr(m.policy)
	want := nodes{
		{Op: api.And}, {Op: api.And}, {Op: api.And}, {Op: api.And}, {Op: api.And},
		{Op: api.And}, {Op: api.Is, S: "A"}, {Op: api.Var, S: "principal"}, {Op: api.In}, {Op: api.Var, S: "principal"}, {Op: api.Ent, S: "B", T: "b"},
		{Op: api.Eq}, {Op: api.Var, S: "action"}, {Op: api.Ent, S: "Action", T: "see"},
		{Op: api.In}, {Op: api.Var, S: "resource"}, {Op: api.Var, S: "?resource"},
		{Op: api.Var, S: "a"}, {Op: api.Not}, {Op: api.Var, S: "b"}, {Op: api.Bool, N: 0},
	}
	if err != nil || !slices.Equal(got, want) {
		t.Errorf("got %s and %v, want %s", shown(got), err, shown(want))
	}
}

// PO2: as many nodes as may be, and one more. That a policy has no expression
// does not keep it from being written.
func TestExprCounts(t *testing.T) {
	for _, c := range []struct {
		what  string
		conds []cond
		nodes int
	}{
		{"one", []cond{when(nots(193, truth(1)))}, 200},
		{"one, and one more", []cond{when(nots(194, truth(1)))}, 201},
		{"unless", []cond{unless(nots(192, truth(1)))}, 200},
		{"unless, and one more", []cond{unless(nots(193, truth(1)))}, 201},
		{"all nodes", []cond{when(nots(199, truth(1)))}, 206},
		{"two", []cond{when(nots(96, truth(1))), when(nots(95, truth(1)))}, 200},
		{"two, and one more", []cond{when(nots(96, truth(1))), unless(nots(95, truth(1)))}, 201},
		{"four", slices.Repeat([]cond{when(nots(46, truth(1)))}, 4), 197},
		{"four, and more", slices.Repeat([]cond{unless(nots(46, truth(1)))}, 4), 201},
	} {
		p := plainest().policy
		p.Conds = c.conds
		got, err := pol.Expr(p)
		if c.nodes <= api.MaxNodes {
			wantTold(t, "Expr of "+c.what, err, api.OK)
		} else {
			wantTold(t, "Expr of "+c.what, err, api.ErrFull)
			c.nodes = 0
		}
		if len(got) != c.nodes {
			t.Errorf("Expr of %s: got %d nodes, want %d", c.what, len(got), c.nodes)
		}
		wantRead(t, p)
	}
}

// PO2: of more nodes than may be, whatever else is told of them.
func TestExprOfFarTooMany(t *testing.T) {
	p := plainest().policy
	p.Conds = slices.Repeat([]cond{unless(nots(199, truth(1)))}, api.MaxConds)
	got, err := pol.Expr(p)
	wantTold(t, "Expr of 4 conditions of 200 nodes", err, api.ErrFull)
	if got != nil {
		t.Errorf("got %s with an error", shown(got))
	}
	// It need not be written to have an expression.
	p.Conds = []cond{when(numbers(193))}
	got, err = pol.Expr(p)
	wantTold(t, "Expr of many words", err, api.OK)
	if len(got) != api.MaxNodes {
		t.Errorf("got %d nodes", len(got))
	}
}

// P2, P4: nothing is written into what is handed in, nor behind it, and what
// comes out is fresh.
func TestMemory(t *testing.T) {
	memory := slices.Concat(nots(1, variable("a")), truth(1), variable("b"))
	conds := []cond{when(memory[:2]), unless(memory[2:3]), when(nil)}
	p := policy{Name: "p", Conds: conds[:2]}
	before, all := slices.Clone(memory), cloned(policy{Conds: conds})
	e, err := pol.Expr(p)
	wantTold(t, "Expr", err, api.OK)
	again, _ := pol.Expr(p)
	s, err := pol.Write(p)
	wantTold(t, "Write", err, api.OK)
	for i := range e[:cap(e)] {
		e[:cap(e)][i] = api.Node{Op: api.Num, N: i}
	}
	if !slices.Equal(memory, before) || !same(policy{Conds: conds}, all) {
		t.Errorf("it was written into %s", shown(conds))
	}
	if now, _ := pol.Expr(p); !slices.Equal(now, again) {
		t.Errorf("Expr: got %s, then %s", shown(again), shown(now))
	}
	one, _ := pol.Read(s)
	two, _ := pol.Read(s)
	for i := range one.Conds {
		list := one.Conds[i].Expr
		for j := range list[:cap(list)] {
			list[:cap(list)][j] = api.Node{Op: api.Num, N: j}
		}
		if !slices.Equal(two.Conds[i].Expr, p.Conds[i].Expr) || i == 0 && !slices.Equal(one.Conds[1].Expr, p.Conds[1].Expr) {
			t.Errorf("lists of Read share memory")
		}
	}
	if three, err := pol.Read(s); err != nil || !same(three, p) {
		t.Errorf("Read: got %s and %v, want %s", shown(three), err, shown(p))
	}
}

// P2, P4: a copy is the same, whatever it is a copy of, and shares no memory
// with it, nor two of its lists with each other.
func TestCopy(t *testing.T) {
	memory := slices.Concat(nots(1, variable("a")), truth(1), variable("b"))
	conds := []cond{when(memory[:2]), unless(memory[2:3]), when(memory[:2]), when(nil), unless(nil)}
	for _, p := range []policy{
		{},
		{Name: "\n", Forbid: true, Who: scope{Op: -1, Type: "A", Uid: uidOf("A", "a")}, Conds: conds[:4]},
		{Name: "p", Act: scope{Op: api.Below, Uid: uidOf("A", "a")}, What: scope{Op: api.SameSlot}, Conds: conds[:3]},
		{Name: "p", Conds: slices.Repeat(conds[:3], 100)},
	} {
		before, all := slices.Clone(memory), cloned(policy{Conds: conds})
		copied, again := pol.Copy(p), pol.Copy(p)
		if !same(copied, p) {
			t.Errorf("got %s, want %s", shown(copied), shown(p))
		}
		for i, c := range copied.Conds {
			if !slices.Equal(c.Expr, again.Conds[i].Expr) {
				t.Errorf("two lists of %s share memory", shown(p))
			}
			for j := range c.Expr[:cap(c.Expr)] {
				c.Expr[:cap(c.Expr)][j] = api.Node{Op: api.Num, N: j}
			}
		}
		for i := range copied.Conds[:cap(copied.Conds)] {
			copied.Conds[:cap(copied.Conds)][i] = cond{Unless: i%2 == 0}
		}
		if !same(again, p) || !slices.Equal(memory, before) || !same(policy{Conds: conds}, all) {
			t.Errorf("it was written into %s", shown(conds))
		}
	}
}
